/-
  slices.Index, Contains and Equal at dots: whether a list has a dot; whether two lists are the same.
-/
import Derived.Test.YtbhhpijidbhipaaBase
namespace Go.Proofs.Ytbhhpijidbhipaa
open Go.RowKit Go.Sort

set_option maxHeartbeats 1000000 in
theorem index_any (l : List (Int × Int)) (A : Option Addr) (cap : Nat) (x : Int × Int) (w : World) (hl : l.length ≤ maxLen) (hr : Row w A l) :
    Calls Try.prog 56 #[.slice A l.length cap, .agg #[.int .i64 x.1, .int .i64 x.2]] w fun e w' => ∃ r : Int, e = .returned (.int .i64 r) ∧ Hid (decide (0 ≤ r) = memB l x) ∧ Gr w w' := by
  obtain ⟨a, b⟩ := x
  unfold maxLen at hl
  have hE := eqDot
  have hG := guardDot
  go_enter Try.func56, Try.ntmps56
  go_wp2
  go_loopw [8] (fun i wr => ∃ k : Nat, k ≤ l.length ∧ i = .int .i64 k ∧ Hid (∀ j (h : j < l.length), j < k → l[j] ≠ (a, b)) ∧ Gr (w.alloc (.cells #[.int .i64 a, .int .i64 b] 51)) wr) (fun i _ => l.length - (intOf i).toNat)
  case atStart => exact ⟨0, Nat.zero_le _, rfl, fun j _ hj => absurd hj (Nat.not_lt_zero _), Gr.refl _⟩
  case round =>
    obtain ⟨k, hk, rfl, hno, hgr⟩ := hrel
    have d0 := box1 hgr (j := 0) rfl
    have d1 := box1 hgr (j := 1) rfl
    by_cases hlt : k < l.length
    · have hltz : (k : Int) < (l.length : Int) := by omega
      obtain ⟨bb, off, rfl, hb, hcs⟩ := (hr.gr (unbox hgr)).at hlt
      have e0 := (hcs k hlt).1
      have e1 := (hcs k hlt).2
      clear hcs
      cases hq : (a == (l[k]).1 && b == (l[k]).2)
      · have hne : Hid (l[k] ≠ (a, b)) := by
          intro h
          rw [h] at hq
          simp at hq
        go_wp2
        go_quiet (fail)
        go_wp2
        go_roundw
        case rel =>
          refine ⟨k + 1, by omega, by go_num, ?_, hgr.trans ⟨nq, #[], by rw [grow_empty]⟩⟩
          intro j hj hjk
          by_cases e : j = k
          · subst e; exact hne
          · exact hno j hj (by omega)
        case measure => simp [intOf]; omega
      · have hfin : Hid (decide ((0 : Int) ≤ (k : Int)) = memB l (a, b)) := by
          have : (a, b) ∈ l := by
            have h : l[k] = (a, b) := by
              simp only [Bool.and_eq_true, beq_iff_eq] at hq
              exact Prod.ext hq.1.symm hq.2.symm
            rw [← h]; exact List.getElem_mem hlt
          show decide _ = _
          simp [memB, this]
        go_wp2
        go_quiet (fail)
        go_wp2
        go_ret
        exact ⟨_, rfl, hfin, (unbox hgr).trans ⟨nq, #[], by rw [grow_empty]⟩⟩
    · have hltz : ¬ (k : Int) < (l.length : Int) := by omega
      have hfin : Hid (decide ((0 : Int) ≤ -1) = memB l (a, b)) := by
        have : (a, b) ∉ l := by
          intro h
          obtain ⟨j, hj, e⟩ := List.getElem_of_mem h
          exact hno j hj (by omega) e
        show decide _ = _
        simp [memB, this]
      go_wp2
      go_ret
      exact ⟨_, rfl, hfin, unbox hgr⟩

set_option maxHeartbeats 1000000 in
theorem contains_any (l : List (Int × Int)) (A : Option Addr) (cap : Nat) (x : Int × Int) (w : World) (hl : l.length ≤ maxLen) (hr : Row w A l) :
    Calls Try.prog 53 #[.slice A l.length cap, .agg #[.int .i64 x.1, .int .i64 x.2]] w fun e w' => e = .returned (.bool (memB l x)) ∧ Gr w w' := by
  go_enter Try.func53, Try.ntmps53
  go_wp2_with fail
  refine (index_any l A cap x _ hl (hr.gr ((Gr.refl _).alloc _))).mono ?_
  rintro e w' ⟨r, rfl, hrr, hg⟩
  go_wp2
  go_ret
  exact ⟨by rw [← hrr.out]; rfl, unbox hg⟩

set_option maxHeartbeats 1000000 in
theorem equal_any (l m : List (Int × Int)) (A B : Option Addr) (cap dap : Nat) (w : World) (hl : l.length ≤ maxLen) (hm : m.length ≤ maxLen) (hr : Row w A l) (hs : Row w B m) :
    Calls Try.prog 43 #[.slice A l.length cap, .slice B m.length dap] w fun e w' => e = .returned (.bool (eqL l m)) ∧ Gr w w' := by
  unfold maxLen at hl hm
  have hE := neqDot
  have hG := guardDot
  by_cases hlen : l.length = m.length
  · have hlz : ((l.length : Int) != (m.length : Int)) = false := by rw [hlen]; simp
    have hlH : Hid (l.length = m.length) := hlen
    clear hlen
    go_enter Try.func43, Try.ntmps43
    go_wp2
    go_loopw [13] (fun i wr => ∃ k : Nat, k ≤ l.length ∧ i = .int .i64 k ∧ Hid (∀ j (h : j < l.length) (h' : j < m.length), j < k → l[j] = m[j]) ∧ Gr w wr) (fun i _ => l.length - (intOf i).toNat)
    case atStart => exact ⟨0, Nat.zero_le _, rfl, fun j _ _ hj => absurd hj (Nat.not_lt_zero _), Gr.refl _⟩
    case round =>
      obtain ⟨k, hk, rfl, hno, hgr⟩ := hrel
      by_cases hlt : k < l.length
      · have hltz : (k : Int) < (l.length : Int) := by omega
        have hlt2 : k < m.length := by have := hlH.out; omega
        have hltz2 : (k : Int) < (m.length : Int) := by omega
        obtain ⟨bb, off, rfl, hb, hcs⟩ := (hr.gr hgr).at hlt
        obtain ⟨bb2, off2, rfl, hb2, hcs2⟩ := (hs.gr hgr).at hlt2
        have e0 := (hcs k hlt).1
        have e1 := (hcs k hlt).2
        have f0 := (hcs2 k hlt2).1
        have f1 := (hcs2 k hlt2).2
        clear hcs hcs2
        cases hq : ((l[k]).1 == (m[k]).1 && (l[k]).2 == (m[k]).2)
        · have hfin : Hid (eqL l m = false) := by
            show eqL l m = false
            simp only [eqL, decide_eq_false_iff_not]
            intro h
            subst h
            simp at hq
          go_wp2
          go_quiet (fail)
          go_wp2
          go_ret
          rw [hfin.out]
          exact ⟨rfl, hgr.trans ⟨nq, #[], by rw [grow_empty]⟩⟩
        · have hne : Hid (l[k] = m[k]) := by
            simp only [Bool.and_eq_true, beq_iff_eq] at hq
            exact Prod.ext hq.1 hq.2
          go_wp2
          go_quiet (fail)
          go_wp2
          go_roundw
          case rel =>
            refine ⟨k + 1, by omega, by go_num, ?_, hgr.trans ⟨nq, #[], by rw [grow_empty]⟩⟩
            intro j hj hj' hjk
            by_cases e : j = k
            · subst e; exact hne
            · exact hno j hj hj' (by omega)
          case measure => simp [intOf]; omega
      · have hltz : ¬ (k : Int) < (l.length : Int) := by omega
        have hfin : Hid (eqL l m = true) := by
          show eqL l m = true
          simp only [eqL, decide_eq_true_eq]
          exact List.ext_getElem hlH.out fun j h1 h2 => hno j h1 h2 (by omega)
        go_wp2
        go_ret
        rw [hfin.out]
        exact ⟨rfl, hgr⟩
  · have hlz : ((l.length : Int) != (m.length : Int)) = true := by simp; omega
    have hfin : Hid (eqL l m = false) := by
      show eqL l m = false
      simp only [eqL, decide_eq_false_iff_not]
      intro h
      exact hlen (by rw [h])
    clear hlen
    go_enter Try.func43, Try.ntmps43
    go_wp2
    go_ret
    rw [hfin.out]
    exact ⟨rfl, Gr.refl _⟩

end Go.Proofs.Ytbhhpijidbhipaa
