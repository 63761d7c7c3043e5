/-
  slices.Index, Contains and Equal at dots: whether a list has a dot; whether two lists are the same.
-/
import Derived.Test.YtnkpfhipgcmplaaGreatDoorBase
namespace Go.Proofs.YtnkpfhipgcmplaaGreatDoor
open Go.RowKit Go.Sort

set_option maxHeartbeats 1000000 in
theorem index_any (l : List (Int × Int)) (A : Option Addr) (cap : Nat) (x : Int × Int) (w : World) (hl : l.length ≤ maxLen) (hr : Row w A l) :
    Calls Tryz.prog 111 #[.slice A l.length cap, .agg #[.int .i64 x.1, .int .i64 x.2]] w fun e w' => ∃ r : Int, e = .returned (.int .i64 r) ∧ Hid (decide (0 ≤ r) = memB l x) ∧ Gr w w' := by
  obtain ⟨a, b⟩ := x
  unfold maxLen at hl
  have hE := eqDot
  have hG := guardDot
  go_enter Tryz.func111, Tryz.ntmps111
  go_wp2
  go_loopw [8] (fun i wr => ∃ k : Nat, k ≤ l.length ∧ i = .int .i64 k ∧ Hid (∀ j (h : j < l.length), j < k → l[j] ≠ (a, b)) ∧ Gr (w.alloc (.cells #[.int .i64 a, .int .i64 b] 77)) wr) (fun i _ => l.length - (intOf i).toNat)
  case atStart => exact ⟨0, Nat.zero_le _, rfl, fun j _ hj => absurd hj (Nat.not_lt_zero _), Gr.refl _⟩
  case round =>
    obtain ⟨k, hk, rfl, hno, hgr⟩ := hrel
    have d0 := box1 hgr (j := 0) rfl
    have d1 := box1 hgr (j := 1) rfl
    by_cases hlt : k < l.length
    · have hltz : (k : Int) < (l.length : Int) := by omega
      obtain ⟨bb, off, rfl, hb, hcs⟩ := (hr.gr (unbox hgr)).at hlt
      have e0 := (hcs k hlt).1
      have e1 := (hcs k hlt).2
      clear hcs
      cases hq : (a == (l[k]).1 && b == (l[k]).2)
      · have hne : Hid (l[k] ≠ (a, b)) := by
          intro h
          rw [h] at hq
          simp at hq
        go_wp2
        go_quiet (fail)
        go_wp2
        go_roundw
        case rel =>
          refine ⟨k + 1, by omega, by go_num, ?_, hgr.trans ⟨nq, #[], by rw [grow_empty]⟩⟩
          intro j hj hjk
          by_cases e : j = k
          · subst e; exact hne
          · exact hno j hj (by omega)
        case measure => simp [intOf]; omega
      · have hfin : Hid (decide ((0 : Int) ≤ (k : Int)) = memB l (a, b)) := by
          have : (a, b) ∈ l := by
            have h : l[k] = (a, b) := by
              simp only [Bool.and_eq_true, beq_iff_eq] at hq
              exact Prod.ext hq.1.symm hq.2.symm
            rw [← h]; exact List.getElem_mem hlt
          show decide _ = _
          simp [memB, this]
        go_wp2
        go_quiet (fail)
        go_wp2
        go_ret
        exact ⟨_, rfl, hfin, (unbox hgr).trans ⟨nq, #[], by rw [grow_empty]⟩⟩
    · have hltz : ¬ (k : Int) < (l.length : Int) := by omega
      have hfin : Hid (decide ((0 : Int) ≤ -1) = memB l (a, b)) := by
        have : (a, b) ∉ l := by
          intro h
          obtain ⟨j, hj, e⟩ := List.getElem_of_mem h
          exact hno j hj (by omega) e
        show decide _ = _
        simp [memB, this]
      go_wp2
      go_ret
      exact ⟨_, rfl, hfin, unbox hgr⟩

set_option maxHeartbeats 1000000 in
theorem contains_any (l : List (Int × Int)) (A : Option Addr) (cap : Nat) (x : Int × Int) (w : World) (hl : l.length ≤ maxLen) (hr : Row w A l) :
    Calls Tryz.prog 86 #[.slice A l.length cap, .agg #[.int .i64 x.1, .int .i64 x.2]] w fun e w' => e = .returned (.bool (memB l x)) ∧ Gr w w' := by
  go_enter Tryz.func86, Tryz.ntmps86
  go_wp2_with fail
  refine (index_any l A cap x _ hl (hr.gr ((Gr.refl _).alloc _))).mono ?_
  rintro e w' ⟨r, rfl, hrr, hg⟩
  go_wp2
  go_ret
  exact ⟨by rw [← hrr.out]; rfl, unbox hg⟩



end Go.Proofs.YtnkpfhipgcmplaaGreatDoor
