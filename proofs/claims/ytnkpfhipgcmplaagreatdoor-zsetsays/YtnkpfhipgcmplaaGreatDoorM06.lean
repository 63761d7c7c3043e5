/-
  slices.Index, Contains and Equal at dots: whether a list has a dot; whether two lists are the same.
  dot.Has: whether a context has a dot. dot.Next: the next dot of a node.
-/
import Derived.Test.YtnkpfhipgcmplaaGreatDoorM01
import Derived.Test.YtnkpfhipgcmplaaGreatDoorM05
namespace Go.Proofs.YtnkpfhipgcmplaaGreatDoor
open Go.RowKit Go.Sort

set_option maxHeartbeats 1000000 in
theorem index_any (l : List (Int × Int)) (A : Option Addr) (cap : Nat) (x : Int × Int) (w : World) (hl : l.length ≤ maxLen) (hr : Row w A l) :
    Calls Tryz.prog 111 #[.slice A l.length cap, .agg #[.int .i64 x.1, .int .i64 x.2]] w fun e w' => ∃ r : Int, e = .returned (.int .i64 r) ∧ Hid (decide (0 ≤ r) = memB l x) ∧ Gr w w' := by
  obtain ⟨a, b⟩ := x
  unfold maxLen at hl
  have hE := eqDot
  have hG := guardDot
  go_enter Tryz.func111, Tryz.ntmps111
  go_wp2
  go_loopw [8] (fun i wr => ∃ k : Nat, k ≤ l.length ∧ i = .int .i64 k ∧ Hid (∀ j (h : j < l.length), j < k → l[j] ≠ (a, b)) ∧ Gr (w.alloc (.cells #[.int .i64 a, .int .i64 b] 77)) wr) (fun i _ => l.length - (intOf i).toNat)
  case atStart => exact ⟨0, Nat.zero_le _, rfl, fun j _ hj => absurd hj (Nat.not_lt_zero _), Gr.refl _⟩
  case round =>
    obtain ⟨k, hk, rfl, hno, hgr⟩ := hrel
    have d0 := box1 hgr (j := 0) rfl
    have d1 := box1 hgr (j := 1) rfl
    by_cases hlt : k < l.length
    · have hltz : (k : Int) < (l.length : Int) := by omega
      obtain ⟨bb, off, rfl, hb, hcs⟩ := (hr.gr (unbox hgr)).at hlt
      have e0 := (hcs k hlt).1
      have e1 := (hcs k hlt).2
      clear hcs
      cases hq : (a == (l[k]).1 && b == (l[k]).2)
      · have hne : Hid (l[k] ≠ (a, b)) := by
          intro h
          rw [h] at hq
          simp at hq
        go_wp2
        go_quiet (fail)
        go_wp2
        go_roundw
        case rel =>
          refine ⟨k + 1, by omega, by go_num, ?_, hgr.trans ⟨nq, #[], by rw [grow_empty]⟩⟩
          intro j hj hjk
          by_cases e : j = k
          · subst e; exact hne
          · exact hno j hj (by omega)
        case measure => simp [intOf]; omega
      · have hfin : Hid (decide ((0 : Int) ≤ (k : Int)) = memB l (a, b)) := by
          have : (a, b) ∈ l := by
            have h : l[k] = (a, b) := by
              simp only [Bool.and_eq_true, beq_iff_eq] at hq
              exact Prod.ext hq.1.symm hq.2.symm
            rw [← h]; exact List.getElem_mem hlt
          show decide _ = _
          simp [memB, this]
        go_wp2
        go_quiet (fail)
        go_wp2
        go_ret
        exact ⟨_, rfl, hfin, (unbox hgr).trans ⟨nq, #[], by rw [grow_empty]⟩⟩
    · have hltz : ¬ (k : Int) < (l.length : Int) := by omega
      have hfin : Hid (decide ((0 : Int) ≤ -1) = memB l (a, b)) := by
        have : (a, b) ∉ l := by
          intro h
          obtain ⟨j, hj, e⟩ := List.getElem_of_mem h
          exact hno j hj (by omega) e
        show decide _ = _
        simp [memB, this]
      go_wp2
      go_ret
      exact ⟨_, rfl, hfin, unbox hgr⟩

set_option maxHeartbeats 1000000 in
theorem contains_any (l : List (Int × Int)) (A : Option Addr) (cap : Nat) (x : Int × Int) (w : World) (hl : l.length ≤ maxLen) (hr : Row w A l) :
    Calls Tryz.prog 86 #[.slice A l.length cap, .agg #[.int .i64 x.1, .int .i64 x.2]] w fun e w' => e = .returned (.bool (memB l x)) ∧ Gr w w' := by
  go_enter Tryz.func86, Tryz.ntmps86
  go_wp2_with fail
  refine (index_any l A cap x _ hl (hr.gr ((Gr.refl _).alloc _))).mono ?_
  rintro e w' ⟨r, rfl, hrr, hg⟩
  go_wp2
  go_ret
  exact ⟨by rw [← hrr.out]; rfl, unbox hg⟩



end Go.Proofs.YtnkpfhipgcmplaaGreatDoor

namespace Go.Proofs.YtnkpfhipgcmplaaGreatDoor
open Go.RowKit Go.Sort

theorem hasB_clk {c : Ctx} {a b : Int} (h1 : inB a 0 3 = true) (h2 : 1 ≤ b) (h3 : b ≤ clk c a) : hasB c (a, b) = true := by simp [hasB, h1, h2, h3]
theorem hasB_mem {c : Ctx} {x : Int × Int} (h : ¬ (inB x.1 0 3 = true ∧ 1 ≤ x.2 ∧ x.2 ≤ clk c x.1)) : hasB c x = memB c.l x := by
  unfold hasB memB
  cases h1 : inB x.1 0 3
  · simp
  · by_cases h2 : 1 ≤ x.2
    · have h3 : ¬ x.2 ≤ clk c x.1 := fun h3 => h ⟨h1, h2, h3⟩
      simp [h2, h3]
    · simp [h2]

set_option maxHeartbeats 1000000 in
theorem has_any (c : Ctx) (A : Option Addr) (cap : Nat) (x : Int × Int) (w : World) (hl : c.l.length ≤ maxLen) (hr : Row w A c.l) :
    Calls Tryz.prog 67 #[.agg #[.int .i64 c.c0, .int .i64 c.c1, .int .i64 c.c2, .int .i64 c.c3, .slice A c.l.length cap], .agg #[.int .i64 x.1, .int .i64 x.2]] w fun e w' => e = .returned (.bool (hasB c x)) ∧ Gr w w' := by
  obtain ⟨a, b⟩ := x
  have hgr := ((Gr.refl ((w.alloc (.cells #[.int .i64 c.c0, .int .i64 c.c1, .int .i64 c.c2, .int .i64 c.c3, .slice A c.l.length cap] 26)).alloc (.cells #[.int .i64 a, .int .i64 b] 77))))
  have k4 := box1 (unbox_in hgr) (j := 4) rfl
  have d0 := box2 hgr (j := 0) rfl
  have d1 := box2 hgr (j := 1) rfl
  have hrow := hr.gr (unbox (unbox hgr))
  have hgw := unbox (unbox hgr)
  go_enter Tryz.func67, Tryz.ntmps67
  cases h1 : inB a 0 3
  · have hfin : Hid (hasB c (a, b) = memB c.l (a, b)) := hasB_mem (by simp [h1])
    go_wp2
    generalize (w.alloc (.cells #[.int .i64 c.c0, .int .i64 c.c1, .int .i64 c.c2, .int .i64 c.c3, .slice A c.l.length cap] 26)).alloc (.cells #[.int .i64 a, .int .i64 b] 77) = W at k4 d0 d1 hrow hgw ⊢
    clear hgr
    go_quiet ((go_at_call 85; exact Calls.quiet_of_same (isNode_g h1 _)))
    go_wp2_with fail
    refine (contains_any c.l A cap (a, b) _ hl (hrow.gr ⟨nq, #[], by rw [grow_empty]⟩)).mono ?_
    rintro e w' ⟨rfl, hg⟩
    go_wp2
    go_ret
    rw [hfin.out]
    exact ⟨rfl, (hgw.trans ⟨nq, #[], by rw [grow_empty]⟩).trans hg⟩
  · have hn : 0 ≤ a ∧ a < 4 := by simp [inB] at h1; omega
    have kc := box1 (unbox_in hgr) (clkCell (c := c) hn.1 hn.2)
    by_cases h2 : 1 ≤ b
    · by_cases h3 : b ≤ clk c a
      · have hfin : Hid (hasB c (a, b) = true) := hasB_clk h1 h2 h3
        go_wp2
        generalize (w.alloc (.cells #[.int .i64 c.c0, .int .i64 c.c1, .int .i64 c.c2, .int .i64 c.c3, .slice A c.l.length cap] 26)).alloc (.cells #[.int .i64 a, .int .i64 b] 77) = W at k4 d0 d1 hrow hgw kc ⊢
        clear hgr
        go_quiet ((go_at_call 85; exact Calls.quiet_of_same (isNode_g h1 _)))
        go_wp2
        go_ret
        rw [hfin.out]
        exact ⟨rfl, (hgw.trans ⟨nq, #[], by rw [grow_empty]⟩)⟩
      · have hfin : Hid (hasB c (a, b) = memB c.l (a, b)) := hasB_mem (by simp [h3])
        have h3b : decide (b ≤ clk c a) = false := by simpa using h3
        go_wp2
        generalize (w.alloc (.cells #[.int .i64 c.c0, .int .i64 c.c1, .int .i64 c.c2, .int .i64 c.c3, .slice A c.l.length cap] 26)).alloc (.cells #[.int .i64 a, .int .i64 b] 77) = W at k4 d0 d1 hrow hgw kc ⊢
        clear hgr
        go_quiet ((go_at_call 85; exact Calls.quiet_of_same (isNode_g h1 _)))
        go_wp2_with fail
        refine (contains_any c.l A cap (a, b) _ hl (hrow.gr ⟨nq, #[], by rw [grow_empty]⟩)).mono ?_
        rintro e w' ⟨rfl, hg⟩
        go_wp2
        go_ret
        rw [hfin.out]
        exact ⟨rfl, (hgw.trans ⟨nq, #[], by rw [grow_empty]⟩).trans hg⟩
    · have hfin : Hid (hasB c (a, b) = memB c.l (a, b)) := hasB_mem (by simp [h2])
      have h2b : decide (1 ≤ b) = false := by simpa using h2
      clear h2
      go_wp2
      generalize (w.alloc (.cells #[.int .i64 c.c0, .int .i64 c.c1, .int .i64 c.c2, .int .i64 c.c3, .slice A c.l.length cap] 26)).alloc (.cells #[.int .i64 a, .int .i64 b] 77) = W at k4 d0 d1 hrow hgw kc ⊢
      clear hgr
      go_quiet ((go_at_call 85; exact Calls.quiet_of_same (isNode_g h1 _)))
      go_wp2_with fail
      refine (contains_any c.l A cap (a, b) _ hl (hrow.gr ⟨nq, #[], by rw [grow_empty]⟩)).mono ?_
      rintro e w' ⟨rfl, hg⟩
      go_wp2
      go_ret
      rw [hfin.out]
      exact ⟨rfl, (hgw.trans ⟨nq, #[], by rw [grow_empty]⟩).trans hg⟩

end Go.Proofs.YtnkpfhipgcmplaaGreatDoor
