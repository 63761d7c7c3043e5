/-
  viewref.Has: it says whether a context has a dot.
-/
import Derived.Test.YtbhhpijidbhipaaLeaf
namespace Go.Proofs.Ytbhhpijidbhipaa
open Go.RowKit Go.Sort

set_option maxHeartbeats 1000000 in
theorem rhas_any (c : Ctx) (A : Option Addr) (cap : Nat) (x : Int × Int) (w : World) (hl : c.l.length ≤ maxLen) (hr : Row w A c.l) :
    Calls Try.prog 20 #[.agg #[.int .i64 c.c0, .int .i64 c.c1, .int .i64 c.c2, .int .i64 c.c3, .slice A c.l.length cap], .agg #[.int .i64 x.1, .int .i64 x.2]] w fun e w' => e = .returned (.bool (hasB c x)) ∧ Gr w w' := by
  obtain ⟨a, b⟩ := x
  obtain ⟨c0, c1, c2, c3, l⟩ := c
  simp only at hl hr ⊢
  unfold maxLen at hl
  have hE := eqDot
  have hG := guardDot
  go_enter Try.func20, Try.ntmps20
  go_wp2
  go_loopw [5] (fun i wr => ∃ k : Nat, k ≤ l.length ∧ i = .int .i64 k ∧ Hid (∀ j (h : j < l.length), j < k → l[j] ≠ (a, b)) ∧ Gr ((w.alloc (.cells #[.int .i64 c0, .int .i64 c1, .int .i64 c2, .int .i64 c3, .slice A l.length cap] 25)).alloc (.cells #[.int .i64 a, .int .i64 b] 51)) wr) (fun i _ => l.length - (intOf i).toNat)
  case atStart => exact ⟨0, Nat.zero_le _, rfl, fun j _ hj => absurd hj (Nat.not_lt_zero _), Gr.refl _⟩
  case round =>
    obtain ⟨k, hk, rfl, hno, hgr⟩ := hrel
    have k4 := box1 (unbox_in hgr) (j := 4) rfl
    have d0 := box2 hgr (j := 0) rfl
    have d1 := box2 hgr (j := 1) rfl
    have hgw := unbox (unbox hgr)
    by_cases hlt : k < l.length
    · have hltz : (k : Int) < (l.length : Int) := by omega
      rcases hr.gr hgw with h0 | ⟨bb, off, rfl, hb, hcs⟩
      · exact absurd hlt (by simp [h0])
      have e0 := (hcs k hlt).1
      have e1 := (hcs k hlt).2
      clear hcs
      cases hq : ((l[k]).1 == a && (l[k]).2 == b)
      · have hne : Hid (l[k] ≠ (a, b)) := by
          intro h
          rw [h] at hq
          simp at hq
        go_wp2
        go_quiet (fail)
        go_wp2
        go_roundw
        case rel =>
          refine ⟨k + 1, by omega, by go_num, ?_, hgr.trans ⟨nq, #[], by rw [grow_empty]⟩⟩
          intro j hj hjk
          by_cases e : j = k
          · subst e; exact hne
          · exact hno j hj (by omega)
        case measure => simp [intOf]; omega
      · have hfin : Hid (hasB ⟨c0, c1, c2, c3, l⟩ (a, b) = true) := by
          have : (a, b) ∈ l := by
            have h : l[k] = (a, b) := by
              simp only [Bool.and_eq_true, beq_iff_eq] at hq
              exact Prod.ext hq.1 hq.2
            rw [← h]; exact List.getElem_mem hlt
          show hasB _ _ = true
          simp [hasB, this]
        go_wp2
        go_quiet (fail)
        go_wp2
        go_ret
        rw [hfin.out]
        exact ⟨rfl, hgw.trans ⟨nq, #[], by rw [grow_empty]⟩⟩
    · have hnot : l.contains (a, b) = false := by
        rw [List.contains_eq_any_beq, List.any_eq_false]
        intro x hx
        obtain ⟨j, hj, rfl⟩ := List.getElem_of_mem hx
        have := hno j hj (by omega)
        simp only [Bool.not_eq_true, beq_eq_false_iff_ne, ne_eq]
        exact fun h => this h.symm
      have k0 := box1 (unbox_in hgr) (j := 0) rfl
      have k1 := box1 (unbox_in hgr) (j := 1) rfl
      have k2 := box1 (unbox_in hgr) (j := 2) rfl
      have k3 := box1 (unbox_in hgr) (j := 3) rfl
      have hB : Hid (hasB ⟨c0, c1, c2, c3, l⟩ (a, b) = (inB a 0 3 && decide (1 ≤ b) && decide (b ≤ clk ⟨c0, c1, c2, c3, l⟩ a))) := by
        show hasB _ _ = _
        simp only [hasB, hnot, Bool.false_or]
      clear hnot hE hG hno
      cases h1 : inB a 0 3
      · have hfin : Hid (hasB ⟨c0, c1, c2, c3, l⟩ (a, b) = false) := by show hasB _ _ = _; rw [hB.out, h1]; rfl
        clear hB
        go_wp2
        go_quiet ((go_at_call 21; exact Calls.quiet_of_same (in_no h1 _)))
        go_wp2
        go_ret
        rw [hfin.out]
        exact ⟨rfl, hgw.trans ⟨nq, #[], by rw [grow_empty]⟩⟩
      · by_cases h2 : 1 ≤ b
        · have h4 : a = 0 ∨ a = 1 ∨ a = 2 ∨ a = 3 := by simp [inB] at h1; omega
          have hfin : Hid (hasB ⟨c0, c1, c2, c3, l⟩ (a, b) = decide (b ≤ clk ⟨c0, c1, c2, c3, l⟩ a)) := by show hasB _ _ = _; rw [hB.out, h1]; simp [h2]
          clear hB
          have hm : max (0 : Int) (min a 3) = a := by omega
          have hm3 : max (0 : Int) 3 = 3 := by omega
          rcases h4 with rfl | rfl | rfl | rfl
          all_goals
            go_wp2
            go_quiet ((go_at_call 21; exact Calls.quiet_of_same (in_yes h1 _)))
            go_wp2
            go_ret
            rw [hfin.out]
            exact ⟨by simp [clk], hgw.trans ⟨nq, #[], by rw [grow_empty]⟩⟩
        · have hfin : Hid (hasB ⟨c0, c1, c2, c3, l⟩ (a, b) = false) := by show hasB _ _ = _; rw [hB.out, h1]; simp [h2]
          have h2b : decide (1 ≤ b) = false := by simpa using h2
          clear hB h2
          go_wp2
          go_quiet ((go_at_call 21; exact Calls.quiet_of_same (in_yes h1 _)))
          go_wp2
          go_ret
          rw [hfin.out]
          exact ⟨rfl, hgw.trans ⟨nq, #[], by rw [grow_empty]⟩⟩

end Go.Proofs.Ytbhhpijidbhipaa
