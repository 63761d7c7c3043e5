/-
  dot.Has: whether a context has a dot. dot.Next: the next dot of a node.
-/
import Derived.Test.YtbhhpijidbhipaaCheck
import Derived.Test.YtbhhpijidbhipaaSlices
namespace Go.Proofs.Ytbhhpijidbhipaa
open Go.RowKit Go.Sort

theorem hasB_clk {c : Ctx} {a b : Int} (h1 : inB a 0 3 = true) (h2 : 1 ≤ b) (h3 : b ≤ clk c a) : hasB c (a, b) = true := by simp [hasB, h1, h2, h3]
theorem hasB_mem {c : Ctx} {x : Int × Int} (h : ¬ (inB x.1 0 3 = true ∧ 1 ≤ x.2 ∧ x.2 ≤ clk c x.1)) : hasB c x = memB c.l x := by
  unfold hasB memB
  cases h1 : inB x.1 0 3
  · simp
  · by_cases h2 : 1 ≤ x.2
    · have h3 : ¬ x.2 ≤ clk c x.1 := fun h3 => h ⟨h1, h2, h3⟩
      simp [h2, h3]
    · simp [h2]

set_option maxHeartbeats 1000000 in
theorem has_any (c : Ctx) (A : Option Addr) (cap : Nat) (x : Int × Int) (w : World) (hl : c.l.length ≤ maxLen) (hr : Row w A c.l) :
    Calls Try.prog 45 #[.agg #[.int .i64 c.c0, .int .i64 c.c1, .int .i64 c.c2, .int .i64 c.c3, .slice A c.l.length cap], .agg #[.int .i64 x.1, .int .i64 x.2]] w fun e w' => e = .returned (.bool (hasB c x)) ∧ Gr w w' := by
  obtain ⟨a, b⟩ := x
  have hgr := ((Gr.refl ((w.alloc (.cells #[.int .i64 c.c0, .int .i64 c.c1, .int .i64 c.c2, .int .i64 c.c3, .slice A c.l.length cap] 25)).alloc (.cells #[.int .i64 a, .int .i64 b] 51))))
  have k4 := box1 (unbox_in hgr) (j := 4) rfl
  have d0 := box2 hgr (j := 0) rfl
  have d1 := box2 hgr (j := 1) rfl
  have hrow := hr.gr (unbox (unbox hgr))
  have hgw := unbox (unbox hgr)
  go_enter Try.func45, Try.ntmps45
  cases h1 : inB a 0 3
  · have hfin : Hid (hasB c (a, b) = memB c.l (a, b)) := hasB_mem (by simp [h1])
    go_wp2
    generalize (w.alloc (.cells #[.int .i64 c.c0, .int .i64 c.c1, .int .i64 c.c2, .int .i64 c.c3, .slice A c.l.length cap] 25)).alloc (.cells #[.int .i64 a, .int .i64 b] 51) = W at k4 d0 d1 hrow hgw ⊢
    clear hgr
    go_quiet ((go_at_call 52; exact Calls.quiet_of_same (isNode_g h1 _)))
    go_wp2_with fail
    refine (contains_any c.l A cap (a, b) _ hl (hrow.gr ⟨nq, #[], by rw [grow_empty]⟩)).mono ?_
    rintro e w' ⟨rfl, hg⟩
    go_wp2
    go_ret
    rw [hfin.out]
    exact ⟨rfl, (hgw.trans ⟨nq, #[], by rw [grow_empty]⟩).trans hg⟩
  · have hn : 0 ≤ a ∧ a < 4 := by simp [inB] at h1; omega
    have kc := box1 (unbox_in hgr) (clkCell (c := c) hn.1 hn.2)
    by_cases h2 : 1 ≤ b
    · by_cases h3 : b ≤ clk c a
      · have hfin : Hid (hasB c (a, b) = true) := hasB_clk h1 h2 h3
        go_wp2
        generalize (w.alloc (.cells #[.int .i64 c.c0, .int .i64 c.c1, .int .i64 c.c2, .int .i64 c.c3, .slice A c.l.length cap] 25)).alloc (.cells #[.int .i64 a, .int .i64 b] 51) = W at k4 d0 d1 hrow hgw kc ⊢
        clear hgr
        go_quiet ((go_at_call 52; exact Calls.quiet_of_same (isNode_g h1 _)))
        go_wp2
        go_ret
        rw [hfin.out]
        exact ⟨rfl, (hgw.trans ⟨nq, #[], by rw [grow_empty]⟩)⟩
      · have hfin : Hid (hasB c (a, b) = memB c.l (a, b)) := hasB_mem (by simp [h3])
        have h3b : decide (b ≤ clk c a) = false := by simpa using h3
        go_wp2
        generalize (w.alloc (.cells #[.int .i64 c.c0, .int .i64 c.c1, .int .i64 c.c2, .int .i64 c.c3, .slice A c.l.length cap] 25)).alloc (.cells #[.int .i64 a, .int .i64 b] 51) = W at k4 d0 d1 hrow hgw kc ⊢
        clear hgr
        go_quiet ((go_at_call 52; exact Calls.quiet_of_same (isNode_g h1 _)))
        go_wp2_with fail
        refine (contains_any c.l A cap (a, b) _ hl (hrow.gr ⟨nq, #[], by rw [grow_empty]⟩)).mono ?_
        rintro e w' ⟨rfl, hg⟩
        go_wp2
        go_ret
        rw [hfin.out]
        exact ⟨rfl, (hgw.trans ⟨nq, #[], by rw [grow_empty]⟩).trans hg⟩
    · have hfin : Hid (hasB c (a, b) = memB c.l (a, b)) := hasB_mem (by simp [h2])
      have h2b : decide (1 ≤ b) = false := by simpa using h2
      clear h2
      go_wp2
      generalize (w.alloc (.cells #[.int .i64 c.c0, .int .i64 c.c1, .int .i64 c.c2, .int .i64 c.c3, .slice A c.l.length cap] 25)).alloc (.cells #[.int .i64 a, .int .i64 b] 51) = W at k4 d0 d1 hrow hgw kc ⊢
      clear hgr
      go_quiet ((go_at_call 52; exact Calls.quiet_of_same (isNode_g h1 _)))
      go_wp2_with fail
      refine (contains_any c.l A cap (a, b) _ hl (hrow.gr ⟨nq, #[], by rw [grow_empty]⟩)).mono ?_
      rintro e w' ⟨rfl, hg⟩
      go_wp2
      go_ret
      rw [hfin.out]
      exact ⟨rfl, (hgw.trans ⟨nq, #[], by rw [grow_empty]⟩).trans hg⟩

end Go.Proofs.Ytbhhpijidbhipaa
