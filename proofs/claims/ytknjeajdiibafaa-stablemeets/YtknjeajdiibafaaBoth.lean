/-
  dot.checkBoth: what is wrong with two contexts.
-/
import Derived.Test.YtknjeajdiibafaaSortMath
import Derived.Test.YtknjeajdiibafaaAt
import Derived.Test.YtknjeajdiibafaaCheck
import Derived.Test.YtknjeajdiibafaaNext
namespace Go.Proofs.Ytknjeajdiibafaa
open Go.RowKit Go.Sort

/-- What is wrong with two contexts. -/
def errB (a b : Ctx) : Int := if errC a = 0 then errC b else errC a

set_option maxHeartbeats 1000000 in
theorem checkBoth_any (a b : Ctx) (A B : Option Addr) (ca cb : Nat) (w : World) (hal : a.l.length ≤ maxLen) (hbl : b.l.length ≤ maxLen) (hra : Row w A a.l) (hrb : Row w B b.l) :
    Calls Try.prog 33 #[.agg #[.int .i64 a.c0, .int .i64 a.c1, .int .i64 a.c2, .int .i64 a.c3, .slice A a.l.length ca], .agg #[.int .i64 b.c0, .int .i64 b.c1, .int .i64 b.c2, .int .i64 b.c3, .slice B b.l.length cb]] w fun e w' => e = .returned (.int .i64 (errB a b)) ∧ Gr w w' := by
  have hg0 : Gr w ((w.alloc (.cells #[.int .i64 a.c0, .int .i64 a.c1, .int .i64 a.c2, .int .i64 a.c3, .slice A a.l.length ca] 25)).alloc (.cells #[.int .i64 b.c0, .int .i64 b.c1, .int .i64 b.c2, .int .i64 b.c3, .slice B b.l.length cb] 25)) := ((Gr.refl w).alloc _).alloc _
  have hb0 : CtxAt ((w.alloc (.cells #[.int .i64 a.c0, .int .i64 a.c1, .int .i64 a.c2, .int .i64 a.c3, .slice A a.l.length ca] 25)).alloc (.cells #[.int .i64 b.c0, .int .i64 b.c1, .int .i64 b.c2, .int .i64 b.c3, .slice B b.l.length cb] 25)) (w.heap.size + 1) b B cb := CtxAt.new 25 (hrb.gr ((Gr.refl _).alloc _)) (by simp)
  go_enter Try.func33, Try.ntmps33
  go_wp2_with fail
  refine (check_any a A ca _ hal (hra.gr hg0)).mono ?_
  rintro e w1 ⟨rfl, hg1⟩
  by_cases he : errC a = 0
  · have hE : Hid (errB a b = errC b) := by show errB a b = _; simp [errB, he]
    have heb : (errC a != 0) = false := by simpa using he
    clear he
    obtain ⟨k0, k1, k2, k3, k4, _, hrow⟩ := hb0.gr hg1
    go_wp2_with fail
    refine (check_any b B cb _ hbl hrow).mono ?_
    rintro e w2 ⟨rfl, hg2⟩
    go_wp2
    go_ret
    rw [hE.out]
    exact ⟨rfl, (hg0.trans hg1).trans hg2⟩
  · have hE : Hid (errB a b = errC a) := by show errB a b = _; simp [errB, he]
    have heb : (errC a != 0) = true := by simpa using he
    clear he
    go_wp2
    go_ret
    rw [hE.out]
    exact ⟨rfl, hg0.trans hg1⟩

theorem errB_ok {a b : Ctx} (h : errB a b = 0) : errC a = 0 ∧ errC b = 0 := by
  unfold errB at h
  by_cases ha : errC a = 0
  · rw [if_pos ha] at h; exact ⟨ha, h⟩
  · rw [if_neg ha] at h; exact absurd h ha
theorem errC_parts {c : Ctx} (h : errC c = 0) : okClk c = true ∧ c.l.length ≤ 400 ∧ ∀ k, k < c.l.length → okAt c k = true := by
  have h1 := errC_okClk h
  unfold errC at h
  rw [h1] at h
  by_cases hl : 400 < c.l.length
  · simp [hl] at h
  · refine ⟨h1, by omega, ?_⟩
    cases ha : (List.range c.l.length).all (okAt c)
    · simp [hl, ha] at h
    · intro k hk
      rw [List.all_eq_true] at ha
      exact ha k (by simpa using hk)
theorem errC_right {c : Ctx} (h : errC c = 0) : ∀ x ∈ c.l, rightB x = true := by
  intro x hx
  obtain ⟨j, hj, rfl⟩ := List.getElem_of_mem hx
  have := (errC_parts h).2.2 j hj
  cases j with
  | zero => rw [okAt_zero hj rfl] at this; simp at this; exact this.1
  | succ m => rw [okAt_succ hj rfl rfl] at this; simp at this; exact this.1.1
end Go.Proofs.Ytknjeajdiibafaa
