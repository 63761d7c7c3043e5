/-
  viewref.Two: what is wrong with two contexts.
-/
import Derived.Test.YtjgefnipkaecgaaBoth
import Derived.Test.YtjgefnipkaecgaaRContext
namespace Go.Proofs.Ytjgefnipkaecgaa
open Go.RowKit Go.Sort

set_option maxHeartbeats 1000000 in
theorem two_any (a b : Ctx) (A B : Option Addr) (ca cb : Nat) (w : World) (hal : a.l.length ≤ maxLen) (hbl : b.l.length ≤ maxLen) (hra : Row w A a.l) (hrb : Row w B b.l) :
    Calls Try.prog 20 #[.agg #[.int .i64 a.c0, .int .i64 a.c1, .int .i64 a.c2, .int .i64 a.c3, .slice A a.l.length ca], .agg #[.int .i64 b.c0, .int .i64 b.c1, .int .i64 b.c2, .int .i64 b.c3, .slice B b.l.length cb]] w fun e w' => e = .returned (.int .i64 (errB a b)) ∧ Gr w w' := by
  have hg0 : Gr w ((w.alloc (.cells #[.int .i64 a.c0, .int .i64 a.c1, .int .i64 a.c2, .int .i64 a.c3, .slice A a.l.length ca] 25)).alloc (.cells #[.int .i64 b.c0, .int .i64 b.c1, .int .i64 b.c2, .int .i64 b.c3, .slice B b.l.length cb] 25)) := ((Gr.refl w).alloc _).alloc _
  have hb0 : CtxAt ((w.alloc (.cells #[.int .i64 a.c0, .int .i64 a.c1, .int .i64 a.c2, .int .i64 a.c3, .slice A a.l.length ca] 25)).alloc (.cells #[.int .i64 b.c0, .int .i64 b.c1, .int .i64 b.c2, .int .i64 b.c3, .slice B b.l.length cb] 25)) (w.heap.size + 1) b B cb := CtxAt.new 25 (hrb.gr ((Gr.refl _).alloc _)) (by simp)
  go_enter Try.func20, Try.ntmps20
  go_wp2_with fail
  refine (rcontext_any a A ca _ hal (hra.gr hg0)).mono ?_
  rintro e w1 ⟨rfl, hg1⟩
  by_cases he : errC a = 0
  · have hE : Hid (errB a b = errC b) := by show errB a b = _; simp [errB, he]
    have heb : (errC a != 0) = false := by simpa using he
    clear he
    obtain ⟨k0, k1, k2, k3, k4, _, hrow⟩ := hb0.gr hg1
    go_wp2_with fail
    refine (rcontext_any b B cb _ hbl hrow).mono ?_
    rintro e w2 ⟨rfl, hg2⟩
    go_wp2
    go_ret
    rw [hE.out]
    exact ⟨rfl, (hg0.trans hg1).trans hg2⟩
  · have hE : Hid (errB a b = errC a) := by show errB a b = _; simp [errB, he]
    have heb : (errC a != 0) = true := by simpa using he
    clear he
    go_wp2
    go_ret
    rw [hE.out]
    exact ⟨rfl, hg0.trans hg1⟩

end Go.Proofs.Ytjgefnipkaecgaa
