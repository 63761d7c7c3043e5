/-
  dot.Minus: the dots that a has and b hasn't. dot.Less: has b all that a has?
-/
import Derived.Test.YtjgefnipkaecgabBoth
import Derived.Test.YtjgefnipkaecgabMissd
namespace Go.Proofs.Ytjgefnipkaecgab
open Go.RowKit Go.Sort

/-- The error that Minus tells. -/
def minusE (a b : Ctx) : Int := if errB a b = 0 then (if 400 < (missK a b 4).length then 2 else 0) else errB a b
/-- The dots that Minus tells. -/
def minusL (a b : Ctx) : List (Int × Int) := if minusE a b = 0 then missK a b 4 else []

theorem minus_is {a b : Ctx} (he : errB a b = 0) : missE a b = minusE a b ∧ missL a b = minusL a b := by
  unfold minusL minusE missE missL
  rw [if_pos he]
  by_cases h : 400 < (missK a b 4).length <;> simp [h]

set_option maxHeartbeats 4000000 in
theorem minus_any (a b : Ctx) (A B : Option Addr) (ca cb : Nat) (w : World) (hal : a.l.length ≤ maxLen) (hbl : b.l.length ≤ maxLen) (hra : Row w A a.l) (hrb : Row w B b.l) :
    Calls Try.prog 16 #[.agg #[.int .i64 a.c0, .int .i64 a.c1, .int .i64 a.c2, .int .i64 a.c3, .slice A a.l.length ca], .agg #[.int .i64 b.c0, .int .i64 b.c1, .int .i64 b.c2, .int .i64 b.c3, .slice B b.l.length cb]] w fun e w' => ∃ C cp, e = .returned (.tuple #[.slice C (minusL a b).length cp, .int .i64 (minusE a b)]) ∧ Row w' C (minusL a b) ∧ (C = none → cp = 0) ∧ Below w.heap.size w w' := by
  have hg0 : Gr w ((w.alloc (.cells #[.int .i64 a.c0, .int .i64 a.c1, .int .i64 a.c2, .int .i64 a.c3, .slice A a.l.length ca] 25)).alloc (.cells #[.int .i64 b.c0, .int .i64 b.c1, .int .i64 b.c2, .int .i64 b.c3, .slice B b.l.length cb] 25)) := ((Gr.refl w).alloc _).alloc _
  have ha0 : CtxAt ((w.alloc (.cells #[.int .i64 a.c0, .int .i64 a.c1, .int .i64 a.c2, .int .i64 a.c3, .slice A a.l.length ca] 25)).alloc (.cells #[.int .i64 b.c0, .int .i64 b.c1, .int .i64 b.c2, .int .i64 b.c3, .slice B b.l.length cb] 25)) w.heap.size a A ca := (CtxAt.new 25 hra rfl).gr ((Gr.refl _).alloc _)
  have hb0 : CtxAt ((w.alloc (.cells #[.int .i64 a.c0, .int .i64 a.c1, .int .i64 a.c2, .int .i64 a.c3, .slice A a.l.length ca] 25)).alloc (.cells #[.int .i64 b.c0, .int .i64 b.c1, .int .i64 b.c2, .int .i64 b.c3, .slice B b.l.length cb] 25)) (w.heap.size + 1) b B cb := CtxAt.new 25 (hrb.gr ((Gr.refl _).alloc _)) (by simp)
  have hck := checkBoth_any a b A B ca cb ((w.alloc (.cells #[.int .i64 a.c0, .int .i64 a.c1, .int .i64 a.c2, .int .i64 a.c3, .slice A a.l.length ca] 25)).alloc (.cells #[.int .i64 b.c0, .int .i64 b.c1, .int .i64 b.c2, .int .i64 b.c3, .slice B b.l.length cb] 25)) hal hbl (hra.gr hg0) (hrb.gr hg0)
  have hckH : Hid _ := hck
  clear hck
  unfold maxLen at hal hbl
  go_enter Try.func16, Try.ntmps16
  go_wp2_with fail
  refine Calls.mono (show Calls _ _ _ _ _ from hckH.out) ?_
  rintro e w1 ⟨rfl, hg1⟩
  clear hckH
  by_cases he : errB a b = 0
  · have heb : (errB a b != 0) = false := by simpa using he
    have heH : Hid (errB a b = 0) := he
    clear he
    have hab := errB_ok heH.out
    have hpa := errC_parts hab.1
    have hpb := errC_parts hab.2
    have hal4 : a.l.length ≤ 400 := hpa.2.1
    have hbl4 : b.l.length ≤ 400 := hpb.2.1
    have hok : Hid (okClk a = true ∧ okClk b = true) := ⟨hpa.1, hpb.1⟩
    clear hpa hpb hab
    have hAb : ∀ x, A = some x → a.l ≠ [] → x.block < w.heap.size + 1 + 1 := fun x hx hl => by have := hra.lt x hx hl; omega
    have hBb : ∀ x, B = some x → b.l ≠ [] → x.block < w.heap.size + 1 + 1 := fun x hx hl => by have := hrb.lt x hx hl; omega
    have ha1 := ha0.gr hg1
    have hb1 := hb0.gr hg1
    have hs1 : w.heap.size + 1 + 1 ≤ w1.heap.size := by have := hb1.lt; omega
    have hbw1 : Hid (Below w.heap.size w w1) := (hg0.trans hg1).below
    obtain ⟨a0, a1, a2, a3, a4, alt, arow⟩ := (show CtxAt _ _ _ _ _ from ha1)
    obtain ⟨b0, b1, b2, b3, b4, blt, brow⟩ := (show CtxAt _ _ _ _ _ from hb1)
    have hcall := missing_any a b A B ca cb w1 hok.out.1 hok.out.2 hal4 hbl4 arow brow
    have hcallH : Hid _ := hcall
    clear hcall
    clear ha0 hb0 hg0 hg1
    have hfin : Hid (missE a b = minusE a b ∧ missL a b = minusL a b) := minus_is heH.out
    go_wp2_with fail
    refine Calls.mono (show Calls _ _ _ _ _ from hcallH.out) ?_
    rintro e w2 ⟨C, cp, rfl, hrow, hC, hb2⟩
    go_wp2
    go_ret2
    rw [← hfin.out.1, ← hfin.out.2]
    exact ⟨C, cp, rfl, hrow, hC, hbw1.out.trans (hb2.mono (by omega))⟩
  · have hfin : Hid (minusE a b = errB a b ∧ minusL a b = []) := by
      have h1 : minusE a b = errB a b := by simp [minusE, he]
      exact ⟨h1, by simp [minusL, h1, he]⟩
    have heb : (errB a b != 0) = true := by simpa using he
    clear he
    go_wp2
    go_ret2
    rw [hfin.out.1, hfin.out.2]
    exact ⟨none, 0, rfl, Or.inl rfl, fun _ => rfl, (hg0.trans hg1).below⟩

end Go.Proofs.Ytjgefnipkaecgab
