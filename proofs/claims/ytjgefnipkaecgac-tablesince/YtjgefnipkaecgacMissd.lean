/-
  dot.missing: the dots that a has and b hasn't; an error, if there are more than 400.
-/
import Derived.Test.YtjgefnipkaecgacAppMiss
namespace Go.Proofs.Ytjgefnipkaecgac
open Go.RowKit Go.Sort

/-- The dots that a has and b hasn't, of the first k nodes. -/
def missK (a b : Ctx) : Nat → List (Int × Int)
  | 0 => []
  | k + 1 => missN a b k (missK a b k)
theorem missK_ge (a b : Ctx) (k : Nat) : (missK a b k).length ≤ (missK a b (k + 1)).length := missN_ge a b k (missK a b k)
theorem missK_len (a b : Ctx) (k : Nat) : (missK a b (k + 1)).length ≤ max (missK a b k).length 401 + a.l.length := missN_len a b k (missK a b k)

/-- The error that missing tells. -/
def missE (a b : Ctx) : Int := if 400 < (missK a b 4).length then 2 else 0
/-- The dots that it tells. -/
def missL (a b : Ctx) : List (Int × Int) := if 400 < (missK a b 4).length then [] else missK a b 4

theorem miss_large {a b : Ctx} {k : Nat} (hk : k ≤ 4) (h : 400 < (missK a b k).length) : missE a b = 2 ∧ missL a b = [] := by
  have h4 : 400 < (missK a b 4).length := by
    have h1 : (missK a b 0).length ≤ (missK a b 1).length := missK_ge a b 0
    have h2 : (missK a b 1).length ≤ (missK a b 2).length := missK_ge a b 1
    have h3 : (missK a b 2).length ≤ (missK a b 3).length := missK_ge a b 2
    have h5 : (missK a b 3).length ≤ (missK a b 4).length := missK_ge a b 3
    have hk' : k = 0 ∨ k = 1 ∨ k = 2 ∨ k = 3 ∨ k = 4 := by omega
    rcases hk' with rfl | rfl | rfl | rfl | rfl <;> omega
  exact ⟨by unfold missE; rw [if_pos h4], by unfold missL; rw [if_pos h4]⟩

set_option maxHeartbeats 4000000 in
theorem missing_any (a b : Ctx) (A B : Option Addr) (ca cb : Nat) (w : World) (hoka : okClk a = true) (hokb : okClk b = true) (hal4 : a.l.length ≤ 400) (hbl4 : b.l.length ≤ 400) (hra : Row w A a.l) (hrb : Row w B b.l) :
    Calls Try.prog 54 #[.agg #[.int .i64 a.c0, .int .i64 a.c1, .int .i64 a.c2, .int .i64 a.c3, .slice A a.l.length ca], .agg #[.int .i64 b.c0, .int .i64 b.c1, .int .i64 b.c2, .int .i64 b.c3, .slice B b.l.length cb]] w fun e w' => ∃ C cp, e = .returned (.tuple #[.slice C (missL a b).length cp, .int .i64 (missE a b)]) ∧ Row w' C (missL a b) ∧ (C = none → cp = 0) ∧ Below w.heap.size w w' := by
  have hg0 : Gr w ((w.alloc (.cells #[.int .i64 a.c0, .int .i64 a.c1, .int .i64 a.c2, .int .i64 a.c3, .slice A a.l.length ca] 25)).alloc (.cells #[.int .i64 b.c0, .int .i64 b.c1, .int .i64 b.c2, .int .i64 b.c3, .slice B b.l.length cb] 25)) := ((Gr.refl w).alloc _).alloc _
  have ha1 : CtxAt ((w.alloc (.cells #[.int .i64 a.c0, .int .i64 a.c1, .int .i64 a.c2, .int .i64 a.c3, .slice A a.l.length ca] 25)).alloc (.cells #[.int .i64 b.c0, .int .i64 b.c1, .int .i64 b.c2, .int .i64 b.c3, .slice B b.l.length cb] 25)) w.heap.size a A ca := (CtxAt.new 25 hra rfl).gr ((Gr.refl _).alloc _)
  have hb1 : CtxAt ((w.alloc (.cells #[.int .i64 a.c0, .int .i64 a.c1, .int .i64 a.c2, .int .i64 a.c3, .slice A a.l.length ca] 25)).alloc (.cells #[.int .i64 b.c0, .int .i64 b.c1, .int .i64 b.c2, .int .i64 b.c3, .slice B b.l.length cb] 25)) (w.heap.size + 1) b B cb := CtxAt.new 25 (hrb.gr ((Gr.refl _).alloc _)) (by simp)
  have hok : Hid (okClk a = true ∧ okClk b = true) := ⟨hoka, hokb⟩
  clear hoka hokb
  have hAb : ∀ x, A = some x → a.l ≠ [] → x.block < w.heap.size + 1 + 1 := fun x hx hl => by have := hra.lt x hx hl; omega
  have hBb : ∀ x, B = some x → b.l ≠ [] → x.block < w.heap.size + 1 + 1 := fun x hx hl => by have := hrb.lt x hx hl; omega
  have hbw1 : Hid (Below w.heap.size w ((w.alloc (.cells #[.int .i64 a.c0, .int .i64 a.c1, .int .i64 a.c2, .int .i64 a.c3, .slice A a.l.length ca] 25)).alloc (.cells #[.int .i64 b.c0, .int .i64 b.c1, .int .i64 b.c2, .int .i64 b.c3, .slice B b.l.length cb] 25))) := hg0.below
  clear hg0
  go_enter Try.func54, Try.ntmps54
  go_wp2
  go_loopw [6, 8] (fun v i wr => ∃ k : Nat, k ≤ 4 ∧ i = .int .i64 k ∧ (missK a b k).length ≤ 400 ∧ Own wr (w.heap.size + 1 + 1) v (missK a b k) ∧ Below (w.heap.size + 1 + 1) ((w.alloc (.cells #[.int .i64 a.c0, .int .i64 a.c1, .int .i64 a.c2, .int .i64 a.c3, .slice A a.l.length ca] 25)).alloc (.cells #[.int .i64 b.c0, .int .i64 b.c1, .int .i64 b.c2, .int .i64 b.c3, .slice B b.l.length cb] 25)) wr) (fun _ i _ => 4 - (intOf i).toNat)
  case atStart => exact ⟨0, by omega, rfl, by simp [missK], Own.nil _ _, Below.refl _ _⟩
  case round =>
    obtain ⟨k, hk, rfl, hml, hov, hbel⟩ := hrel
    obtain ⟨A1, cap1, rfl, hA1, hrow1, _⟩ := hov.row
    have haR := CtxAt.belowB ha1 hbel (by omega) hAb
    have hbR := CtxAt.belowB hb1 hbel (by omega) hBb
    obtain ⟨a0, a1, a2, a3, a4, alt, arow⟩ := (show CtxAt _ _ _ _ _ from haR)
    obtain ⟨b0, b1, b2, b3, b4, blt, brow⟩ := (show CtxAt _ _ _ _ _ from hbR)
    have hsR : w.heap.size + 1 + 1 ≤ wr.heap.size := by have h1 := hbel.size; simp at h1; omega
    by_cases hlt : k < 4
    · have hltz : (k : Int) < 4 := by omega
      have hln := missK_len a b k
      have hcall := appMiss_any a b A B ca cb (.slice A1 (missK a b k).length cap1) (missK a b k) k (w.heap.size + 1 + 1) wr (by omega) hltz hok.out.1 hok.out.2 hal4 hbl4 (by omega) arow brow hAb hBb hov hsR
      have hcallH : Hid _ := hcall
      clear hcall hov hrow1
      go_wp2_with fail
      refine Calls.mono (show Calls _ _ _ _ _ from hcallH.out) ?_
      rintro e w2 ⟨v2, rfl, hov2, hb2⟩
      change Own w2 _ v2 (missK a b (k + 1)) at hov2
      clear hcallH a0 a1 a2 a3 a4 b0 b1 b2 b3 b4
      obtain ⟨A2, cap2, rfl, hA2, hrow2, _⟩ := hov2.row
      have hov2H : Hid (Own w2 (w.heap.size + 1 + 1) (.slice A2 (missK a b (k + 1)).length cap2) (missK a b (k + 1))) := hov2
      have hbelH : Hid (Below (w.heap.size + 1 + 1) ((w.alloc (.cells #[.int .i64 a.c0, .int .i64 a.c1, .int .i64 a.c2, .int .i64 a.c3, .slice A a.l.length ca] 25)).alloc (.cells #[.int .i64 b.c0, .int .i64 b.c1, .int .i64 b.c2, .int .i64 b.c3, .slice B b.l.length cb] 25)) w2) := hbel.trans hb2
      clear hov2 hbel hb2
      by_cases h400 : 400 < (missK a b (k + 1)).length
      · have h400z : (400 : Int) < ((missK a b (k + 1)).length : Int) := by omega
        have hfin : Hid (missE a b = 2 ∧ missL a b = []) := miss_large (by omega) h400
        go_wp2
        go_ret2
        rw [hfin.out.1, hfin.out.2]
        exact ⟨none, 0, rfl, Or.inl rfl, fun _ => rfl, hbw1.out.trans (hbelH.out.mono (by omega))⟩
      · have h400z : ¬ (400 : Int) < ((missK a b (k + 1)).length : Int) := by omega
        go_wp2
        go_roundw
        case rel => exact ⟨k + 1, by omega, by go_num, by omega, hov2H.out, hbelH.out⟩
        case measure => simp [intOf]; omega
    · obtain rfl : k = 4 := by omega
      have hfin : Hid (missE a b = 0 ∧ missL a b = missK a b 4) := by
        exact ⟨by unfold missE; rw [if_neg (by omega)], by unfold missL; rw [if_neg (by omega)]⟩
      have hovH : Hid (Row wr A1 (missK a b 4)) := hrow1
      clear a0 a1 a2 a3 a4 b0 b1 b2 b3 b4
      go_wp2
      go_ret2
      rw [hfin.out.1, hfin.out.2]
      exact ⟨A1, cap1, rfl, hovH.out, hA1, hbw1.out.trans (hbel.mono (by omega))⟩

end Go.Proofs.Ytjgefnipkaecgac
