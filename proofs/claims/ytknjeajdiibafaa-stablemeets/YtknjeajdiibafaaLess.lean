/-
  dot.Less: has b all that a has?
-/
import Derived.Test.YtknjeajdiibafaaBoth
import Derived.Test.YtknjeajdiibafaaAppMiss
namespace Go.Proofs.Ytknjeajdiibafaa
open Go.RowKit Go.Sort

/-- No clock of a is above b's. -/
def clkLe (a b : Ctx) : Bool := decide (a.c0 ≤ b.c0) && decide (a.c1 ≤ b.c1) && decide (a.c2 ≤ b.c2) && decide (a.c3 ≤ b.c3)
theorem clkLe_of {a b : Ctx} (h : ∀ x : Int, 0 ≤ x → x < 4 → clk a x ≤ clk b x) : clkLe a b = true := by
  have h0 := h 0 (by omega) (by omega)
  have h1 := h 1 (by omega) (by omega)
  have h2 := h 2 (by omega) (by omega)
  have h3 := h 3 (by omega) (by omega)
  simp [clk] at h0 h1 h2 h3
  simp [clkLe, h0, h1, h2, h3]
theorem clkLe_not {a b : Ctx} {x : Int} (h0 : 0 ≤ x) (h4 : x < 4) (h : clk b x < clk a x) : clkLe a b = false := by
  have hx : x = 0 ∨ x = 1 ∨ x = 2 ∨ x = 3 := by omega
  cases hc : clkLe a b
  · rfl
  · simp [clkLe] at hc
    rcases hx with rfl | rfl | rfl | rfl <;> simp [clk] at h <;> omega
/-- Has b all that a has, of right contexts? -/
def lessB (a b : Ctx) : Bool := clkLe a b && a.l.all (hasB b)
/-- What Less tells. -/
def lessR (a b : Ctx) : Bool := if errB a b = 0 then lessB a b else false

set_option maxHeartbeats 4000000 in
theorem less_any (a b : Ctx) (A B : Option Addr) (ca cb : Nat) (w : World) (hal : a.l.length ≤ maxLen) (hbl : b.l.length ≤ maxLen) (hra : Row w A a.l) (hrb : Row w B b.l) :
    Calls Try.prog 17 #[.agg #[.int .i64 a.c0, .int .i64 a.c1, .int .i64 a.c2, .int .i64 a.c3, .slice A a.l.length ca], .agg #[.int .i64 b.c0, .int .i64 b.c1, .int .i64 b.c2, .int .i64 b.c3, .slice B b.l.length cb]] w fun e w' => e = .returned (.tuple #[.bool (lessR a b), .int .i64 (errB a b)]) ∧ Gr w w' := by
  have hg0 : Gr w ((w.alloc (.cells #[.int .i64 a.c0, .int .i64 a.c1, .int .i64 a.c2, .int .i64 a.c3, .slice A a.l.length ca] 25)).alloc (.cells #[.int .i64 b.c0, .int .i64 b.c1, .int .i64 b.c2, .int .i64 b.c3, .slice B b.l.length cb] 25)) := ((Gr.refl w).alloc _).alloc _
  have ha0 : CtxAt ((w.alloc (.cells #[.int .i64 a.c0, .int .i64 a.c1, .int .i64 a.c2, .int .i64 a.c3, .slice A a.l.length ca] 25)).alloc (.cells #[.int .i64 b.c0, .int .i64 b.c1, .int .i64 b.c2, .int .i64 b.c3, .slice B b.l.length cb] 25)) w.heap.size a A ca := (CtxAt.new 25 hra rfl).gr ((Gr.refl _).alloc _)
  have hb0 : CtxAt ((w.alloc (.cells #[.int .i64 a.c0, .int .i64 a.c1, .int .i64 a.c2, .int .i64 a.c3, .slice A a.l.length ca] 25)).alloc (.cells #[.int .i64 b.c0, .int .i64 b.c1, .int .i64 b.c2, .int .i64 b.c3, .slice B b.l.length cb] 25)) (w.heap.size + 1) b B cb := CtxAt.new 25 (hrb.gr ((Gr.refl _).alloc _)) (by simp)
  have hck := checkBoth_any a b A B ca cb ((w.alloc (.cells #[.int .i64 a.c0, .int .i64 a.c1, .int .i64 a.c2, .int .i64 a.c3, .slice A a.l.length ca] 25)).alloc (.cells #[.int .i64 b.c0, .int .i64 b.c1, .int .i64 b.c2, .int .i64 b.c3, .slice B b.l.length cb] 25)) hal hbl (hra.gr hg0) (hrb.gr hg0)
  have hckH : Hid _ := hck
  clear hck
  have hbM : Hid (b.l.length ≤ maxLen) := hbl
  unfold maxLen at hal hbl
  have i0 : ∀ w, (Instr.index 22 (.agg #[.int .i64 a.c0, .int .i64 a.c1, .int .i64 a.c2, .int .i64 a.c3]) (.int .i64 0)).run Try.prog w = .ok (.int .i64 (clk a 0)) w := fun _ => by kernel_rfl
  have i1 : ∀ w, (Instr.index 22 (.agg #[.int .i64 a.c0, .int .i64 a.c1, .int .i64 a.c2, .int .i64 a.c3]) (.int .i64 1)).run Try.prog w = .ok (.int .i64 (clk a 1)) w := fun _ => by kernel_rfl
  have i2 : ∀ w, (Instr.index 22 (.agg #[.int .i64 a.c0, .int .i64 a.c1, .int .i64 a.c2, .int .i64 a.c3]) (.int .i64 2)).run Try.prog w = .ok (.int .i64 (clk a 2)) w := fun _ => by kernel_rfl
  have i3 : ∀ w, (Instr.index 22 (.agg #[.int .i64 a.c0, .int .i64 a.c1, .int .i64 a.c2, .int .i64 a.c3]) (.int .i64 3)).run Try.prog w = .ok (.int .i64 (clk a 3)) w := fun _ => by kernel_rfl
  go_enter Try.func17, Try.ntmps17
  go_wp2_with fail
  refine Calls.mono (show Calls _ _ _ _ _ from hckH.out) ?_
  rintro e w1 ⟨rfl, hg1⟩
  clear hckH
  by_cases he : errB a b = 0
  · have heb : (errB a b != 0) = false := by simpa using he
    have hR : Hid (lessR a b = lessB a b ∧ errB a b = 0) := ⟨by simp [lessR, he], he⟩
    rw [he]
    clear he
    obtain ⟨a0, a1, a2, a3, a4, alt, arow⟩ := (show CtxAt _ _ _ _ _ from ha0.gr hg1)
    go_wp2
    clear a0 a1 a2 a3 a4
    go_loopw [19] (fun i wr => ∃ k : Nat, k ≤ 4 ∧ i = .int .i64 k ∧ Hid (∀ x : Int, 0 ≤ x → x < k → clk a x ≤ clk b x) ∧ Gr ((w.alloc (.cells #[.int .i64 a.c0, .int .i64 a.c1, .int .i64 a.c2, .int .i64 a.c3, .slice A a.l.length ca] 25)).alloc (.cells #[.int .i64 b.c0, .int .i64 b.c1, .int .i64 b.c2, .int .i64 b.c3, .slice B b.l.length cb] 25)) wr) (fun i _ => 4 - (intOf i).toNat)
    case atStart => exact ⟨0, by omega, rfl, fun x h0 h1 => by omega, hg1⟩
    case round =>
      obtain ⟨k, hk, rfl, hin, hgr⟩ := hrel
      have hbR := hb0.gr hgr
      have haR := ha0.gr hgr
      by_cases hlt : k < 4
      · have hltz : (k : Int) < 4 := by omega
        have ik : ∀ w, (Instr.index 22 (.agg #[.int .i64 a.c0, .int .i64 a.c1, .int .i64 a.c2, .int .i64 a.c3]) (.int .i64 k)).run Try.prog w = .ok (.int .i64 (clk a k)) w := by
          have h4 : k = 0 ∨ k = 1 ∨ k = 2 ∨ k = 3 := by omega
          rcases h4 with rfl | rfl | rfl | rfl
          · exact i0
          · exact i1
          · exact i2
          · exact i3
        clear i0 i1 i2 i3
        have kb := ctxClk hbR (a := (k : Int)) (by omega) hltz
        rw [Int.toNat_natCast] at kb
        by_cases hc : clk b (k : Int) < clk a (k : Int)
        · have hfin : Hid (lessR a b = false) := by show lessR a b = false; rw [hR.out.1]; unfold lessB; rw [clkLe_not (by omega) hltz hc]; rfl
          go_wp2
          go_ret2
          rw [hfin.out, hR.out.2]
          exact ⟨rfl, hg0.trans hgr⟩
        · go_wp2
          go_roundw
          case rel =>
            refine ⟨k + 1, by omega, by go_num, ?_, hgr⟩
            intro x h0 h1
            by_cases e : x = (k : Int)
            · rw [e]; omega
            · exact hin x h0 (by omega)
          case measure => simp [intOf]; omega
      · clear i0 i1 i2 i3
        obtain rfl : k = 4 := by omega
        have hcl : Hid (clkLe a b = true) := clkLe_of fun x h0 h4 => hin x h0 (by omega)
        obtain ⟨a0, a1, a2, a3, a4, alt', arow'⟩ := (show CtxAt _ _ _ _ _ from haR)
        clear hin
        go_wp2
        clear a0 a1 a2 a3 a4
        go_loopw [33] (fun i wi => ∃ k : Nat, k ≤ a.l.length ∧ i = .int .i64 k ∧ Hid (∀ j (h : j < a.l.length), j < k → hasB b a.l[j] = true) ∧ Gr ((w.alloc (.cells #[.int .i64 a.c0, .int .i64 a.c1, .int .i64 a.c2, .int .i64 a.c3, .slice A a.l.length ca] 25)).alloc (.cells #[.int .i64 b.c0, .int .i64 b.c1, .int .i64 b.c2, .int .i64 b.c3, .slice B b.l.length cb] 25)) wi) (fun i _ => a.l.length - (intOf i).toNat)
        case atStart => exact ⟨0, by omega, rfl, fun j _ h => by omega, hgr⟩
        case round =>
          clear hgr hbR haR
          rename World => wi
          obtain ⟨k, hk, rfl, hin, hgr⟩ := hrel
          by_cases hlt : k < a.l.length
          · have hltz : (k : Int) < (a.l.length : Int) := by omega
            obtain ⟨bb, off, rfl, hbb, hcs⟩ := (ha0.gr hgr).row.at hlt
            obtain ⟨x, y, hx⟩ : ∃ x y, a.l[k] = (x, y) := ⟨_, _, rfl⟩
            have e0 := (hcs k hlt).1
            have e1 := (hcs k hlt).2
            rw [hx] at e0 e1
            have hxH : Hid (a.l[k] = (x, y)) := hx
            clear hcs hx
            have hgD : Gr wi (wi.alloc (.cells #[.int .i64 x, .int .i64 y] 35)) := (Gr.refl _).alloc _
            obtain ⟨b0, b1, b2, b3, b4, blt, brow⟩ := (show CtxAt _ _ _ _ _ from hb0.gr hgr)
            cases hh : hasB b (x, y)
            · have hfin : Hid (lessR a b = false) := by
                show lessR a b = false
                rw [hR.out.1]
                unfold lessB
                have : a.l.all (hasB b) = false := by
                  rw [List.all_eq_false]
                  exact ⟨a.l[k], List.getElem_mem hlt, by rw [hxH.out, hh]; simp⟩
                rw [this]; simp
              go_wp2_with (go_at_call 15; refine (has_g hh hbM.out (brow.gr hgD)).mono ?_; rintro e w2 ⟨rfl, hg2⟩)
              go_ret2
              rw [hfin.out, hR.out.2]
              exact ⟨rfl, hg0.trans (hgr.trans (hgD.trans hg2))⟩
            · have hnx : Hid (∀ j (h : j < a.l.length), j < k + 1 → hasB b a.l[j] = true) := by
                intro j hj hjk
                by_cases e : j = k
                · subst e; rw [hxH.out]; exact hh
                · exact hin j hj (by omega)
              go_wp2_with (go_at_call 15; refine (has_g hh hbM.out (brow.gr hgD)).mono ?_; rintro e w2 ⟨rfl, hg2⟩)
              go_roundw
              case rel => first | exact ⟨k + 1, by omega, by go_num, hnx, hgr.trans (hgD.trans hg2)⟩ | ((repeat apply Exists.intro); exact ⟨⟨k + 1, by omega, by go_num, hnx, hgr.trans (hgD.trans hg2)⟩, rfl⟩)
              case measure => simp [intOf]; omega
          · have hltz : ¬ (k : Int) < (a.l.length : Int) := by omega
            have hfin : Hid (lessR a b = true) := by
              show lessR a b = true
              rw [hR.out.1]
              unfold lessB
              rw [hcl.out]
              have : a.l.all (hasB b) = true := by
                rw [List.all_eq_true]
                intro x hx
                obtain ⟨j, hj, rfl⟩ := List.getElem_of_mem hx
                exact hin j hj (by omega)
              rw [this]; rfl
            go_wp2
            go_ret2
            rw [hfin.out, hR.out.2]
            exact ⟨rfl, hg0.trans hgr⟩
  · have hR : Hid (lessR a b = false) := by show lessR a b = false; simp [lessR, he]
    have heb : (errB a b != 0) = true := by simpa using he
    clear he
    go_wp2
    go_ret2
    rw [hR.out]
    exact ⟨rfl, hg0.trans hg1⟩

end Go.Proofs.Ytknjeajdiibafaa
