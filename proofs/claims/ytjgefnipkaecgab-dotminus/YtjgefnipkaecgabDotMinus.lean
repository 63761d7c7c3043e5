/-
  The law DotMinus, walked: it answers true whatever contexts and number are handed in.
-/
import Derived.Test.YtjgefnipkaecgabMissMath
import Derived.Deep.DeepCutAuto
namespace Go.Proofs.Ytjgefnipkaecgab
open Go.RowKit Go.Sort

theorem next_five (W : World) : Calls Try.prog 15 #[.agg #[.int .i64 0, .int .i64 5, .int .i64 0, .int .i64 0, .slice none 0 0], .int .i64 1] W fun e w' => e = .returned (.tuple #[.agg #[.int .i64 1, .int .i64 6], .int .i64 0]) ∧ Gr W w' := by
  have h := next_any ⟨0, 5, 0, 0, []⟩ none 0 1 W (by simp) (Or.inl rfl)
  rw [show nextA ⟨0, 5, 0, 0, []⟩ 1 = ((1, 6), 0) from by decide +kernel] at h
  exact h

theorem same_g {c d : Ctx} {A B : Option Addr} {cap dap : Nat} {r : Bool} {w : World} (hx : sameB c d = r) (hl : c.l.length ≤ maxLen) (hm : d.l.length ≤ maxLen) (hr : Row w A c.l) (hs : Row w B d.l) :
    Calls Try.prog 12 #[.agg #[.int .i64 c.c0, .int .i64 c.c1, .int .i64 c.c2, .int .i64 c.c3, .slice A c.l.length cap], .agg #[.int .i64 d.c0, .int .i64 d.c1, .int .i64 d.c2, .int .i64 d.c3, .slice B d.l.length dap]] w fun e w' => e = .returned (.bool r) ∧ Gr w w' := by
  rw [← hx]; exact same_any c d A B cap dap w hl hm hr hs

set_option maxHeartbeats 4000000 in
theorem dotMinus_any (a b : Ctx) (A B : Option Addr) (ca cb : Nat) (n : Int) (w : World) (hal : a.l.length ≤ maxLen) (hbl : b.l.length ≤ maxLen) (hra : Row w A a.l) (hrb : Row w B b.l) (hA : A = none → ca = 0) (hB : B = none → cb = 0) :
    Calls Try.prog 4 #[.agg #[.int .i64 a.c0, .int .i64 a.c1, .int .i64 a.c2, .int .i64 a.c3, .slice A a.l.length ca], .agg #[.int .i64 b.c0, .int .i64 b.c1, .int .i64 b.c2, .int .i64 b.c3, .slice B b.l.length cb], .int .i64 n] w fun e w' => e = .returned (.bool true) ∧ Below w.heap.size w w' := by
  have hg0 : Gr w ((w.alloc (.cells #[.int .i64 a.c0, .int .i64 a.c1, .int .i64 a.c2, .int .i64 a.c3, .slice A a.l.length ca] 25)).alloc (.cells #[.int .i64 b.c0, .int .i64 b.c1, .int .i64 b.c2, .int .i64 b.c3, .slice B b.l.length cb] 25)) := ((Gr.refl w).alloc _).alloc _
  have ha0 : CtxAt ((w.alloc (.cells #[.int .i64 a.c0, .int .i64 a.c1, .int .i64 a.c2, .int .i64 a.c3, .slice A a.l.length ca] 25)).alloc (.cells #[.int .i64 b.c0, .int .i64 b.c1, .int .i64 b.c2, .int .i64 b.c3, .slice B b.l.length cb] 25)) w.heap.size a A ca := (CtxAt.new 25 hra rfl).gr ((Gr.refl _).alloc _)
  have hb0 : CtxAt ((w.alloc (.cells #[.int .i64 a.c0, .int .i64 a.c1, .int .i64 a.c2, .int .i64 a.c3, .slice A a.l.length ca] 25)).alloc (.cells #[.int .i64 b.c0, .int .i64 b.c1, .int .i64 b.c2, .int .i64 b.c3, .slice B b.l.length cb] 25)) (w.heap.size + 1) b B cb := CtxAt.new 25 (hrb.gr ((Gr.refl _).alloc _)) (by simp)
  have haM : Hid (a.l.length ≤ maxLen) := hal
  have hbM : Hid (b.l.length ≤ maxLen) := hbl
  have hE := eqDot
  have hG := guardDot
  clear hal hbl
  go_enter Try.func4, Try.ntmps4
  go_wp2_with fail
  refine Calls.mono (show Calls _ _ _ _ _ from next_five _) ?_
  rintro e w1 ⟨rfl, hg1⟩
  have ha1 := (ha0.gr hg1).gr ((Gr.refl _).alloc (.cells #[.int .i64 1, .int .i64 6] 27))
  have hb1 := (hb0.gr hg1).gr ((Gr.refl _).alloc (.cells #[.int .i64 1, .int .i64 6] 27))
  have hgw : Gr w (w1.alloc (.cells #[.int .i64 1, .int .i64 6] 27)) := (hg0.trans hg1).trans ((Gr.refl _).alloc _)
  clear ha0 hb0 hg0 hg1
  obtain ⟨a0, a1, a2, a3, a4, alt, arow⟩ := (show CtxAt _ _ _ _ _ from ha1)
  obtain ⟨b0, b1, b2, b3, b4, blt, brow⟩ := (show CtxAt _ _ _ _ _ from hb1)
  go_wp2_with fail
  refine Calls.mono (show Calls _ _ _ _ _ from minus_any a b A B ca cb _ haM.out hbM.out arow brow) ?_
  rintro e w2 ⟨L, lp, rfl, hrL, hL, hbel2⟩
  obtain ⟨m, hm⟩ : ∃ m, minusL a b = m := ⟨_, rfl⟩
  obtain ⟨me, hme⟩ : ∃ me, minusE a b = me := ⟨_, rfl⟩
  rw [hm] at hrL ⊢
  rw [hme]
  have hF : Hid (minusL a b = m ∧ minusE a b = me) := ⟨hm, hme⟩
  have ha2 := ha1.below hbel2
  have hb2 := hb1.below hbel2
  have hw2 : Below w.heap.size w w2 := hgw.below.trans (hbel2.mono hgw.size)
  clear hm hme ha1 hb1 hgw hbel2 a0 a1 a2 a3 a4 alt arow b0 b1 b2 b3 b4 blt brow hra hrb
  by_cases he : me = 0
  · have heb : (me == 0) = true := by simpa using he
    have hmL : m.length ≤ maxLen := by
      have h := minus_ok (hF.out.2.trans he)
      rw [← hF.out.1, h.2.2.1]
      exact Nat.le_trans h.2.2.2 (by decide)
    have hF0 : Hid (minusE a b = 0) := hF.out.2.trans he
    clear he
    go_wp2_with fail
    refine Calls.mono (show Calls _ _ _ _ _ from make_any m L lp w2 hmL hL hrL) ?_
    rintro e w3 ⟨C1, cp1, rfl, hr3, hC1, _, hbel3⟩
    have hmk : makeE m = 0 := by rw [← hF.out.1]; exact minus_make hF0.out
    rw [hmk]
    obtain ⟨M, hM⟩ : ∃ M, makeC m = M := ⟨_, rfl⟩
    rw [hM] at hr3 ⊢
    have hMF : Hid (makeC m = M) := hM
    have hMl : M.l.length ≤ maxLen := by
      rw [← hM]
      unfold makeC
      rw [if_pos hmk]
      refine Nat.le_trans (foldTo_len zeroC (srt m) (srt m).length) ?_
      rw [srt_length]
      simpa [zeroC] using hmL
    clear hM hmk
    have hg3 : Gr w3 (w3.alloc (.cells #[.int .i64 M.c0, .int .i64 M.c1, .int .i64 M.c2, .int .i64 M.c3, .slice C1 M.l.length cp1] 25)) := (Gr.refl _).alloc _
    have ha3 := (ha2.below hbel3).gr hg3
    have hb3 := (hb2.below hbel3).gr hg3
    have hL3 := (hrL.below hbel3).gr hg3
    have hm3 : CtxAt (w3.alloc (.cells #[.int .i64 M.c0, .int .i64 M.c1, .int .i64 M.c2, .int .i64 M.c3, .slice C1 M.l.length cp1] 25)) w3.heap.size M C1 cp1 := CtxAt.new 25 hr3 rfl
    have hw3 : Below w.heap.size w (w3.alloc (.cells #[.int .i64 M.c0, .int .i64 M.c1, .int .i64 M.c2, .int .i64 M.c3, .slice C1 M.l.length cp1] 25)) := (hw2.trans (hbel3.mono hw2.size)).trans (hg3.below.mono (hw2.trans (hbel3.mono hw2.size)).size)
    clear ha2 hb2 hw2 hr3 hrL hbel3 hg3
    obtain ⟨b0, b1, b2, b3, b4, blt, brow⟩ := (show CtxAt _ _ _ _ _ from hb3)
    obtain ⟨m0, m1, m2, m3, m4, mlt, mrow⟩ := (show CtxAt _ _ _ _ _ from hm3)
    go_wp2_with fail
    refine Calls.mono (show Calls _ _ _ _ _ from join_any b M B C1 cb cp1 _ hbM.out hMl brow mrow hB hC1) ?_
    rintro e w4 ⟨C2, cp2, rfl, hr4, _, _, hbel4⟩
    obtain ⟨X, hX⟩ : ∃ X, joinC b M = X := ⟨_, rfl⟩
    obtain ⟨g, hg⟩ : ∃ g, joinE b M = g := ⟨_, rfl⟩
    rw [hX] at hr4 ⊢
    rw [hg]
    have hXF : Hid (joinC b M = X ∧ joinE b M = g) := ⟨hX, hg⟩
    clear hX hg b0 b1 b2 b3 b4 blt brow m0 m1 m2 m3 m4 mlt mrow
    have hg4 : Gr w4 (w4.alloc (.cells #[.int .i64 X.c0, .int .i64 X.c1, .int .i64 X.c2, .int .i64 X.c3, .slice C2 X.l.length cp2] 25)) := (Gr.refl _).alloc _
    have ha4 := (ha3.below hbel4).gr hg4
    have hb4 := (hb3.below hbel4).gr hg4
    have hL4 := (hL3.below hbel4).gr hg4
    have hx4 : CtxAt (w4.alloc (.cells #[.int .i64 X.c0, .int .i64 X.c1, .int .i64 X.c2, .int .i64 X.c3, .slice C2 X.l.length cp2] 25)) w4.heap.size X C2 cp2 := CtxAt.new 25 hr4 rfl
    have hw4 : Below w.heap.size w (w4.alloc (.cells #[.int .i64 X.c0, .int .i64 X.c1, .int .i64 X.c2, .int .i64 X.c3, .slice C2 X.l.length cp2] 25)) := (hw3.trans (hbel4.mono hw3.size)).trans (hg4.below.mono (hw3.trans (hbel4.mono hw3.size)).size)
    clear ha3 hb3 hw3 hr4 hL3 hbel4 hg4 hm3
    obtain ⟨a0, a1, a2, a3, a4, alt, arow⟩ := (show CtxAt _ _ _ _ _ from ha4)
    obtain ⟨b0, b1, b2, b3, b4, blt, brow⟩ := (show CtxAt _ _ _ _ _ from hb4)
    go_wp2_with fail
    refine Calls.mono (show Calls _ _ _ _ _ from join_any a b A B ca cb _ haM.out hbM.out arow brow hA hB) ?_
    rintro e w5 ⟨C3, cp3, rfl, hr5, _, _, hbel5⟩
    obtain ⟨Y, hY⟩ : ∃ Y, joinC a b = Y := ⟨_, rfl⟩
    obtain ⟨h, hh⟩ : ∃ h, joinE a b = h := ⟨_, rfl⟩
    rw [hY] at hr5 ⊢
    rw [hh]
    have hYF : Hid (joinC a b = Y ∧ joinE a b = h) := ⟨hY, hh⟩
    clear hY hh a0 a1 a2 a3 a4 alt arow b0 b1 b2 b3 b4 blt brow
    have hg5 : Gr w5 (w5.alloc (.cells #[.int .i64 Y.c0, .int .i64 Y.c1, .int .i64 Y.c2, .int .i64 Y.c3, .slice C3 Y.l.length cp3] 25)) := (Gr.refl _).alloc _
    have ha5 := (ha4.below hbel5).gr hg5
    have hb5 := (hb4.below hbel5).gr hg5
    have hL5 := (hL4.below hbel5).gr hg5
    have hx5 := (hx4.below hbel5).gr hg5
    have hy5 : CtxAt (w5.alloc (.cells #[.int .i64 Y.c0, .int .i64 Y.c1, .int .i64 Y.c2, .int .i64 Y.c3, .slice C3 Y.l.length cp3] 25)) w5.heap.size Y C3 cp3 := CtxAt.new 25 hr5 rfl
    have hw5 : Below w.heap.size w (w5.alloc (.cells #[.int .i64 Y.c0, .int .i64 Y.c1, .int .i64 Y.c2, .int .i64 Y.c3, .slice C3 Y.l.length cp3] 25)) := (hw4.trans (hbel5.mono hw4.size)).trans (hg5.below.mono (hw4.trans (hbel5.mono hw4.size)).size)
    clear ha4 hb4 hw4 hr5 hL4 hbel5 hg5 hx4
    have hsame : Hid (g = 0 → h = 0 → sameB X Y = true ∧ X.l.length ≤ maxLen ∧ Y.l.length ≤ maxLen) := by
      intro hg0 hh0
      have h1 : joinE b (makeC (minusL a b)) = 0 := by rw [hF.out.1, hMF.out]; exact hXF.out.2.trans hg0
      have h2 : joinE a b = 0 := hYF.out.2.trans hh0
      have h3 := minus_join hF0.out h1 h2
      rw [hF.out.1, hMF.out, hXF.out.1, hYF.out.1] at h3
      have hl := (joinE_ok h2).2.2.2.2
      rw [← (joinE_ok h2).2.2.2.1, hYF.out.1] at hl
      rw [h3]
      exact ⟨sameB_self Y, Nat.le_trans hl (by decide), Nat.le_trans hl (by decide)⟩
    have hmem : Hid (∀ x ∈ m, hasB a x = true ∧ hasB b x = false) := by have h := minus_has hF0.out; rw [hF.out.1] at h; exact h
    clear hXF hYF hMF hMl hF
    unfold maxLen at hmL
    obtain ⟨x0, x1, x2, x3, x4, xlt, xrow⟩ := (show CtxAt _ _ _ _ _ from hx5)
    obtain ⟨y0, y1, y2, y3, y4, ylt, yrow⟩ := (show CtxAt _ _ _ _ _ from hy5)
    go_upto_region 9 with fail
    generalize w5.alloc (.cells #[.int .i64 Y.c0, .int .i64 Y.c1, .int .i64 Y.c2, .int .i64 Y.c3, .slice C3 Y.l.length cp3] 25) = W5 at *
    by_cases hg0 : g = 0
    · have hgb : (g == 0) = true := by simpa using hg0
      by_cases hh0 : h = 0
      · have hhb : (h == 0) = true := by simpa using hh0
        have hs := hsame.out hg0 hh0
        clear hg0 hh0 hsame
        go_upto_region 11 with (go_at_call 12; refine (same_g hs.1 hs.2.1 hs.2.2 xrow yrow).mono ?_; rintro e W6 ⟨rfl, hg6⟩)
        have ha6 := ha5.gr hg6
        have hb6 := hb5.gr hg6
        have hL6 := hL5.gr hg6
        have hw6 := hw5.trans (hg6.below.mono hw5.size)
        clear ha5 hb5 hL5 hw5 hg6 x0 x1 x2 x3 x4 xlt xrow y0 y1 y2 y3 y4 ylt yrow hx5 hy5 hs
        go_wp2
        go_loopw [76] (fun i wr => ∃ k : Nat, k ≤ m.length ∧ i = .int .i64 k ∧ Gr W6 wr) (fun i _ => m.length - (intOf i).toNat)
        case atStart => exact ⟨0, by omega, rfl, Gr.refl _⟩
        case round =>
          obtain ⟨k, hk, rfl, hgr⟩ := hrel
          by_cases hlt : k < m.length
          · have hltz : (k : Int) < (m.length : Int) := by omega
            obtain ⟨bb, off, rfl, hbb, hcs⟩ := (hL6.gr hgr).at hlt
            obtain ⟨x, y, hx⟩ : ∃ x y, m[k] = (x, y) := ⟨_, _, rfl⟩
            have e0 := (hcs k hlt).1
            have e1 := (hcs k hlt).2
            rw [hx] at e0 e1
            have hxy := hmem.out (x, y) (by rw [← hx]; exact List.getElem_mem hlt)
            clear hcs hx
            have hgD : Gr wr (wr.alloc (.cells #[.int .i64 x, .int .i64 y] 27)) := (Gr.refl _).alloc _
            have haR := (ha6.gr hgr).gr hgD
            have hbR := (hb6.gr hgr).gr hgD
            have hdR : DotAt (wr.alloc (.cells #[.int .i64 x, .int .i64 y] 27)) wr.heap.size x y := DotAt.new 27 rfl
            obtain ⟨a0, a1, a2, a3, a4, alt, arow⟩ := (show CtxAt _ _ _ _ _ from haR)
            go_wp2_with fail
            refine Calls.mono (show Calls _ _ _ _ _ from has_g hxy.1 haM.out arow) ?_
            rintro e wA ⟨rfl, hgA⟩
            clear a0 a1 a2 a3 a4
            obtain ⟨b0, b1, b2, b3, b4, blt, brow⟩ := (show CtxAt _ _ _ _ _ from hbR.gr hgA)
            obtain ⟨d0, d1, dlt⟩ := (show DotAt _ _ _ _ from hdR.gr hgA)
            go_wp2_with fail
            refine Calls.mono (show Calls _ _ _ _ _ from has_g hxy.2 hbM.out brow) ?_
            rintro e wB ⟨rfl, hgB⟩
            clear b0 b1 b2 b3 b4 d0 d1
            go_wp2
            go_roundw
            case rel => first | exact ⟨k + 1, by omega, by go_num, hgr.trans (hgD.trans (hgA.trans hgB))⟩ | ((repeat apply Exists.intro); exact ⟨⟨k + 1, by omega, by go_num, hgr.trans (hgD.trans (hgA.trans hgB))⟩, rfl⟩)
            case measure => simp [intOf]; omega
          · have hltz : ¬ (k : Int) < (m.length : Int) := by omega
            have haF := ha6.gr hgr
            have hwF : Below w.heap.size w wr := hw6.trans (hgr.below.mono hw6.size)
            obtain ⟨a0, a1, a2, a3, a4, alt, arow⟩ := (show CtxAt _ _ _ _ _ from haF)
            go_wp2_with fail
            refine Calls.mono (show Calls _ _ _ _ _ from next_any a A ca n _ haM.out haF.row) ?_
            rintro e wN ⟨rfl, hgN⟩
            obtain ⟨x, y, hxy⟩ : ∃ x y, (nextA a n).1 = (x, y) := ⟨_, _, rfl⟩
            obtain ⟨ne, hne⟩ : ∃ ne, (nextA a n).2 = ne := ⟨_, rfl⟩
            rw [hxy, hne]
            have hnw : Hid (ne = 0 → x = n ∧ hasB a (x, y) = false) := fun h0 => by have h := next_new (hne.trans h0); rw [hxy] at h; exact h
            have hgN' : Gr wN (wN.alloc (.cells #[.int .i64 x, .int .i64 y] 27)) := (Gr.refl _).alloc _
            have hbE : Hid (Below w.heap.size w (wN.alloc (.cells #[.int .i64 x, .int .i64 y] 27))) := hwF.trans ((hgN.trans hgN').below.mono hwF.size)
            have haE := (haF.gr hgN).gr hgN'
            have hdE : DotAt (wN.alloc (.cells #[.int .i64 x, .int .i64 y] 27)) wN.heap.size x y := DotAt.new 27 rfl
            clear hxy hne
            obtain ⟨e0, e1, e2, e3, e4, elt, erow⟩ := (show CtxAt _ _ _ _ _ from haE)
            obtain ⟨f0, f1, flt⟩ := (show DotAt _ _ _ _ from hdE)
            by_cases hn0 : ne = 0
            · obtain ⟨hxn, hno⟩ := hnw.out hn0
              have hneb : (ne != 0) = false := by simpa using hn0
              subst hxn
              clear hn0
              go_wp2_with (go_at_call 14; refine (has_g hno haM.out erow).mono ?_; rintro e wH ⟨rfl, hgH⟩)
              go_ret
              exact ⟨rfl, hbE.out.trans (hgH.below.mono hbE.out.size)⟩
            · have hneb : (ne != 0) = true := by simpa using hn0
              clear hn0
              go_wp2
              go_ret
              exact ⟨rfl, hbE.out⟩
      · have hhb : (h == 0) = false := by simpa using hh0
        clear hg0 hh0 hsame
        have ha6 := ha5
        have hb6 := hb5
        have hL6 := hL5
        have hw6 := hw5
        clear ha5 hb5 hL5 hw5
        go_wp2
        go_loopw [76] (fun i wr => ∃ k : Nat, k ≤ m.length ∧ i = .int .i64 k ∧ Gr W5 wr) (fun i _ => m.length - (intOf i).toNat)
        case atStart => exact ⟨0, by omega, rfl, Gr.refl _⟩
        case round =>
          obtain ⟨k, hk, rfl, hgr⟩ := hrel
          by_cases hlt : k < m.length
          · have hltz : (k : Int) < (m.length : Int) := by omega
            obtain ⟨bb, off, rfl, hbb, hcs⟩ := (hL6.gr hgr).at hlt
            obtain ⟨x, y, hx⟩ : ∃ x y, m[k] = (x, y) := ⟨_, _, rfl⟩
            have e0 := (hcs k hlt).1
            have e1 := (hcs k hlt).2
            rw [hx] at e0 e1
            have hxy := hmem.out (x, y) (by rw [← hx]; exact List.getElem_mem hlt)
            clear hcs hx
            have hgD : Gr wr (wr.alloc (.cells #[.int .i64 x, .int .i64 y] 27)) := (Gr.refl _).alloc _
            have haR := (ha6.gr hgr).gr hgD
            have hbR := (hb6.gr hgr).gr hgD
            have hdR : DotAt (wr.alloc (.cells #[.int .i64 x, .int .i64 y] 27)) wr.heap.size x y := DotAt.new 27 rfl
            obtain ⟨a0, a1, a2, a3, a4, alt, arow⟩ := (show CtxAt _ _ _ _ _ from haR)
            go_wp2_with fail
            refine Calls.mono (show Calls _ _ _ _ _ from has_g hxy.1 haM.out arow) ?_
            rintro e wA ⟨rfl, hgA⟩
            clear a0 a1 a2 a3 a4
            obtain ⟨b0, b1, b2, b3, b4, blt, brow⟩ := (show CtxAt _ _ _ _ _ from hbR.gr hgA)
            obtain ⟨d0, d1, dlt⟩ := (show DotAt _ _ _ _ from hdR.gr hgA)
            go_wp2_with fail
            refine Calls.mono (show Calls _ _ _ _ _ from has_g hxy.2 hbM.out brow) ?_
            rintro e wB ⟨rfl, hgB⟩
            clear b0 b1 b2 b3 b4 d0 d1
            go_wp2
            go_roundw
            case rel => first | exact ⟨k + 1, by omega, by go_num, hgr.trans (hgD.trans (hgA.trans hgB))⟩ | ((repeat apply Exists.intro); exact ⟨⟨k + 1, by omega, by go_num, hgr.trans (hgD.trans (hgA.trans hgB))⟩, rfl⟩)
            case measure => simp [intOf]; omega
          · have hltz : ¬ (k : Int) < (m.length : Int) := by omega
            have haF := ha6.gr hgr
            have hwF : Below w.heap.size w wr := hw6.trans (hgr.below.mono hw6.size)
            obtain ⟨a0, a1, a2, a3, a4, alt, arow⟩ := (show CtxAt _ _ _ _ _ from haF)
            go_wp2_with fail
            refine Calls.mono (show Calls _ _ _ _ _ from next_any a A ca n _ haM.out haF.row) ?_
            rintro e wN ⟨rfl, hgN⟩
            obtain ⟨x, y, hxy⟩ : ∃ x y, (nextA a n).1 = (x, y) := ⟨_, _, rfl⟩
            obtain ⟨ne, hne⟩ : ∃ ne, (nextA a n).2 = ne := ⟨_, rfl⟩
            rw [hxy, hne]
            have hnw : Hid (ne = 0 → x = n ∧ hasB a (x, y) = false) := fun h0 => by have h := next_new (hne.trans h0); rw [hxy] at h; exact h
            have hgN' : Gr wN (wN.alloc (.cells #[.int .i64 x, .int .i64 y] 27)) := (Gr.refl _).alloc _
            have hbE : Hid (Below w.heap.size w (wN.alloc (.cells #[.int .i64 x, .int .i64 y] 27))) := hwF.trans ((hgN.trans hgN').below.mono hwF.size)
            have haE := (haF.gr hgN).gr hgN'
            have hdE : DotAt (wN.alloc (.cells #[.int .i64 x, .int .i64 y] 27)) wN.heap.size x y := DotAt.new 27 rfl
            clear hxy hne
            obtain ⟨e0, e1, e2, e3, e4, elt, erow⟩ := (show CtxAt _ _ _ _ _ from haE)
            obtain ⟨f0, f1, flt⟩ := (show DotAt _ _ _ _ from hdE)
            by_cases hn0 : ne = 0
            · obtain ⟨hxn, hno⟩ := hnw.out hn0
              have hneb : (ne != 0) = false := by simpa using hn0
              subst hxn
              clear hn0
              go_wp2_with (go_at_call 14; refine (has_g hno haM.out erow).mono ?_; rintro e wH ⟨rfl, hgH⟩)
              go_ret
              exact ⟨rfl, hbE.out.trans (hgH.below.mono hbE.out.size)⟩
            · have hneb : (ne != 0) = true := by simpa using hn0
              clear hn0
              go_wp2
              go_ret
              exact ⟨rfl, hbE.out⟩
    · have hgb : (g == 0) = false := by simpa using hg0
      clear hg0 hsame
      have ha6 := ha5
      have hb6 := hb5
      have hL6 := hL5
      have hw6 := hw5
      clear ha5 hb5 hL5 hw5
      go_wp2
      go_loopw [76] (fun i wr => ∃ k : Nat, k ≤ m.length ∧ i = .int .i64 k ∧ Gr W5 wr) (fun i _ => m.length - (intOf i).toNat)
      case atStart => exact ⟨0, by omega, rfl, Gr.refl _⟩
      case round =>
        obtain ⟨k, hk, rfl, hgr⟩ := hrel
        by_cases hlt : k < m.length
        · have hltz : (k : Int) < (m.length : Int) := by omega
          obtain ⟨bb, off, rfl, hbb, hcs⟩ := (hL6.gr hgr).at hlt
          obtain ⟨x, y, hx⟩ : ∃ x y, m[k] = (x, y) := ⟨_, _, rfl⟩
          have e0 := (hcs k hlt).1
          have e1 := (hcs k hlt).2
          rw [hx] at e0 e1
          have hxy := hmem.out (x, y) (by rw [← hx]; exact List.getElem_mem hlt)
          clear hcs hx
          have hgD : Gr wr (wr.alloc (.cells #[.int .i64 x, .int .i64 y] 27)) := (Gr.refl _).alloc _
          have haR := (ha6.gr hgr).gr hgD
          have hbR := (hb6.gr hgr).gr hgD
          have hdR : DotAt (wr.alloc (.cells #[.int .i64 x, .int .i64 y] 27)) wr.heap.size x y := DotAt.new 27 rfl
          obtain ⟨a0, a1, a2, a3, a4, alt, arow⟩ := (show CtxAt _ _ _ _ _ from haR)
          go_wp2_with fail
          refine Calls.mono (show Calls _ _ _ _ _ from has_g hxy.1 haM.out arow) ?_
          rintro e wA ⟨rfl, hgA⟩
          clear a0 a1 a2 a3 a4
          obtain ⟨b0, b1, b2, b3, b4, blt, brow⟩ := (show CtxAt _ _ _ _ _ from hbR.gr hgA)
          obtain ⟨d0, d1, dlt⟩ := (show DotAt _ _ _ _ from hdR.gr hgA)
          go_wp2_with fail
          refine Calls.mono (show Calls _ _ _ _ _ from has_g hxy.2 hbM.out brow) ?_
          rintro e wB ⟨rfl, hgB⟩
          clear b0 b1 b2 b3 b4 d0 d1
          go_wp2
          go_roundw
          case rel => first | exact ⟨k + 1, by omega, by go_num, hgr.trans (hgD.trans (hgA.trans hgB))⟩ | ((repeat apply Exists.intro); exact ⟨⟨k + 1, by omega, by go_num, hgr.trans (hgD.trans (hgA.trans hgB))⟩, rfl⟩)
          case measure => simp [intOf]; omega
        · have hltz : ¬ (k : Int) < (m.length : Int) := by omega
          have haF := ha6.gr hgr
          have hwF : Below w.heap.size w wr := hw6.trans (hgr.below.mono hw6.size)
          obtain ⟨a0, a1, a2, a3, a4, alt, arow⟩ := (show CtxAt _ _ _ _ _ from haF)
          go_wp2_with fail
          refine Calls.mono (show Calls _ _ _ _ _ from next_any a A ca n _ haM.out haF.row) ?_
          rintro e wN ⟨rfl, hgN⟩
          obtain ⟨x, y, hxy⟩ : ∃ x y, (nextA a n).1 = (x, y) := ⟨_, _, rfl⟩
          obtain ⟨ne, hne⟩ : ∃ ne, (nextA a n).2 = ne := ⟨_, rfl⟩
          rw [hxy, hne]
          have hnw : Hid (ne = 0 → x = n ∧ hasB a (x, y) = false) := fun h0 => by have h := next_new (hne.trans h0); rw [hxy] at h; exact h
          have hgN' : Gr wN (wN.alloc (.cells #[.int .i64 x, .int .i64 y] 27)) := (Gr.refl _).alloc _
          have hbE : Hid (Below w.heap.size w (wN.alloc (.cells #[.int .i64 x, .int .i64 y] 27))) := hwF.trans ((hgN.trans hgN').below.mono hwF.size)
          have haE := (haF.gr hgN).gr hgN'
          have hdE : DotAt (wN.alloc (.cells #[.int .i64 x, .int .i64 y] 27)) wN.heap.size x y := DotAt.new 27 rfl
          clear hxy hne
          obtain ⟨e0, e1, e2, e3, e4, elt, erow⟩ := (show CtxAt _ _ _ _ _ from haE)
          obtain ⟨f0, f1, flt⟩ := (show DotAt _ _ _ _ from hdE)
          by_cases hn0 : ne = 0
          · obtain ⟨hxn, hno⟩ := hnw.out hn0
            have hneb : (ne != 0) = false := by simpa using hn0
            subst hxn
            clear hn0
            go_wp2_with (go_at_call 14; refine (has_g hno haM.out erow).mono ?_; rintro e wH ⟨rfl, hgH⟩)
            go_ret
            exact ⟨rfl, hbE.out.trans (hgH.below.mono hbE.out.size)⟩
          · have hneb : (ne != 0) = true := by simpa using hn0
            clear hn0
            go_wp2
            go_ret
            exact ⟨rfl, hbE.out⟩
  · have heb : (me == 0) = false := by simpa using he
    clear he
    obtain ⟨a0, a1, a2, a3, a4, alt, arow⟩ := (show CtxAt _ _ _ _ _ from ha2)
    go_wp2_with fail
    refine Calls.mono (show Calls _ _ _ _ _ from next_any a A ca n _ haM.out ha2.row) ?_
    rintro e wN ⟨rfl, hgN⟩
    obtain ⟨x, y, hxy⟩ : ∃ x y, (nextA a n).1 = (x, y) := ⟨_, _, rfl⟩
    obtain ⟨ne, hne⟩ : ∃ ne, (nextA a n).2 = ne := ⟨_, rfl⟩
    rw [hxy, hne]
    have hnw : Hid (ne = 0 → x = n ∧ hasB a (x, y) = false) := fun h0 => by have h := next_new (hne.trans h0); rw [hxy] at h; exact h
    have hgN' : Gr wN (wN.alloc (.cells #[.int .i64 x, .int .i64 y] 27)) := (Gr.refl _).alloc _
    have hbE : Hid (Below w.heap.size w (wN.alloc (.cells #[.int .i64 x, .int .i64 y] 27))) := hw2.trans ((hgN.trans hgN').below.mono hw2.size)
    have haE := (ha2.gr hgN).gr hgN'
    have hdE : DotAt (wN.alloc (.cells #[.int .i64 x, .int .i64 y] 27)) wN.heap.size x y := DotAt.new 27 rfl
    clear hxy hne
    obtain ⟨e0, e1, e2, e3, e4, elt, erow⟩ := (show CtxAt _ _ _ _ _ from haE)
    obtain ⟨f0, f1, flt⟩ := (show DotAt _ _ _ _ from hdE)
    by_cases hn0 : ne = 0
    · obtain ⟨hxn, hno⟩ := hnw.out hn0
      have hneb : (ne != 0) = false := by simpa using hn0
      subst hxn
      clear hn0
      go_wp2_with (go_at_call 14; refine (has_g hno haM.out erow).mono ?_; rintro e wH ⟨rfl, hgH⟩)
      go_ret
      exact ⟨rfl, hbE.out.trans (hgH.below.mono hbE.out.size)⟩
    · have hneb : (ne != 0) = true := by simpa using hn0
      clear hn0
      go_wp2
      go_ret
      exact ⟨rfl, hbE.out⟩

end Go.Proofs.Ytjgefnipkaecgab
