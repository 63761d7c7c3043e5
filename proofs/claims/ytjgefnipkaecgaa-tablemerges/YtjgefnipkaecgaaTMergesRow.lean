/-
  Proved: whatever two tables are handed in, TableMerges returns true (Merge and Since answer what the document says), and each argument reads afterwards as it read before. No condition.
-/
import Derived.Test.YtjgefnipkaecgaaRMerge
import Derived.Test.YtjgefnipkaecgaaRSince
import Derived.Test.YtjgefnipkaecgaaTOpen
namespace Go.Proofs.Ytjgefnipkaecgaa
section
open Go.RowKit Go.Sort

theorem joinC_lenM (a b : Ctx) : (joinC a b).l.length ≤ maxLen := by
  by_cases h : joinE a b = 0
  · rw [(joinE_ok h).2.2.2.1]
    exact Nat.le_trans (joinE_ok h).2.2.2.2 (by decide)
  · have : joinC a b = zeroC := by simp [joinC, h]
    rw [this]; decide
theorem mergeT_len (a b : Tab) : (mergeT a b).c.l.length ≤ maxLen ∧ (mergeT a b).e.length ≤ maxLen := by
  unfold mergeT
  by_cases h : mergeE a b = 0
  · rw [if_pos h]
    refine ⟨joinC_lenM _ _, ?_⟩
    show (mrg a b).length ≤ maxLen
    have h4 : (mrg a b).length ≤ 400 := by
      unfold mergeE at h
      by_cases h1 : errT a = 0
      · by_cases h2 : errT b = 0
        · cases h3 : clashB a b
          · by_cases h5 : joinE a.c b.c = 0
            · by_cases h6 : 400 < (mrg a b).length
              · simp [h1, h2, h3, h5, h6] at h
              · omega
            · simp [h1, h2, h3, h5] at h
          · simp [h1, h2, h3] at h
        · simp [h1, h2] at h
      · simp [h1] at h
    exact Nat.le_trans h4 (by decide)
  · rw [if_neg h]
    exact ⟨by decide, by decide⟩
theorem sinceT_len {t : Tab} {c : Ctx} (h : t.e.length ≤ maxLen) : (sinceT t c).c.l.length ≤ maxLen ∧ (sinceT t c).e.length ≤ maxLen := by
  unfold sinceT
  by_cases h0 : sinceE t c = 0
  · rw [if_pos h0]
    refine ⟨?_, Nat.le_trans (newsL_len _ _) h⟩
    show (woC t.c _).l.length ≤ maxLen
    unfold woC
    by_cases h1 : woE t.c (dotsOf (knownP c) t.e) = 0
    · rw [if_pos h1]
      show (missL _ _).length ≤ maxLen
      unfold missL
      by_cases h2 : 400 < (missK t.c (lowC t.c (dotsOf (knownP c) t.e)) 4).length
      · rw [if_pos h2]; decide
      · rw [if_neg h2]; exact Nat.le_trans (Nat.le_of_not_lt h2) (by decide)
    · rw [if_neg h1]; decide
  · rw [if_neg h0]
    exact ⟨by decide, by decide⟩
/-- Two tables, in the first two blocks of a call. -/
structure Two2 (w W : World) (a b : Tab) (A C B D : Option Addr) (ca cc cb cd : Nat) : Prop where
  ta : TabAt W w.heap.size a A ca C cc
  tb : TabAt W (w.heap.size + 1) b B cb D cd
  hw : Below w.heap.size w W
theorem Two2.below {w W W' : World} {a b : Tab} {A C B D : Option Addr} {ca cc cb cd : Nat} (h : Two2 w W a b A C B D ca cc cb cd) (k : Below W.heap.size W W') : Two2 w W' a b A C B D ca cc cb cd :=
  ⟨h.ta.below k, h.tb.below k, h.hw.trans (k.mono h.hw.size)⟩
theorem Two2.gr {w W W' : World} {a b : Tab} {A C B D : Option Addr} {ca cc cb cd : Nat} (h : Two2 w W a b A C B D ca cc cb cd) (k : Gr W W') : Two2 w W' a b A C B D ca cc cb cd := h.below k.below

set_option maxRecDepth 100000 in
set_option maxHeartbeats 4000000 in
theorem tableMerges_any (a b : Tab) (A B C D : Option Addr) (ca cb cc cd : Nat) (w : World) (hal : a.c.l.length ≤ maxLen) (hbl : b.c.l.length ≤ maxLen) (hael : a.e.length ≤ maxLen) (hbel : b.e.length ≤ maxLen) (hA : A = none → ca = 0) (hB : B = none → cb = 0) (hC : C = none → cc = 0) (hra : Row w A a.c.l) (hrb : Row w B b.c.l) (hrc : RowC w C a.e) (hrd : RowC w D b.e) :
    Calls Try.prog 6 #[.agg #[.int .i64 a.c.c0, .int .i64 a.c.c1, .int .i64 a.c.c2, .int .i64 a.c.c3, .slice A a.c.l.length ca, .slice C a.e.length cc], .agg #[.int .i64 b.c.c0, .int .i64 b.c.c1, .int .i64 b.c.c2, .int .i64 b.c.c3, .slice B b.c.l.length cb, .slice D b.e.length cd]] w fun e w' => e = .returned (.bool true) ∧ Below w.heap.size w w' := by
  have hF0 : Two2 w ((w.alloc (.cells #[.int .i64 a.c.c0, .int .i64 a.c.c1, .int .i64 a.c.c2, .int .i64 a.c.c3, .slice A a.c.l.length ca, .slice C a.e.length cc] 51)).alloc (.cells #[.int .i64 b.c.c0, .int .i64 b.c.c1, .int .i64 b.c.c2, .int .i64 b.c.c3, .slice B b.c.l.length cb, .slice D b.e.length cd] 51)) a b A C B D ca cc cb cd :=
    ⟨(TabAt.new 51 hra hrc rfl).gr ((Gr.refl _).alloc _), TabAt.new 51 (hrb.gr ((Gr.refl _).alloc _)) (hrd.gr ((Gr.refl _).alloc _)) (by simp), (((Gr.refl w).alloc _).alloc _).below⟩
  have hlH : Hid (a.c.l.length ≤ maxLen ∧ b.c.l.length ≤ maxLen ∧ a.e.length ≤ maxLen ∧ b.e.length ≤ maxLen) := ⟨hal, hbl, hael, hbel⟩
  have hAH : Hid ((A = none → ca = 0) ∧ (B = none → cb = 0) ∧ (C = none → cc = 0)) := ⟨hA, hB, hC⟩
  have hc1 := merge_any a b A B C D ca cb cc cd _ hal hbl hael hbel hA hB hF0.ta.row hF0.tb.row hF0.ta.rowC hF0.tb.rowC
  have hc1H : Hid _ := hc1
  clear hc1 hal hbl hael hbel hra hrb hrc hrd hA hB hC
  go_enter Try.func6, Try.ntmps6
  go_wp2_with fail
  refine Calls.mono (show Calls _ _ _ _ _ from hc1H.out) ?_
  rintro e w1 ⟨C1, p1, D1, q1, rfl, hr1, hd1, -, -, hb1⟩
  clear hc1H
  have hml := mergeT_len a b
  obtain ⟨x, hx⟩ : ∃ x, mergeT a b = x := ⟨_, rfl⟩
  obtain ⟨ex, hex⟩ : ∃ ex, mergeE a b = ex := ⟨_, rfl⟩
  rw [hx] at hr1 hd1 hml ⊢
  rw [hex]
  have hxH : Hid (mergeT a b = x ∧ mergeE a b = ex) := ⟨hx, hex⟩
  have hmlH : Hid (x.c.l.length ≤ maxLen ∧ x.e.length ≤ maxLen) := hml
  clear hx hex hml
  have hgA : Gr w1 (w1.alloc (.cells #[.int .i64 x.c.c0, .int .i64 x.c.c1, .int .i64 x.c.c2, .int .i64 x.c.c3, .slice C1 x.c.l.length p1, .slice D1 x.e.length q1] 51)) := (Gr.refl _).alloc _
  have hF1 := (hF0.below hb1).gr hgA
  have hx1 : TabAt (w1.alloc (.cells #[.int .i64 x.c.c0, .int .i64 x.c.c1, .int .i64 x.c.c2, .int .i64 x.c.c3, .slice C1 x.c.l.length p1, .slice D1 x.e.length q1] 51)) w1.heap.size x C1 p1 D1 q1 := TabAt.new 51 hr1 hd1 rfl
  obtain ⟨a0, a1, a2, a3, a4, a5, alt, arow, arowC⟩ := (show TabAt _ _ _ _ _ _ _ from hF1.ta)
  obtain ⟨b0, b1, b2, b3, b4, b5, blt, brow, browC⟩ := (show TabAt _ _ _ _ _ _ _ from hF1.tb)
  have hc2 := rmerge_any a b A B C D ca cb cc cd _ hlH.out.1 hlH.out.2.1 hlH.out.2.2.1 hlH.out.2.2.2 hAH.out.1 hAH.out.2.1 hAH.out.2.2 arow brow arowC browC
  have hc2H : Hid _ := hc2
  clear hc2 hgA hr1 hd1 hF0 hb1 alt blt arow brow arowC browC
  go_wp2_with fail
  refine Calls.mono (show Calls _ _ _ _ _ from hc2H.out) ?_
  rintro e w2 ⟨C2, p2, D2, q2, rfl, hr2, hd2, -, -, hb2⟩
  clear hc2H a0 a1 a2 a3 a4 a5 b0 b1 b2 b3 b4 b5
  rw [hxH.out.1] at hr2 hd2 ⊢
  rw [hxH.out.2]
  have hgB : Gr w2 (w2.alloc (.cells #[.int .i64 x.c.c0, .int .i64 x.c.c1, .int .i64 x.c.c2, .int .i64 x.c.c3, .slice C2 x.c.l.length p2, .slice D2 x.e.length q2] 51)) := (Gr.refl _).alloc _
  have hF2 := (hF1.below hb2).gr hgB
  have hx2 := (hx1.below hb2).gr hgB
  have hy2 : TabAt (w2.alloc (.cells #[.int .i64 x.c.c0, .int .i64 x.c.c1, .int .i64 x.c.c2, .int .i64 x.c.c3, .slice C2 x.c.l.length p2, .slice D2 x.e.length q2] 51)) w2.heap.size x C2 p2 D2 q2 := TabAt.new 51 hr2 hd2 rfl
  obtain ⟨a0, a1, a2, a3, a4, a5, alt, arow, arowC⟩ := (show TabAt _ _ _ _ _ _ _ from hF2.ta)
  obtain ⟨b0, b1, b2, b3, b4, b5, blt, brow, browC⟩ := (show TabAt _ _ _ _ _ _ _ from hF2.tb)
  have hc3 := since_any a b.c A B C ca cb cc _ hlH.out.1 hlH.out.2.1 hlH.out.2.2.1 arow brow arowC
  have hc3H : Hid _ := hc3
  clear hc3 hgB hr2 hd2 hF1 hx1 hb2 alt blt arow brow arowC browC
  go_wp2_with fail
  refine Calls.mono (show Calls _ _ _ _ _ from hc3H.out) ?_
  rintro e w3 ⟨C3, p3, D3, q3, rfl, hr3, hd3, -, -, hb3⟩
  clear hc3H a0 a1 a2 a3 a4 a5 b0 b1 b2 b3 b4 b5
  have hsl := sinceT_len (c := b.c) hlH.out.2.2.1
  obtain ⟨z, hz⟩ : ∃ z, sinceT a b.c = z := ⟨_, rfl⟩
  obtain ⟨ez, hez⟩ : ∃ ez, sinceE a b.c = ez := ⟨_, rfl⟩
  rw [hz] at hr3 hd3 hsl ⊢
  rw [hez]
  have hzH : Hid (sinceT a b.c = z ∧ sinceE a b.c = ez) := ⟨hz, hez⟩
  have hslH : Hid (z.c.l.length ≤ maxLen ∧ z.e.length ≤ maxLen) := hsl
  clear hz hez hsl
  have hgC : Gr w3 (w3.alloc (.cells #[.int .i64 z.c.c0, .int .i64 z.c.c1, .int .i64 z.c.c2, .int .i64 z.c.c3, .slice C3 z.c.l.length p3, .slice D3 z.e.length q3] 51)) := (Gr.refl _).alloc _
  have hF3 := (hF2.below hb3).gr hgC
  have hx3 := (hx2.below hb3).gr hgC
  have hy3 := (hy2.below hb3).gr hgC
  have hz3 : TabAt (w3.alloc (.cells #[.int .i64 z.c.c0, .int .i64 z.c.c1, .int .i64 z.c.c2, .int .i64 z.c.c3, .slice C3 z.c.l.length p3, .slice D3 z.e.length q3] 51)) w3.heap.size z C3 p3 D3 q3 := TabAt.new 51 hr3 hd3 rfl
  obtain ⟨a0, a1, a2, a3, a4, a5, alt, arow, arowC⟩ := (show TabAt _ _ _ _ _ _ _ from hF3.ta)
  obtain ⟨b0, b1, b2, b3, b4, b5, blt, brow, browC⟩ := (show TabAt _ _ _ _ _ _ _ from hF3.tb)
  have hc4 := rsince_any a b.c A B C ca cb cc _ hlH.out.1 hlH.out.2.1 hlH.out.2.2.1 arow brow arowC
  have hc4H : Hid _ := hc4
  clear hc4 hgC hr3 hd3 hF2 hx2 hy2 hb3 alt blt arow brow arowC browC
  go_wp2_with fail
  refine Calls.mono (show Calls _ _ _ _ _ from hc4H.out) ?_
  rintro e w4 ⟨C4, p4, D4, q4, rfl, hr4, hd4, -, -, hb4⟩
  clear hc4H a0 a1 a2 a3 a4 a5 b0 b1 b2 b3 b4 b5
  rw [hzH.out.1] at hr4 hd4 ⊢
  rw [hzH.out.2]
  have hgD : Gr w4 (w4.alloc (.cells #[.int .i64 z.c.c0, .int .i64 z.c.c1, .int .i64 z.c.c2, .int .i64 z.c.c3, .slice C4 z.c.l.length p4, .slice D4 z.e.length q4] 51)) := (Gr.refl _).alloc _
  have hF4 := (hF3.below hb4).gr hgD
  have hx4 := (hx3.below hb4).gr hgD
  have hy4 := (hy3.below hb4).gr hgD
  have hz4 := (hz3.below hb4).gr hgD
  have hv4 : TabAt (w4.alloc (.cells #[.int .i64 z.c.c0, .int .i64 z.c.c1, .int .i64 z.c.c2, .int .i64 z.c.c3, .slice C4 z.c.l.length p4, .slice D4 z.e.length q4] 51)) w4.heap.size z C4 p4 D4 q4 := TabAt.new 51 hr4 hd4 rfl
  clear hgD hr4 hd4 hF3 hx3 hy3 hz3 hb4
  go_upto_region 5 with fail
  generalize w4.alloc (.cells #[.int .i64 z.c.c0, .int .i64 z.c.c1, .int .i64 z.c.c2, .int .i64 z.c.c3, .slice C4 z.c.l.length p4, .slice D4 z.e.length q4] 51) = X at hF4 hx4 hy4 hz4 hv4 ⊢
  obtain ⟨x0, x1, x2, x3, x4, x5, xlt, xrow, xrowC⟩ := (show TabAt _ _ _ _ _ _ _ from hx4)
  obtain ⟨y0, y1, y2, y3, y4, y5, ylt, yrow, yrowC⟩ := (show TabAt _ _ _ _ _ _ _ from hy4)
  have hs1 := sameT_any x x C1 D1 C2 D2 p1 q1 p2 q2 X hmlH.out.1 hmlH.out.1 hmlH.out.2 hmlH.out.2 xrow yrow xrowC yrowC
  rw [sameT_self] at hs1
  have hs1H : Hid _ := hs1
  have hbF : Hid (Below w.heap.size w X) := hF4.hw
  clear hs1 hF4 hx4 hy4 xrow xrowC yrow yrowC
  go_wp2_with fail
  refine Calls.mono (show Calls _ _ _ _ _ from hs1H.out) ?_
  rintro e w5 ⟨rfl, hg5⟩
  clear hs1H x0 x1 x2 x3 x4 x5 y0 y1 y2 y3 y4 y5
  obtain ⟨z0, z1, z2, z3, z4, z5, zlt, zrow, zrowC⟩ := (show TabAt _ _ _ _ _ _ _ from hz4.gr hg5)
  obtain ⟨v0, v1, v2, v3, v4, v5, vlt, vrow, vrowC⟩ := (show TabAt _ _ _ _ _ _ _ from hv4.gr hg5)
  have hs2 := sameT_any z z C3 D3 C4 D4 p3 q3 p4 q4 w5 hslH.out.1 hslH.out.1 hslH.out.2 hslH.out.2 zrow vrow zrowC vrowC
  rw [sameT_self] at hs2
  have hs2H : Hid _ := hs2
  clear hs2 zrow zrowC vrow vrowC hz4 hv4
  go_wp2_with fail
  refine Calls.mono (show Calls _ _ _ _ _ from hs2H.out) ?_
  rintro e w6 ⟨rfl, hg6⟩
  clear hs2H
  go_wp2
  go_ret
  exact ⟨rfl, hbF.out.trans ((hg5.trans hg6).below.mono hbF.out.size)⟩

end

open Go.ChangeShapes Go.WideShapes Go.ChangeAt Go.RowKit

set_option maxRecDepth 100000 in
theorem tableMerges_lifted (os : Os) (started : os.Started) (H : Type) (enc : TypeId × Value → H) :
    ReturnsInHanded {} Try.checked os 6 .any (Rows.tableMergesSpec.pre6 enc Try.prog Try.f6 Rows.tableMergesRow.domain false) (Rows.tableMergesSpec.post enc Try.prog Try.f6 false true false false) := by
  refine returnsInHanded_of_change (C := Try.checked) ownK started (by kernel_rfl) Try.func6
    (ChangeSpec.witness6 (enc := enc) (C := Try.checked) false ⟨#[], #[.agg #[.int .i64 0, .int .i64 0, .int .i64 0, .int .i64 0, .slice none 0 0, .slice none 0 0], .agg #[.int .i64 0, .int .i64 0, .int .i64 0, .int .i64 0, .slice none 0 0, .slice none 0 0]], []⟩ 8 (by kernel_rfl) (by kernel_rfl) (by kernel_rfl) (by kernel_rfl)) ?_
  intro W base args ds gs before hval0 hW hcnd _
  have hval : ∀ (j : Nat) t v, Try.f6.params[j]? = some t → args[j]? = some v → Value.okWide Try.prog W .any base t v := hval0
  have hW' := hW
  obtain ⟨p, q, hA0, hV, rfl, hfz, hnd⟩ := hW
  have hA : DataW.TrodAll enc Try.prog W 0 (fun _ => true) true Try.f6.params.toList args.toList ds p := hA0
  rw [Try.params6] at hA hval
  obtain ⟨v0, vs0, d0, ds0, p0, q0, hargs, rfl, rfl, h0, r0⟩ := trodAll_cons hA
  obtain ⟨v1, vs1, d1, ds1, p1, q1, rfl, rfl, rfl, h1, r1⟩ := trodAll_cons r0
  obtain ⟨rfl, rfl, rfl⟩ := trodAll_nil r1
  obtain rfl : args = #[v0, v1] := by cases args; simp_all
  obtain ⟨rfl, rfl⟩ := trodVars_none hV
  have lt0 : ∀ x ∈ p0, x.block < W.heap.size := by obtain ⟨m, hm⟩ := h0; exact DataW.trod_lt m _ _ _ hm
  have lt1 : ∀ x ∈ p1, x.block < W.heap.size := by obtain ⟨m, hm⟩ := h1; exact DataW.trod_lt m _ _ _ hm
  have k0 := h0
  have k1 := h1
  obtain ⟨a, A, ca, C, cc, rfl, hA', hC', hra, hrc, hal, hael, _⟩ := open_table (hval 0 51 v0 rfl rfl) h0
  obtain ⟨b, B, cb, D, cd, rfl, hB', hD', hrb, hrd, hbl, hbel, _⟩ := open_table (hval 1 51 v1 rfl rfl) h1
  clear hA0 hval0
  refine (tableMerges_any a b A B C D ca cb cc cd W hal hbl hael hbel hA' hB' hC' hra hrb hrc hrd).mono fun e W' ⟨he, bel⟩ => ?_
  subst he
  exact ⟨_, rfl, _, _, _, [], _, [], hW', trodAll_mk1 (shut_bool Try.underlying4 _),
    (trodAll_cons_mk (Below.trod laidAll (by kernel_rfl) (of_decide_eq_true (by kernel_rfl)) k0 bel lt0)
      (trodAll_cons_mk (Below.trod laidAll (by kernel_rfl) (of_decide_eq_true (by kernel_rfl)) k1 bel lt1) trodAll_mk0)), rfl, bel.frame _, fun h => by cases h⟩

theorem tableMerges_holds : Rows.TableMergesSaid :=
  OpenClaim.holds_of_wide 6 Try.f6 rfl rfl rfl rfl rfl rfl rfl ⟨rfl, rfl, rfl, rfl, rfl⟩ rfl rfl rfl rfl rfl (by kernel_rfl) Try.func6 (by kernel_rfl)
    (of_decide_eq_true (by kernel_rfl)) (by unfold Func.isWrapper; first | (rw [if_pos (by decide +kernel)]; kernel_rfl) | (rw [if_neg (by decide +kernel)]; exact ⟨rfl, rfl⟩))
    (fun os started H enc _ => tableMerges_lifted os started H enc)

#print axioms tableMerges_holds
end Go.Proofs.Ytjgefnipkaecgaa
