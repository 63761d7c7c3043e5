/-
  Proved: whatever three tables are handed in, TableLattice returns true (merging is a lattice: it doesn't matter in which order, nor how often), and each argument reads afterwards as it read before. No condition.
-/
import Derived.Test.YtjgefnipkaecgabKLatMath
import Derived.Test.YtjgefnipkaecgabKPuts
import Derived.Test.YtjgefnipkaecgabTOpen
namespace Go.Proofs.Ytjgefnipkaecgab
section
open Go.RowKit Go.Sort

/-- Three tables, in the first three blocks of a call. -/
structure Three (w W : World) (a b c : Tab) (A C B D E F : Option Addr) (ca cc cb cd ce cf : Nat) : Prop where
  ta : TabAt W w.heap.size a A ca C cc
  tb : TabAt W (w.heap.size + 1) b B cb D cd
  tc : TabAt W (w.heap.size + 1 + 1) c E ce F cf
  hw : Below w.heap.size w W
theorem Three.below {w W W' : World} {a b c : Tab} {A C B D E F : Option Addr} {ca cc cb cd ce cf : Nat} (h : Three w W a b c A C B D E F ca cc cb cd ce cf) (k : Below W.heap.size W W') : Three w W' a b c A C B D E F ca cc cb cd ce cf :=
  ⟨h.ta.below k, h.tb.below k, h.tc.below k, h.hw.trans (k.mono h.hw.size)⟩
theorem Three.gr {w W W' : World} {a b c : Tab} {A C B D E F : Option Addr} {ca cc cb cd ce cf : Nat} (h : Three w W a b c A C B D E F ca cc cb cd ce cf) (k : Gr W W') : Three w W' a b c A C B D E F ca cc cb cd ce cf := h.below k.below
/-- A table is not too long to be read. -/
def Fits (t : Tab) : Prop := t.c.l.length ≤ maxLen ∧ t.e.length ≤ maxLen

set_option maxRecDepth 100000 in
set_option maxHeartbeats 4000000 in
theorem tableLattice_any (a b c : Tab) (A C B D E F : Option Addr) (ca cc cb cd ce cf : Nat) (w : World) (ha : Fits a) (hb : Fits b) (hc : Fits c) (hA : A = none → ca = 0) (hB : B = none → cb = 0) (hE : E = none → ce = 0) (hra : Row w A a.c.l) (hrb : Row w B b.c.l) (hrc : Row w E c.c.l) (hsa : RowC w C a.e) (hsb : RowC w D b.e) (hsc : RowC w F c.e) :
    Calls Try.prog 5 #[.agg #[.int .i64 a.c.c0, .int .i64 a.c.c1, .int .i64 a.c.c2, .int .i64 a.c.c3, .slice A a.c.l.length ca, .slice C a.e.length cc], .agg #[.int .i64 b.c.c0, .int .i64 b.c.c1, .int .i64 b.c.c2, .int .i64 b.c.c3, .slice B b.c.l.length cb, .slice D b.e.length cd], .agg #[.int .i64 c.c.c0, .int .i64 c.c.c1, .int .i64 c.c.c2, .int .i64 c.c.c3, .slice E c.c.l.length ce, .slice F c.e.length cf]] w fun e w' => e = .returned (.bool true) ∧ Below w.heap.size w w' := by
  have hF0 : Three w (((w.alloc (.cells #[.int .i64 a.c.c0, .int .i64 a.c.c1, .int .i64 a.c.c2, .int .i64 a.c.c3, .slice A a.c.l.length ca, .slice C a.e.length cc] 46)).alloc (.cells #[.int .i64 b.c.c0, .int .i64 b.c.c1, .int .i64 b.c.c2, .int .i64 b.c.c3, .slice B b.c.l.length cb, .slice D b.e.length cd] 46)).alloc (.cells #[.int .i64 c.c.c0, .int .i64 c.c.c1, .int .i64 c.c.c2, .int .i64 c.c.c3, .slice E c.c.l.length ce, .slice F c.e.length cf] 46)) a b c A C B D E F ca cc cb cd ce cf :=
    ⟨(TabAt.new 46 hra hsa rfl).gr (((Gr.refl _).alloc _).alloc _), (TabAt.new 46 (hrb.gr ((Gr.refl _).alloc _)) (hsb.gr ((Gr.refl _).alloc _)) (by simp)).gr ((Gr.refl _).alloc _), TabAt.new 46 (hrc.gr (((Gr.refl _).alloc _).alloc _)) (hsc.gr (((Gr.refl _).alloc _).alloc _)) (by simp), ((((Gr.refl w).alloc _).alloc _).alloc _).below⟩
  have hlH : Hid (Fits a ∧ Fits b ∧ Fits c) := ⟨ha, hb, hc⟩
  have hAH : Hid ((A = none → ca = 0) ∧ (B = none → cb = 0) ∧ (E = none → ce = 0)) := ⟨hA, hB, hE⟩
  clear ha hb hc hA hB hE hra hrb hrc hsa hsb hsc
  go_enter Try.func5, Try.ntmps5
  go_wp2_with fail
  refine (puts_any _).mono ?_
  rintro e w1 ⟨rfl, hb1⟩
  have hF1 := hF0.below hb1
  clear hF0 hb1
  obtain ⟨x0, x1, x2, x3, x4, x5, xlt, xrow, xrowC⟩ := (show TabAt _ _ _ _ _ _ _ from hF1.ta)
  obtain ⟨y0, y1, y2, y3, y4, y5, ylt, yrow, yrowC⟩ := (show TabAt _ _ _ _ _ _ _ from hF1.tb)
  have hm := merge_new a b A B C D ca cb cc cd _ hlH.out.1.1 hlH.out.2.1.1 hlH.out.1.2 hlH.out.2.1.2 hAH.out.1 hAH.out.2.1 xrow yrow xrowC yrowC
  have hmH : Hid _ := hm
  clear hm xlt ylt xrow yrow xrowC yrowC
  go_wp2_with fail
  refine Calls.mono (show Calls _ _ _ _ _ from hmH.out) ?_
  rintro e u2 ⟨C2, p2, D2, q2, rfl, hr, hd, hn, -, -, -, hb⟩
  clear hmH x0 x1 x2 x3 x4 x5 y0 y1 y2 y3 y4 y5
  obtain ⟨ab, h0⟩ : ∃ t, mergeT a b = t := ⟨_, rfl⟩
  obtain ⟨eab, h1⟩ : ∃ e, mergeE a b = e := ⟨_, rfl⟩
  have hfab : Hid (Fits ab) := by show Fits _; rw [← h0]; exact mergeT_lenK _ _
  rw [h0] at hr hd ⊢
  rw [h1]
  have hzab : Hid (mergeT a b = ab ∧ mergeE a b = eab) := ⟨h0, h1⟩
  have hnab : Hid (C2 = none → p2 = 0) := hn
  have hg : Gr u2 (u2.alloc (.cells #[.int .i64 ab.c.c0, .int .i64 ab.c.c1, .int .i64 ab.c.c2, .int .i64 ab.c.c3, .slice C2 ab.c.l.length p2, .slice D2 ab.e.length q2] 46)) := (Gr.refl _).alloc _
  have hF2 := (hF1.below hb).gr hg
  have htab2 : TabAt (u2.alloc (.cells #[.int .i64 ab.c.c0, .int .i64 ab.c.c1, .int .i64 ab.c.c2, .int .i64 ab.c.c3, .slice C2 ab.c.l.length p2, .slice D2 ab.e.length q2] 46)) u2.heap.size ab C2 p2 D2 q2 := TabAt.new 46 hr hd rfl
  clear h0 h1 hn hg hr hd hb hF1
  obtain ⟨x0, x1, x2, x3, x4, x5, xlt, xrow, xrowC⟩ := (show TabAt _ _ _ _ _ _ _ from hF2.tb)
  obtain ⟨y0, y1, y2, y3, y4, y5, ylt, yrow, yrowC⟩ := (show TabAt _ _ _ _ _ _ _ from hF2.ta)
  have hm := merge_new b a B A D C cb ca cd cc _ hlH.out.2.1.1 hlH.out.1.1 hlH.out.2.1.2 hlH.out.1.2 hAH.out.2.1 hAH.out.1 xrow yrow xrowC yrowC
  have hmH : Hid _ := hm
  clear hm xlt ylt xrow yrow xrowC yrowC
  go_wp2_with fail
  refine Calls.mono (show Calls _ _ _ _ _ from hmH.out) ?_
  rintro e u3 ⟨C3, p3, D3, q3, rfl, hr, hd, hn, -, -, -, hb⟩
  clear hmH x0 x1 x2 x3 x4 x5 y0 y1 y2 y3 y4 y5
  obtain ⟨ba, h0⟩ : ∃ t, mergeT b a = t := ⟨_, rfl⟩
  obtain ⟨eba, h1⟩ : ∃ e, mergeE b a = e := ⟨_, rfl⟩
  have hfba : Hid (Fits ba) := by show Fits _; rw [← h0]; exact mergeT_lenK _ _
  rw [h0] at hr hd ⊢
  rw [h1]
  have hzba : Hid (mergeT b a = ba ∧ mergeE b a = eba) := ⟨h0, h1⟩
  have hnba : Hid (C3 = none → p3 = 0) := hn
  have hg : Gr u3 (u3.alloc (.cells #[.int .i64 ba.c.c0, .int .i64 ba.c.c1, .int .i64 ba.c.c2, .int .i64 ba.c.c3, .slice C3 ba.c.l.length p3, .slice D3 ba.e.length q3] 46)) := (Gr.refl _).alloc _
  have hF3 := (hF2.below hb).gr hg
  have htab3 := (htab2.below hb).gr hg
  have htba3 : TabAt (u3.alloc (.cells #[.int .i64 ba.c.c0, .int .i64 ba.c.c1, .int .i64 ba.c.c2, .int .i64 ba.c.c3, .slice C3 ba.c.l.length p3, .slice D3 ba.e.length q3] 46)) u3.heap.size ba C3 p3 D3 q3 := TabAt.new 46 hr hd rfl
  clear h0 h1 hn hg hr hd hb hF2 htab2
  have hsm := merge_same hzab.out.2 hzba.out.2
  have hEB := eqBool
  by_cases h1 : eab = 0
  · subst h1
    obtain ⟨h2, h3⟩ := merge_sym hzab.out.2
    obtain rfl : eba = 0 := by rw [← hzba.out.2]; exact h2
    obtain rfl : ab = ba := by rw [← hzba.out.1, ← hzab.out.1]; exact h3.symm
    obtain ⟨m1, m2⟩ := merge_again hzab.out.2
    rw [hzab.out.1] at m1 m2
    obtain ⟨m3, m4⟩ := merge_self (by have := errT_merge hzab.out.2; rw [hzab.out.1] at this; exact this : errT ab = 0)
    have hmH0 : Hid ((mergeE ab a = 0 ∧ mergeT ab a = ab) ∧ (mergeE ab ab = 0 ∧ mergeT ab ab = ab) ∧ errT ab = 0) := ⟨⟨m1, m2⟩, ⟨m3, m4⟩, by have := errT_merge hzab.out.2; rw [hzab.out.1] at this; exact this⟩
    clear hsm h2 h3 m1 m2 m3 m4
    obtain ⟨x0, x1, x2, x3, x4, x5, xlt, xrow, xrowC⟩ := (show TabAt _ _ _ _ _ _ _ from htab3)
    obtain ⟨y0, y1, y2, y3, y4, y5, ylt, yrow, yrowC⟩ := (show TabAt _ _ _ _ _ _ _ from hF3.ta)
    have hm := merge_new ab a C2 A D2 C p2 ca q2 cc _ hfab.out.1 hlH.out.1.1 hfab.out.2 hlH.out.1.2 hnab.out hAH.out.1 xrow yrow xrowC yrowC
    have hmH : Hid _ := hm
    clear hm xlt ylt xrow yrow xrowC yrowC
    go_wp2_with fail
    refine Calls.mono (show Calls _ _ _ _ _ from hmH.out) ?_
    rintro e u4 ⟨C4, p4, D4, q4, rfl, hr, hd, hn, -, -, -, hb⟩
    clear hmH x0 x1 x2 x3 x4 x5 y0 y1 y2 y3 y4 y5
    obtain ⟨ag, h0⟩ : ∃ t, mergeT ab a = t := ⟨_, rfl⟩
    obtain ⟨eag, h1⟩ : ∃ e, mergeE ab a = e := ⟨_, rfl⟩
    have hfag : Hid (Fits ag) := by show Fits _; rw [← h0]; exact mergeT_lenK _ _
    rw [h0] at hr hd ⊢
    rw [h1]
    have hzag : Hid (mergeT ab a = ag ∧ mergeE ab a = eag) := ⟨h0, h1⟩
    have hnag : Hid (C4 = none → p4 = 0) := hn
    have hg : Gr u4 (u4.alloc (.cells #[.int .i64 ag.c.c0, .int .i64 ag.c.c1, .int .i64 ag.c.c2, .int .i64 ag.c.c3, .slice C4 ag.c.l.length p4, .slice D4 ag.e.length q4] 46)) := (Gr.refl _).alloc _
    have hF4 := (hF3.below hb).gr hg
    have htab4 := (htab3.below hb).gr hg
    have htba4 := (htba3.below hb).gr hg
    have htag4 : TabAt (u4.alloc (.cells #[.int .i64 ag.c.c0, .int .i64 ag.c.c1, .int .i64 ag.c.c2, .int .i64 ag.c.c3, .slice C4 ag.c.l.length p4, .slice D4 ag.e.length q4] 46)) u4.heap.size ag C4 p4 D4 q4 := TabAt.new 46 hr hd rfl
    clear h0 h1 hn hg hr hd hb hF3 htab3 htba3
    obtain ⟨x0, x1, x2, x3, x4, x5, xlt, xrow, xrowC⟩ := (show TabAt _ _ _ _ _ _ _ from htab4)
    obtain ⟨y0, y1, y2, y3, y4, y5, ylt, yrow, yrowC⟩ := (show TabAt _ _ _ _ _ _ _ from htab4)
    have hm := merge_new ab ab C2 C2 D2 D2 p2 p2 q2 q2 _ hfab.out.1 hfab.out.1 hfab.out.2 hfab.out.2 hnab.out hnab.out xrow yrow xrowC yrowC
    have hmH : Hid _ := hm
    clear hm xlt ylt xrow yrow xrowC yrowC
    go_wp2_with fail
    refine Calls.mono (show Calls _ _ _ _ _ from hmH.out) ?_
    rintro e u5 ⟨C5, p5, D5, q5, rfl, hr, hd, hn, -, -, -, hb⟩
    clear hmH x0 x1 x2 x3 x4 x5 y0 y1 y2 y3 y4 y5
    obtain ⟨sm, h0⟩ : ∃ t, mergeT ab ab = t := ⟨_, rfl⟩
    obtain ⟨esm, h1⟩ : ∃ e, mergeE ab ab = e := ⟨_, rfl⟩
    have hfsm : Hid (Fits sm) := by show Fits _; rw [← h0]; exact mergeT_lenK _ _
    rw [h0] at hr hd ⊢
    rw [h1]
    have hzsm : Hid (mergeT ab ab = sm ∧ mergeE ab ab = esm) := ⟨h0, h1⟩
    have hnsm : Hid (C5 = none → p5 = 0) := hn
    have hg : Gr u5 (u5.alloc (.cells #[.int .i64 sm.c.c0, .int .i64 sm.c.c1, .int .i64 sm.c.c2, .int .i64 sm.c.c3, .slice C5 sm.c.l.length p5, .slice D5 sm.e.length q5] 46)) := (Gr.refl _).alloc _
    have hF5 := (hF4.below hb).gr hg
    have htab5 := (htab4.below hb).gr hg
    have htba5 := (htba4.below hb).gr hg
    have htag5 := (htag4.below hb).gr hg
    have htsm5 : TabAt (u5.alloc (.cells #[.int .i64 sm.c.c0, .int .i64 sm.c.c1, .int .i64 sm.c.c2, .int .i64 sm.c.c3, .slice C5 sm.c.l.length p5, .slice D5 sm.e.length q5] 46)) u5.heap.size sm C5 p5 D5 q5 := TabAt.new 46 hr hd rfl
    clear h0 h1 hn hg hr hd hb hF4 htab4 htba4 htag4
    obtain rfl : eag = 0 := by rw [← hzag.out.2]; exact hmH0.out.1.1
    obtain rfl : ab = ag := by rw [← hzag.out.1]; exact hmH0.out.1.2.symm
    obtain rfl : esm = 0 := by rw [← hzsm.out.2]; exact hmH0.out.2.1.1
    obtain rfl : ab = sm := by rw [← hzsm.out.1]; exact hmH0.out.2.1.2.symm
    obtain ⟨x0, x1, x2, x3, x4, x5, xlt, xrow, xrowC⟩ := (show TabAt _ _ _ _ _ _ _ from htab5)
    obtain ⟨y0, y1, y2, y3, y4, y5, ylt, yrow, yrowC⟩ := (show TabAt _ _ _ _ _ _ _ from htba5)
    have hs := sameT_any ab ab C2 D2 C3 D3 p2 q2 p3 q3 _ hfab.out.1 hfba.out.1 hfab.out.2 hfba.out.2 xrow yrow xrowC yrowC
    rw [sameT_self] at hs
    have hsH : Hid _ := hs
    clear hs xlt ylt xrow yrow xrowC yrowC
    go_wp2_with fail
    refine Calls.mono (show Calls _ _ _ _ _ from hsH.out) ?_
    rintro e s21 ⟨rfl, hg⟩
    clear hsH x0 x1 x2 x3 x4 x5 y0 y1 y2 y3 y4 y5
    have hG21 := hF5.gr hg
    have htabG21 := htab5.gr hg
    have htbaG21 := htba5.gr hg
    have htagG21 := htag5.gr hg
    have htsmG21 := htsm5.gr hg
    clear hF5 htab5 htba5 htag5 htsm5
    clear hg
    obtain ⟨x0, x1, x2, x3, x4, x5, xlt, xrow, xrowC⟩ := (show TabAt _ _ _ _ _ _ _ from htagG21)
    obtain ⟨y0, y1, y2, y3, y4, y5, ylt, yrow, yrowC⟩ := (show TabAt _ _ _ _ _ _ _ from htabG21)
    have hs := sameT_any ab ab C4 D4 C2 D2 p4 q4 p2 q2 _ hfag.out.1 hfab.out.1 hfag.out.2 hfab.out.2 xrow yrow xrowC yrowC
    rw [sameT_self] at hs
    have hsH : Hid _ := hs
    clear hs xlt ylt xrow yrow xrowC yrowC
    go_wp2_with fail
    refine Calls.mono (show Calls _ _ _ _ _ from hsH.out) ?_
    rintro e s22 ⟨rfl, hg⟩
    clear hsH x0 x1 x2 x3 x4 x5 y0 y1 y2 y3 y4 y5
    have hG22 := hG21.gr hg
    have htabG22 := htabG21.gr hg
    have htbaG22 := htbaG21.gr hg
    have htagG22 := htagG21.gr hg
    have htsmG22 := htsmG21.gr hg
    clear hG21 htabG21 htbaG21 htagG21 htsmG21
    clear hg
    obtain ⟨x0, x1, x2, x3, x4, x5, xlt, xrow, xrowC⟩ := (show TabAt _ _ _ _ _ _ _ from htsmG22)
    obtain ⟨y0, y1, y2, y3, y4, y5, ylt, yrow, yrowC⟩ := (show TabAt _ _ _ _ _ _ _ from htabG22)
    have hs := sameT_any ab ab C5 D5 C2 D2 p5 q5 p2 q2 _ hfsm.out.1 hfab.out.1 hfsm.out.2 hfab.out.2 xrow yrow xrowC yrowC
    rw [sameT_self] at hs
    have hsH : Hid _ := hs
    clear hs xlt ylt xrow yrow xrowC yrowC
    go_wp2_with fail
    refine Calls.mono (show Calls _ _ _ _ _ from hsH.out) ?_
    rintro e s23 ⟨rfl, hg⟩
    clear hsH x0 x1 x2 x3 x4 x5 y0 y1 y2 y3 y4 y5
    have hG23 := hG22.gr hg
    have htabG23 := htabG22.gr hg
    have htbaG23 := htbaG22.gr hg
    have htagG23 := htagG22.gr hg
    have htsmG23 := htsmG22.gr hg
    clear hG22 htabG22 htbaG22 htagG22 htsmG22
    clear hg
    obtain ⟨x0, x1, x2, x3, x4, x5, xlt, xrow, xrowC⟩ := (show TabAt _ _ _ _ _ _ _ from htabG23)
    have hk := checkT_any ab C2 p2 D2 q2 _ hfab.out.1 hfab.out.2 xrow xrowC
    rw [hmH0.out.2.2] at hk
    have hkH : Hid _ := hk
    clear hk xlt xrow xrowC
    go_wp2_with fail
    refine Calls.mono (show Calls _ _ _ _ _ from hkH.out) ?_
    rintro e s24 ⟨rfl, hg⟩
    clear hkH x0 x1 x2 x3 x4 x5
    have hG24 := hG23.gr hg
    have htabG24 := htabG23.gr hg
    have htbaG24 := htbaG23.gr hg
    have htagG24 := htagG23.gr hg
    have htsmG24 := htsmG23.gr hg
    clear hG23 htabG23 htbaG23 htagG23 htsmG23
    clear hg
    obtain ⟨x0, x1, x2, x3, x4, x5, xlt, xrow, xrowC⟩ := (show TabAt _ _ _ _ _ _ _ from htabG24)
    obtain ⟨y0, y1, y2, y3, y4, y5, ylt, yrow, yrowC⟩ := (show TabAt _ _ _ _ _ _ _ from hG24.tc)
    have hm := merge_new ab c C2 E D2 F p2 ce q2 cf _ hfab.out.1 hlH.out.2.2.1 hfab.out.2 hlH.out.2.2.2 hnab.out hAH.out.2.2 xrow yrow xrowC yrowC
    have hmH : Hid _ := hm
    clear hm xlt ylt xrow yrow xrowC yrowC
    go_wp2_with fail
    refine Calls.mono (show Calls _ _ _ _ _ from hmH.out) ?_
    rintro e u6 ⟨C6, p6, D6, q6, rfl, hr, hd, hn, -, -, -, hb⟩
    clear hmH x0 x1 x2 x3 x4 x5 y0 y1 y2 y3 y4 y5
    obtain ⟨lf, h0⟩ : ∃ t, mergeT ab c = t := ⟨_, rfl⟩
    obtain ⟨elf, h1⟩ : ∃ e, mergeE ab c = e := ⟨_, rfl⟩
    have hflf : Hid (Fits lf) := by show Fits _; rw [← h0]; exact mergeT_lenK _ _
    rw [h0] at hr hd ⊢
    rw [h1]
    have hzlf : Hid (mergeT ab c = lf ∧ mergeE ab c = elf) := ⟨h0, h1⟩
    have hnlf : Hid (C6 = none → p6 = 0) := hn
    have hg : Gr u6 (u6.alloc (.cells #[.int .i64 lf.c.c0, .int .i64 lf.c.c1, .int .i64 lf.c.c2, .int .i64 lf.c.c3, .slice C6 lf.c.l.length p6, .slice D6 lf.e.length q6] 46)) := (Gr.refl _).alloc _
    have hF6 := (hG24.below hb).gr hg
    have htab6 := (htabG24.below hb).gr hg
    have htba6 := (htbaG24.below hb).gr hg
    have htag6 := (htagG24.below hb).gr hg
    have htsm6 := (htsmG24.below hb).gr hg
    have htlf6 : TabAt (u6.alloc (.cells #[.int .i64 lf.c.c0, .int .i64 lf.c.c1, .int .i64 lf.c.c2, .int .i64 lf.c.c3, .slice C6 lf.c.l.length p6, .slice D6 lf.e.length q6] 46)) u6.heap.size lf C6 p6 D6 q6 := TabAt.new 46 hr hd rfl
    clear h0 h1 hn hg hr hd hb hG24 htabG24 htbaG24 htagG24 htsmG24
    obtain ⟨x0, x1, x2, x3, x4, x5, xlt, xrow, xrowC⟩ := (show TabAt _ _ _ _ _ _ _ from hF6.tb)
    obtain ⟨y0, y1, y2, y3, y4, y5, ylt, yrow, yrowC⟩ := (show TabAt _ _ _ _ _ _ _ from hF6.tc)
    have hm := merge_new b c B E D F cb ce cd cf _ hlH.out.2.1.1 hlH.out.2.2.1 hlH.out.2.1.2 hlH.out.2.2.2 hAH.out.2.1 hAH.out.2.2 xrow yrow xrowC yrowC
    have hmH : Hid _ := hm
    clear hm xlt ylt xrow yrow xrowC yrowC
    go_wp2_with fail
    refine Calls.mono (show Calls _ _ _ _ _ from hmH.out) ?_
    rintro e u7 ⟨C7, p7, D7, q7, rfl, hr, hd, hn, -, -, -, hb⟩
    clear hmH x0 x1 x2 x3 x4 x5 y0 y1 y2 y3 y4 y5
    obtain ⟨bc, h0⟩ : ∃ t, mergeT b c = t := ⟨_, rfl⟩
    obtain ⟨ebc, h1⟩ : ∃ e, mergeE b c = e := ⟨_, rfl⟩
    have hfbc : Hid (Fits bc) := by show Fits _; rw [← h0]; exact mergeT_lenK _ _
    rw [h0] at hr hd ⊢
    rw [h1]
    have hzbc : Hid (mergeT b c = bc ∧ mergeE b c = ebc) := ⟨h0, h1⟩
    have hnbc : Hid (C7 = none → p7 = 0) := hn
    have hg : Gr u7 (u7.alloc (.cells #[.int .i64 bc.c.c0, .int .i64 bc.c.c1, .int .i64 bc.c.c2, .int .i64 bc.c.c3, .slice C7 bc.c.l.length p7, .slice D7 bc.e.length q7] 46)) := (Gr.refl _).alloc _
    have hF7 := (hF6.below hb).gr hg
    have htab7 := (htab6.below hb).gr hg
    have htba7 := (htba6.below hb).gr hg
    have htag7 := (htag6.below hb).gr hg
    have htsm7 := (htsm6.below hb).gr hg
    have htlf7 := (htlf6.below hb).gr hg
    have htbc7 : TabAt (u7.alloc (.cells #[.int .i64 bc.c.c0, .int .i64 bc.c.c1, .int .i64 bc.c.c2, .int .i64 bc.c.c3, .slice C7 bc.c.l.length p7, .slice D7 bc.e.length q7] 46)) u7.heap.size bc C7 p7 D7 q7 := TabAt.new 46 hr hd rfl
    clear h0 h1 hn hg hr hd hb hF6 htab6 htba6 htag6 htsm6 htlf6
    by_cases h5 : elf = 0
    · subst h5
      by_cases h6 : ebc = 0
      · subst h6
        obtain ⟨x0, x1, x2, x3, x4, x5, xlt, xrow, xrowC⟩ := (show TabAt _ _ _ _ _ _ _ from hF7.ta)
        obtain ⟨y0, y1, y2, y3, y4, y5, ylt, yrow, yrowC⟩ := (show TabAt _ _ _ _ _ _ _ from htbc7)
        have hm := merge_new a bc A C7 C D7 ca p7 cc q7 _ hlH.out.1.1 hfbc.out.1 hlH.out.1.2 hfbc.out.2 hAH.out.1 hnbc.out xrow yrow xrowC yrowC
        have hmH : Hid _ := hm
        clear hm xlt ylt xrow yrow xrowC yrowC
        go_wp2_with fail
        refine Calls.mono (show Calls _ _ _ _ _ from hmH.out) ?_
        rintro e u8 ⟨C8, p8, D8, q8, rfl, hr, hd, hn, -, -, -, hb⟩
        clear hmH x0 x1 x2 x3 x4 x5 y0 y1 y2 y3 y4 y5
        obtain ⟨rt, h0⟩ : ∃ t, mergeT a bc = t := ⟨_, rfl⟩
        obtain ⟨ert, h1⟩ : ∃ e, mergeE a bc = e := ⟨_, rfl⟩
        have hfrt : Hid (Fits rt) := by show Fits _; rw [← h0]; exact mergeT_lenK _ _
        rw [h0] at hr hd ⊢
        rw [h1]
        have hzrt : Hid (mergeT a bc = rt ∧ mergeE a bc = ert) := ⟨h0, h1⟩
        have hnrt : Hid (C8 = none → p8 = 0) := hn
        have hg : Gr u8 (u8.alloc (.cells #[.int .i64 rt.c.c0, .int .i64 rt.c.c1, .int .i64 rt.c.c2, .int .i64 rt.c.c3, .slice C8 rt.c.l.length p8, .slice D8 rt.e.length q8] 46)) := (Gr.refl _).alloc _
        have hF8 := (hF7.below hb).gr hg
        have htab8 := (htab7.below hb).gr hg
        have htba8 := (htba7.below hb).gr hg
        have htag8 := (htag7.below hb).gr hg
        have htsm8 := (htsm7.below hb).gr hg
        have htlf8 := (htlf7.below hb).gr hg
        have htbc8 := (htbc7.below hb).gr hg
        have htrt8 : TabAt (u8.alloc (.cells #[.int .i64 rt.c.c0, .int .i64 rt.c.c1, .int .i64 rt.c.c2, .int .i64 rt.c.c3, .slice C8 rt.c.l.length p8, .slice D8 rt.e.length q8] 46)) u8.heap.size rt C8 p8 D8 q8 := TabAt.new 46 hr hd rfl
        clear h0 h1 hn hg hr hd hb hF7 htab7 htba7 htag7 htsm7 htlf7 htbc7
        by_cases h7 : ert = 0
        · subst h7
          obtain rfl : lf = rt := by
            have h := merge_assoc (a := a) (b := b) (c := c) hzab.out.2 (by rw [hzab.out.1]; exact hzlf.out.2) hzbc.out.2 (by rw [hzbc.out.1]; exact hzrt.out.2)
            rw [hzab.out.1, hzbc.out.1, hzlf.out.1, hzrt.out.1] at h
            exact h
          obtain ⟨x0, x1, x2, x3, x4, x5, xlt, xrow, xrowC⟩ := (show TabAt _ _ _ _ _ _ _ from htlf8)
          obtain ⟨y0, y1, y2, y3, y4, y5, ylt, yrow, yrowC⟩ := (show TabAt _ _ _ _ _ _ _ from htrt8)
          have hs := sameT_any lf lf C6 D6 C8 D8 p6 q6 p8 q8 _ hflf.out.1 hfrt.out.1 hflf.out.2 hfrt.out.2 xrow yrow xrowC yrowC
          rw [sameT_self] at hs
          have hsH : Hid _ := hs
          clear hs xlt ylt xrow yrow xrowC yrowC
          go_wp2_with fail
          refine Calls.mono (show Calls _ _ _ _ _ from hsH.out) ?_
          rintro e s25 ⟨rfl, hg⟩
          clear hsH x0 x1 x2 x3 x4 x5 y0 y1 y2 y3 y4 y5
          have hG25 := hF8.gr hg
          have htabG25 := htab8.gr hg
          have htbaG25 := htba8.gr hg
          have htagG25 := htag8.gr hg
          have htsmG25 := htsm8.gr hg
          have htlfG25 := htlf8.gr hg
          have htbcG25 := htbc8.gr hg
          have htrtG25 := htrt8.gr hg
          clear hF8 htab8 htba8 htag8 htsm8 htlf8 htbc8 htrt8
          clear hg
          go_wp2
          go_ret
          exact ⟨rfl, hG25.hw⟩
        · have h7b : (ert != 0) = true := by simpa using h7
          have hbwF : Hid (Below w.heap.size w _) := hF8.hw
          clear h7
          go_wp2
          go_ret
          exact ⟨rfl, hbwF.out⟩
      · have h6b : (ebc != 0) = true := by simpa using h6
        have hbwF : Hid (Below w.heap.size w _) := hF7.hw
        clear h6
        go_wp2
        go_ret
        exact ⟨rfl, hbwF.out⟩
    · have h5b : (elf != 0) = true := by simpa using h5
      have hbwF : Hid (Below w.heap.size w _) := hF7.hw
      clear h5
      go_wp2
      go_ret
      exact ⟨rfl, hbwF.out⟩
  · have h1b : (eab == 0) = false := by simpa using h1
    have h1c : (eab != 0) = true := by simpa using h1
    rw [h1b] at hsm
    have h2b : (eba == 0) = false := hsm.symm
    have hbwF : Hid (Below w.heap.size w _) := hF3.hw
    clear h1 hsm
    go_wp2
    go_ret
    exact ⟨rfl, hbwF.out⟩

end

open Go.ChangeShapes Go.WideShapes Go.ChangeAt Go.RowKit

set_option maxRecDepth 100000 in
theorem tableLattice_lifted (os : Os) (started : os.Started) (H : Type) (enc : TypeId × Value → H) :
    ReturnsInHanded {} Try.checked os 5 .any (Rows.tableLatticeSpec.pre6 enc Try.prog Try.f5 Rows.tableLatticeRow.domain false) (Rows.tableLatticeSpec.post enc Try.prog Try.f5 false true false false) := by
  refine returnsInHanded_of_change (C := Try.checked) ownK started (by kernel_rfl) Try.func5
    (ChangeSpec.witness6 (enc := enc) (C := Try.checked) false ⟨#[], #[.agg #[.int .i64 0, .int .i64 0, .int .i64 0, .int .i64 0, .slice none 0 0, .slice none 0 0], .agg #[.int .i64 0, .int .i64 0, .int .i64 0, .int .i64 0, .slice none 0 0, .slice none 0 0], .agg #[.int .i64 0, .int .i64 0, .int .i64 0, .int .i64 0, .slice none 0 0, .slice none 0 0]], []⟩ 8 (by kernel_rfl) (by kernel_rfl) (by kernel_rfl) (by kernel_rfl)) ?_
  intro W base args ds gs before hval0 hW hcnd _
  have hval : ∀ (j : Nat) t v, Try.f5.params[j]? = some t → args[j]? = some v → Value.okWide Try.prog W .any base t v := hval0
  have hW' := hW
  obtain ⟨p, q, hA0, hV, rfl, hfz, hnd⟩ := hW
  have hA : DataW.TrodAll enc Try.prog W 0 (fun _ => true) true Try.f5.params.toList args.toList ds p := hA0
  rw [Try.params5] at hA hval
  obtain ⟨v0, vs0, d0, ds0, p0, q0, hargs, rfl, rfl, h0, r0⟩ := trodAll_cons hA
  obtain ⟨v1, vs1, d1, ds1, p1, q1, rfl, rfl, rfl, h1, r1⟩ := trodAll_cons r0
  obtain ⟨v2, vs2, d2, ds2, p2, q2, rfl, rfl, rfl, h2, r2⟩ := trodAll_cons r1
  obtain ⟨rfl, rfl, rfl⟩ := trodAll_nil r2
  obtain rfl : args = #[v0, v1, v2] := by cases args; simp_all
  obtain ⟨rfl, rfl⟩ := trodVars_none hV
  have lt0 : ∀ x ∈ p0, x.block < W.heap.size := by obtain ⟨m, hm⟩ := h0; exact DataW.trod_lt m _ _ _ hm
  have k0 := h0
  have lt1 : ∀ x ∈ p1, x.block < W.heap.size := by obtain ⟨m, hm⟩ := h1; exact DataW.trod_lt m _ _ _ hm
  have k1 := h1
  have lt2 : ∀ x ∈ p2, x.block < W.heap.size := by obtain ⟨m, hm⟩ := h2; exact DataW.trod_lt m _ _ _ hm
  have k2 := h2
  obtain ⟨a, A, ca, C, cc, rfl, hAA, hD0, hr0, hs0, hl0, he0, hw0⟩ := open_table (hval 0 46 v0 rfl rfl) h0
  obtain ⟨b, B, cb, D, cd, rfl, hA1, hD1, hr1, hs1, hl1, he1, hw1⟩ := open_table (hval 1 46 v1 rfl rfl) h1
  obtain ⟨c, E, ce, F, cf, rfl, hA2, hD2, hr2, hs2, hl2, he2, hw2⟩ := open_table (hval 2 46 v2 rfl rfl) h2
  clear hA0 hval0
  refine (tableLattice_any a b c A C B D E F ca cc cb cd ce cf W ⟨hl0, he0⟩ ⟨hl1, he1⟩ ⟨hl2, he2⟩ hAA hA1 hA2 hr0 hr1 hr2 hs0 hs1 hs2).mono fun e W' ⟨he, bel⟩ => ?_
  subst he
  exact ⟨_, rfl, _, _, _, [], _, [], hW', trodAll_mk1 (shut_bool Try.underlying4 _),
    (trodAll_cons_mk (Below.trod laidAll (by kernel_rfl) (of_decide_eq_true (by kernel_rfl)) k0 bel lt0) (trodAll_cons_mk (Below.trod laidAll (by kernel_rfl) (of_decide_eq_true (by kernel_rfl)) k1 bel lt1) (trodAll_cons_mk (Below.trod laidAll (by kernel_rfl) (of_decide_eq_true (by kernel_rfl)) k2 bel lt2) trodAll_mk0))), rfl, bel.frame _, fun h => by cases h⟩

theorem tableLattice_holds : Rows.TableLatticeSaid :=
  OpenClaim.holds_of_wide 5 Try.f5 rfl rfl rfl rfl rfl rfl rfl ⟨rfl, rfl, rfl, rfl, rfl⟩ rfl rfl rfl rfl rfl (by kernel_rfl) Try.func5 (by kernel_rfl)
    (of_decide_eq_true (by kernel_rfl)) (by unfold Func.isWrapper; first | (rw [if_pos (by decide +kernel)]; kernel_rfl) | (rw [if_neg (by decide +kernel)]; exact ⟨rfl, rfl⟩))
    (fun os started H enc _ => tableLattice_lifted os started H enc)

#print axioms tableLattice_holds
end Go.Proofs.Ytjgefnipkaecgab
