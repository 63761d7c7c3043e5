/-
  Proved: whatever two tables are handed in, TableSince returns true (what is told since another one's context brings it just what all would), and each argument reads afterwards as it read before. No condition.
-/
import Derived.Test.YtjgefnipkaecgacKSinMath
import Derived.Test.YtjgefnipkaecgacKPuts
import Derived.Test.YtjgefnipkaecgacTOpen
namespace Go.Proofs.Ytjgefnipkaecgac
section
open Go.RowKit Go.Sort

theorem since_parts {t : Tab} {c : Ctx} (h : sinceE t c = 0) : errT t = 0 ∧ errC c = 0 ∧ woE t.c (dotsOf (knownP c) t.e) = 0 ∧ sinceT t c = ⟨woC t.c (dotsOf (knownP c) t.e), newsL c t.e⟩ := by
  have hT : sinceT t c = ⟨woC t.c (dotsOf (knownP c) t.e), newsL c t.e⟩ := by unfold sinceT; rw [if_pos h]
  unfold sinceE at h
  by_cases h1 : errT t = 0
  · by_cases h2 : errC c = 0
    · rw [h1, h2] at h
      exact ⟨h1, h2, by simpa using h, hT⟩
    · simp [h1, h2] at h
  · simp [h1] at h
theorem mem_known {c : Ctx} {e : List Cel} {d : Int × Int} : d ∈ dotsOf (knownP c) e ↔ ∃ y ∈ e, y.1 = d ∧ hasB c d = true := by
  unfold dotsOf
  rw [List.mem_map]
  constructor
  · rintro ⟨y, hy, rfl⟩
    have := List.mem_filter.1 hy
    exact ⟨y, this.1, rfl, this.2⟩
  · rintro ⟨y, hy, rfl, h⟩
    exact ⟨y, List.mem_filter.2 ⟨hy, h⟩, rfl⟩
theorem mem_news {c : Ctx} {e : List Cel} {x : Cel} : x ∈ newsL c e ↔ x ∈ e ∧ hasB c x.1 = false := by
  unfold newsL
  rw [List.mem_filter]
  simp [knownP]
/-- What is told since b's context brings b what all of a would. -/
theorem since_brings {a b : Tab} (h1 : mergeE b a = 0) (h2 : sinceE a b.c = 0) : errT (sinceT a b.c) = 0 ∧ mergeE b (sinceT a b.c) = 0 ∧ mergeT b (sinceT a b.c) = mergeT b a := by
  obtain ⟨ha, hcb, hwo, hT⟩ := since_parts h2
  obtain ⟨hb, _, hcl, hj, hlen⟩ := mergeE_parts h1
  have hKr := dotsOf_rightS ha (knownP b.c)
  obtain ⟨_, hwc, hhas⟩ := wo_ok hKr hwo
  have hsub : Asc (newsL b.c a.e) := List.Pairwise.filter _ (errT_asc ha)
  have hd : errT (sinceT a b.c) = 0 := by
    rw [hT]
    refine errT_of hwc (Nat.le_trans (newsL_len _ _) (errT_parts ha).2.1) hsub fun x hx => ?_
    obtain ⟨hx1, hx2⟩ := mem_news.1 hx
    refine ⟨(hhas x.1).2 ⟨errT_has ha hx1, fun hk => ?_⟩, errT_place ha hx1⟩
    obtain ⟨y, _, _, hy⟩ := mem_known.1 hk
    rw [hx2] at hy; cases hy
  have hcan_d := can_of_err hwc
  have hcan_a := can_of_err (errT_parts ha).1
  have hcan_b := can_of_err hcb
  have hF : joinF b.c (woC a.c (dotsOf (knownP b.c) a.e)) = joinF b.c a.c := by
    refine can_eq (joinF_can hcan_b hcan_d) (joinF_can hcan_b hcan_a) fun x => ?_
    rw [joinF_has hcan_b hcan_d, joinF_has hcan_b hcan_a, hhas]
    constructor
    · rintro (k | k)
      · exact Or.inl k
      · exact Or.inr k.1
    · rintro (k | k)
      · exact Or.inl k
      · by_cases hx : x ∈ dotsOf (knownP b.c) a.e
        · obtain ⟨_, _, _, hy⟩ := mem_known.1 hx
          exact Or.inl hy
        · exact Or.inr ⟨k, hx⟩
  have hjd : joinE b.c (woC a.c (dotsOf (knownP b.c) a.e)) = 0 := joinE_of hcb hwc (by rw [hF]; exact (joinE_ok hj).2.2.2.2)
  have hjc : joinC b.c (woC a.c (dotsOf (knownP b.c) a.e)) = joinC b.c a.c := by rw [(joinE_ok hjd).2.2.2.1, (joinE_ok hj).2.2.2.1, hF]
  have hcd : clashB b (sinceT a b.c) = false := noclash.2 fun x hx y hy e => by
    rw [hT] at hy
    exact noclash.1 hcl x hx y (mem_news.1 hy).1 e
  have hme : mrg b (sinceT a b.c) = mrg b a := by
    refine asc_extK (mrg_asc hb hd) (mrg_asc hb ha) fun x => ?_
    rw [mem_mrg hcd, mem_mrg hcl]
    have e1 : x ∈ (sinceT a b.c).e ↔ x ∈ a.e ∧ hasB b.c x.1 = false := by rw [hT]; exact mem_news
    have e2 : hasB (sinceT a b.c).c x.1 = false ↔ hasB a.c x.1 = false ∨ x.1 ∈ dotsOf (knownP b.c) a.e := by
      rw [hT]
      cases hw : hasB (woC a.c (dotsOf (knownP b.c) a.e)) x.1
      · refine ⟨fun _ => ?_, fun _ => rfl⟩
        by_cases hk : x.1 ∈ dotsOf (knownP b.c) a.e
        · exact Or.inr hk
        · refine Or.inl ?_
          cases hax : hasB a.c x.1
          · rfl
          · have := (hhas x.1).2 ⟨hax, hk⟩
            rw [hw] at this; cases this
      · have hp := (hhas x.1).1 hw
        refine ⟨fun k => ?_, fun k => ?_⟩
        · cases k
        · rcases k with k | k
          · rw [hp.1] at k; cases k
          · exact absurd k hp.2
    rw [e1, e2]
    have hbx : x ∈ b.e → hasB b.c x.1 = true := errT_has hb
    constructor
    · rintro (⟨k1, k2, k3⟩ | ⟨k1, k2 | k2⟩ | ⟨⟨k1, k2⟩, _⟩)
      · rw [hbx k1] at k3; cases k3
      · exact Or.inr (Or.inl ⟨k1, k2⟩)
      · obtain ⟨y, hy, e, _⟩ := mem_known.1 k2
        have := noclash.1 hcl x k1 y hy e
        exact Or.inl ⟨k1, by rw [← this]; exact hy⟩
      · exact Or.inr (Or.inr ⟨k1, k2⟩)
    · rintro (⟨k1, k2⟩ | ⟨k1, k2⟩ | ⟨k1, k2⟩)
      · exact Or.inr (Or.inl ⟨k1, Or.inr (mem_known.2 ⟨x, k2, rfl, hbx k1⟩)⟩)
      · exact Or.inr (Or.inl ⟨k1, Or.inl k2⟩)
      · exact Or.inr (Or.inr ⟨⟨k1, k2⟩, k2⟩)
  have hjd' : joinE b.c (sinceT a b.c).c = 0 := by rw [hT]; exact hjd
  have h0 : mergeE b (sinceT a b.c) = 0 := mergeE_of hb hd hcd hjd' (by rw [hme]; exact hlen)
  refine ⟨hd, h0, ?_⟩
  rw [mergeT_ok h0, mergeT_ok h1, hme]
  have : joinC b.c (sinceT a b.c).c = joinC b.c a.c := by rw [hT]; exact hjc
  rw [this]

theorem sinceT_lenK {t : Tab} {c : Ctx} (h : t.e.length ≤ maxLen) : (sinceT t c).c.l.length ≤ maxLen ∧ (sinceT t c).e.length ≤ maxLen := by
  unfold sinceT
  by_cases h0 : sinceE t c = 0
  · rw [if_pos h0]
    refine ⟨?_, Nat.le_trans (newsL_len _ _) h⟩
    show (woC t.c _).l.length ≤ maxLen
    unfold woC
    by_cases h1 : woE t.c (dotsOf (knownP c) t.e) = 0
    · rw [if_pos h1]
      show (missL _ _).length ≤ maxLen
      unfold missL
      by_cases h2 : 400 < (missK t.c (lowC t.c (dotsOf (knownP c) t.e)) 4).length
      · rw [if_pos h2]; decide
      · rw [if_neg h2]; exact Nat.le_trans (Nat.le_of_not_lt h2) (by decide)
    · rw [if_neg h1]; decide
  · rw [if_neg h0]
    exact ⟨by decide, by decide⟩

/-- Two tables, in the first two blocks of a call. -/
structure TwoK (w W : World) (a b : Tab) (A C B D : Option Addr) (ca cc cb cd : Nat) : Prop where
  ta : TabAt W w.heap.size a A ca C cc
  tb : TabAt W (w.heap.size + 1) b B cb D cd
  hw : Below w.heap.size w W
theorem TwoK.below {w W W' : World} {a b : Tab} {A C B D : Option Addr} {ca cc cb cd : Nat} (h : TwoK w W a b A C B D ca cc cb cd) (k : Below W.heap.size W W') : TwoK w W' a b A C B D ca cc cb cd :=
  ⟨h.ta.below k, h.tb.below k, h.hw.trans (k.mono h.hw.size)⟩
theorem TwoK.gr {w W W' : World} {a b : Tab} {A C B D : Option Addr} {ca cc cb cd : Nat} (h : TwoK w W a b A C B D ca cc cb cd) (k : Gr W W') : TwoK w W' a b A C B D ca cc cb cd := h.below k.below
/-- A table is not too long to be read. -/
def FitsS (t : Tab) : Prop := t.c.l.length ≤ maxLen ∧ t.e.length ≤ maxLen

set_option maxRecDepth 100000 in
set_option maxHeartbeats 4000000 in
theorem tableSince_any (a b : Tab) (A C B D : Option Addr) (ca cc cb cd : Nat) (w : World) (ha : FitsS a) (hb : FitsS b) (hA : A = none → ca = 0) (hB : B = none → cb = 0) (hra : Row w A a.c.l) (hrb : Row w B b.c.l) (hsa : RowC w C a.e) (hsb : RowC w D b.e) :
    Calls Try.prog 3 #[.agg #[.int .i64 a.c.c0, .int .i64 a.c.c1, .int .i64 a.c.c2, .int .i64 a.c.c3, .slice A a.c.l.length ca, .slice C a.e.length cc], .agg #[.int .i64 b.c.c0, .int .i64 b.c.c1, .int .i64 b.c.c2, .int .i64 b.c.c3, .slice B b.c.l.length cb, .slice D b.e.length cd]] w fun e w' => e = .returned (.bool true) ∧ Below w.heap.size w w' := by
  have hF0 : TwoK w ((w.alloc (.cells #[.int .i64 a.c.c0, .int .i64 a.c.c1, .int .i64 a.c.c2, .int .i64 a.c.c3, .slice A a.c.l.length ca, .slice C a.e.length cc] 28)).alloc (.cells #[.int .i64 b.c.c0, .int .i64 b.c.c1, .int .i64 b.c.c2, .int .i64 b.c.c3, .slice B b.c.l.length cb, .slice D b.e.length cd] 28)) a b A C B D ca cc cb cd :=
    ⟨(TabAt.new 28 hra hsa rfl).gr ((Gr.refl _).alloc _), TabAt.new 28 (hrb.gr ((Gr.refl _).alloc _)) (hsb.gr ((Gr.refl _).alloc _)) (by simp), (((Gr.refl w).alloc _).alloc _).below⟩
  have hlH : Hid (FitsS a ∧ FitsS b) := ⟨ha, hb⟩
  have hAH : Hid ((A = none → ca = 0) ∧ (B = none → cb = 0)) := ⟨hA, hB⟩
  clear ha hb hA hB hra hrb hsa hsb
  go_enter Try.func3, Try.ntmps3
  go_wp2_with fail
  refine (puts_any _).mono ?_
  rintro e w1 ⟨rfl, hb1⟩
  have hF1 := hF0.below hb1
  clear hF0 hb1
  obtain ⟨x0, x1, x2, x3, x4, x5, xlt, xrow, xrowC⟩ := (show TabAt _ _ _ _ _ _ _ from hF1.tb)
  obtain ⟨y0, y1, y2, y3, y4, y5, ylt, yrow, yrowC⟩ := (show TabAt _ _ _ _ _ _ _ from hF1.ta)
  have hm := merge_new b a B A D C cb ca cd cc _ hlH.out.2.1 hlH.out.1.1 hlH.out.2.2 hlH.out.1.2 hAH.out.2 hAH.out.1 xrow yrow xrowC yrowC
  have hmH : Hid _ := hm
  clear hm xlt ylt xrow yrow xrowC yrowC
  go_wp2_with fail
  refine Calls.mono (show Calls _ _ _ _ _ from hmH.out) ?_
  rintro e u2 ⟨C2, p2, D2, q2, rfl, hr, hd, hn, -, -, -, hb⟩
  clear hmH x0 x1 x2 x3 x4 x5 y0 y1 y2 y3 y4 y5
  obtain ⟨al, h0⟩ : ∃ t, mergeT b a = t := ⟨_, rfl⟩
  obtain ⟨eal, h1⟩ : ∃ e, mergeE b a = e := ⟨_, rfl⟩
  have hfal : Hid (FitsS al) := by show FitsS _; rw [← h0]; exact mergeT_lenK _ _
  rw [h0] at hr hd ⊢
  rw [h1]
  have hzal : Hid (mergeT b a = al ∧ mergeE b a = eal) := ⟨h0, h1⟩
  have hnal : Hid (C2 = none → p2 = 0) := hn
  have hg : Gr u2 (u2.alloc (.cells #[.int .i64 al.c.c0, .int .i64 al.c.c1, .int .i64 al.c.c2, .int .i64 al.c.c3, .slice C2 al.c.l.length p2, .slice D2 al.e.length q2] 28)) := (Gr.refl _).alloc _
  have hF2 := (hF1.below hb).gr hg
  have htal2 : TabAt (u2.alloc (.cells #[.int .i64 al.c.c0, .int .i64 al.c.c1, .int .i64 al.c.c2, .int .i64 al.c.c3, .slice C2 al.c.l.length p2, .slice D2 al.e.length q2] 28)) u2.heap.size al C2 p2 D2 q2 := TabAt.new 28 hr hd rfl
  clear h0 h1 hn hg hr hd hb hF1
  obtain ⟨x0, x1, x2, x3, x4, x5, xlt, xrow, xrowC⟩ := (show TabAt _ _ _ _ _ _ _ from hF2.ta)
  obtain ⟨y0, y1, y2, y3, y4, y5, ylt, yrow, yrowC⟩ := (show TabAt _ _ _ _ _ _ _ from hF2.tb)
  have hm := since_any a b.c A B C ca cb cc _ hlH.out.1.1 hlH.out.2.1 hlH.out.1.2 xrow yrow xrowC
  have hmH : Hid _ := hm
  clear hm xlt ylt xrow yrow xrowC yrowC
  go_wp2_with fail
  refine Calls.mono (show Calls _ _ _ _ _ from hmH.out) ?_
  rintro e u3 ⟨C3, p3, D3, q3, rfl, hr, hd, hn, -, hb⟩
  clear hmH x0 x1 x2 x3 x4 x5 y0 y1 y2 y3 y4 y5
  obtain ⟨ds, h0⟩ : ∃ t, sinceT a b.c = t := ⟨_, rfl⟩
  obtain ⟨eds, h1⟩ : ∃ e, sinceE a b.c = e := ⟨_, rfl⟩
  have hfds : Hid (FitsS ds) := by show FitsS _; rw [← h0]; exact sinceT_lenK hlH.out.1.2
  rw [h0] at hr hd ⊢
  rw [h1]
  have hzds : Hid (sinceT a b.c = ds ∧ sinceE a b.c = eds) := ⟨h0, h1⟩
  have hnds : Hid (C3 = none → p3 = 0) := hn
  have hg : Gr u3 (u3.alloc (.cells #[.int .i64 ds.c.c0, .int .i64 ds.c.c1, .int .i64 ds.c.c2, .int .i64 ds.c.c3, .slice C3 ds.c.l.length p3, .slice D3 ds.e.length q3] 28)) := (Gr.refl _).alloc _
  have hF3 := (hF2.below hb).gr hg
  have htal3 := (htal2.below hb).gr hg
  have htds3 : TabAt (u3.alloc (.cells #[.int .i64 ds.c.c0, .int .i64 ds.c.c1, .int .i64 ds.c.c2, .int .i64 ds.c.c3, .slice C3 ds.c.l.length p3, .slice D3 ds.e.length q3] 28)) u3.heap.size ds C3 p3 D3 q3 := TabAt.new 28 hr hd rfl
  clear h0 h1 hn hg hr hd hb hF2 htal2
  by_cases h1 : eal = 0
  · subst h1
    by_cases h2 : eds = 0
    · subst h2
      obtain ⟨m1, m2, m3⟩ := since_brings hzal.out.2 hzds.out.2
      rw [hzds.out.1] at m1 m2 m3
      rw [hzal.out.1] at m3
      have hmH0 : Hid (errT ds = 0 ∧ mergeE b ds = 0 ∧ mergeT b ds = al) := ⟨m1, m2, m3⟩
      clear m1 m2 m3
      obtain ⟨x0, x1, x2, x3, x4, x5, xlt, xrow, xrowC⟩ := (show TabAt _ _ _ _ _ _ _ from hF3.tb)
      obtain ⟨y0, y1, y2, y3, y4, y5, ylt, yrow, yrowC⟩ := (show TabAt _ _ _ _ _ _ _ from htds3)
      have hm := merge_new b ds B C3 D D3 cb p3 cd q3 _ hlH.out.2.1 hfds.out.1 hlH.out.2.2 hfds.out.2 hAH.out.2 hnds.out xrow yrow xrowC yrowC
      have hmH : Hid _ := hm
      clear hm xlt ylt xrow yrow xrowC yrowC
      go_wp2_with fail
      refine Calls.mono (show Calls _ _ _ _ _ from hmH.out) ?_
      rintro e u4 ⟨C4, p4, D4, q4, rfl, hr, hd, hn, -, -, -, hb⟩
      clear hmH x0 x1 x2 x3 x4 x5 y0 y1 y2 y3 y4 y5
      obtain ⟨xx, h0⟩ : ∃ t, mergeT b ds = t := ⟨_, rfl⟩
      obtain ⟨exx, h1⟩ : ∃ e, mergeE b ds = e := ⟨_, rfl⟩
      have hfxx : Hid (FitsS xx) := by show FitsS _; rw [← h0]; exact mergeT_lenK _ _
      rw [h0] at hr hd ⊢
      rw [h1]
      have hzxx : Hid (mergeT b ds = xx ∧ mergeE b ds = exx) := ⟨h0, h1⟩
      have hnxx : Hid (C4 = none → p4 = 0) := hn
      have hg : Gr u4 (u4.alloc (.cells #[.int .i64 xx.c.c0, .int .i64 xx.c.c1, .int .i64 xx.c.c2, .int .i64 xx.c.c3, .slice C4 xx.c.l.length p4, .slice D4 xx.e.length q4] 28)) := (Gr.refl _).alloc _
      have hF4 := (hF3.below hb).gr hg
      have htal4 := (htal3.below hb).gr hg
      have htds4 := (htds3.below hb).gr hg
      have htxx4 : TabAt (u4.alloc (.cells #[.int .i64 xx.c.c0, .int .i64 xx.c.c1, .int .i64 xx.c.c2, .int .i64 xx.c.c3, .slice C4 xx.c.l.length p4, .slice D4 xx.e.length q4] 28)) u4.heap.size xx C4 p4 D4 q4 := TabAt.new 28 hr hd rfl
      clear h0 h1 hn hg hr hd hb hF3 htal3 htds3
      obtain rfl : exx = 0 := by rw [← hzxx.out.2]; exact hmH0.out.2.1
      obtain rfl : al = xx := by rw [← hzxx.out.1]; exact hmH0.out.2.2.symm
      obtain ⟨x0, x1, x2, x3, x4, x5, xlt, xrow, xrowC⟩ := (show TabAt _ _ _ _ _ _ _ from htxx4)
      obtain ⟨y0, y1, y2, y3, y4, y5, ylt, yrow, yrowC⟩ := (show TabAt _ _ _ _ _ _ _ from htal4)
      have hs := sameT_any al al C4 D4 C2 D2 p4 q4 p2 q2 _ hfxx.out.1 hfal.out.1 hfxx.out.2 hfal.out.2 xrow yrow xrowC yrowC
      rw [sameT_self] at hs
      have hsH : Hid _ := hs
      clear hs xlt ylt xrow yrow xrowC yrowC
      go_wp2_with fail
      refine Calls.mono (show Calls _ _ _ _ _ from hsH.out) ?_
      rintro e s21 ⟨rfl, hg⟩
      clear hsH x0 x1 x2 x3 x4 x5 y0 y1 y2 y3 y4 y5
      have hG21 := hF4.gr hg
      have htalG21 := htal4.gr hg
      have htdsG21 := htds4.gr hg
      have htxxG21 := htxx4.gr hg
      clear hF4 htal4 htds4 htxx4
      clear hg
      obtain ⟨x0, x1, x2, x3, x4, x5, xlt, xrow, xrowC⟩ := (show TabAt _ _ _ _ _ _ _ from htdsG21)
      have hk := checkT_any ds C3 p3 D3 q3 _ hfds.out.1 hfds.out.2 xrow xrowC
      rw [hmH0.out.1] at hk
      have hkH : Hid _ := hk
      clear hk xlt xrow xrowC
      go_wp2_with fail
      refine Calls.mono (show Calls _ _ _ _ _ from hkH.out) ?_
      rintro e s24 ⟨rfl, hg⟩
      clear hkH x0 x1 x2 x3 x4 x5
      have hG24 := hG21.gr hg
      have htalG24 := htalG21.gr hg
      have htdsG24 := htdsG21.gr hg
      have htxxG24 := htxxG21.gr hg
      clear hG21 htalG21 htdsG21 htxxG21
      clear hg
      go_wp2
      go_ret
      exact ⟨rfl, hG24.hw⟩
    · have h2b : (eds != 0) = true := by simpa using h2
      have hbwF : Hid (Below w.heap.size w _) := hF3.hw
      clear h2
      go_wp2
      go_ret
      exact ⟨rfl, hbwF.out⟩
  · have h1b : (eal != 0) = true := by simpa using h1
    have hbwF : Hid (Below w.heap.size w _) := hF3.hw
    clear h1
    go_wp2
    go_ret
    exact ⟨rfl, hbwF.out⟩

end

open Go.ChangeShapes Go.WideShapes Go.ChangeAt Go.RowKit

set_option maxRecDepth 100000 in
theorem tableSince_lifted (os : Os) (started : os.Started) (H : Type) (enc : TypeId × Value → H) :
    ReturnsInHanded {} Try.checked os 3 .any (Rows.tableSinceSpec.pre6 enc Try.prog Try.f3 Rows.tableSinceRow.domain false) (Rows.tableSinceSpec.post enc Try.prog Try.f3 false true false false) := by
  refine returnsInHanded_of_change (C := Try.checked) ownK started (by kernel_rfl) Try.func3
    (ChangeSpec.witness6 (enc := enc) (C := Try.checked) false ⟨#[], #[.agg #[.int .i64 0, .int .i64 0, .int .i64 0, .int .i64 0, .slice none 0 0, .slice none 0 0], .agg #[.int .i64 0, .int .i64 0, .int .i64 0, .int .i64 0, .slice none 0 0, .slice none 0 0]], []⟩ 8 (by kernel_rfl) (by kernel_rfl) (by kernel_rfl) (by kernel_rfl)) ?_
  intro W base args ds gs before hval0 hW hcnd _
  have hval : ∀ (j : Nat) t v, Try.f3.params[j]? = some t → args[j]? = some v → Value.okWide Try.prog W .any base t v := hval0
  have hW' := hW
  obtain ⟨p, q, hA0, hV, rfl, hfz, hnd⟩ := hW
  have hA : DataW.TrodAll enc Try.prog W 0 (fun _ => true) true Try.f3.params.toList args.toList ds p := hA0
  rw [Try.params3] at hA hval
  obtain ⟨v0, vs0, d0, ds0, p0, q0, hargs, rfl, rfl, h0, r0⟩ := trodAll_cons hA
  obtain ⟨v1, vs1, d1, ds1, p1, q1, rfl, rfl, rfl, h1, r1⟩ := trodAll_cons r0
  obtain ⟨rfl, rfl, rfl⟩ := trodAll_nil r1
  obtain rfl : args = #[v0, v1] := by cases args; simp_all
  obtain ⟨rfl, rfl⟩ := trodVars_none hV
  have lt0 : ∀ x ∈ p0, x.block < W.heap.size := by obtain ⟨m, hm⟩ := h0; exact DataW.trod_lt m _ _ _ hm
  have k0 := h0
  have lt1 : ∀ x ∈ p1, x.block < W.heap.size := by obtain ⟨m, hm⟩ := h1; exact DataW.trod_lt m _ _ _ hm
  have k1 := h1
  obtain ⟨a, A, ca, C, cc, rfl, hAA, hD0, hr0, hs0, hl0, he0, hw0⟩ := open_table (hval 0 28 v0 rfl rfl) h0
  obtain ⟨b, B, cb, D, cd, rfl, hA1, hD1, hr1, hs1, hl1, he1, hw1⟩ := open_table (hval 1 28 v1 rfl rfl) h1
  clear hA0 hval0
  refine (tableSince_any a b A C B D ca cc cb cd W ⟨hl0, he0⟩ ⟨hl1, he1⟩ hAA hA1 hr0 hr1 hs0 hs1).mono fun e W' ⟨he, bel⟩ => ?_
  subst he
  exact ⟨_, rfl, _, _, _, [], _, [], hW', trodAll_mk1 (shut_bool Try.underlying4 _),
    (trodAll_cons_mk (Below.trod laidAll (by kernel_rfl) (of_decide_eq_true (by kernel_rfl)) k0 bel lt0) (trodAll_cons_mk (Below.trod laidAll (by kernel_rfl) (of_decide_eq_true (by kernel_rfl)) k1 bel lt1) trodAll_mk0)), rfl, bel.frame _, fun h => by cases h⟩

theorem tableSince_holds : Rows.TableSinceSaid :=
  OpenClaim.holds_of_wide 3 Try.f3 rfl rfl rfl rfl rfl rfl rfl ⟨rfl, rfl, rfl, rfl, rfl⟩ rfl rfl rfl rfl rfl (by kernel_rfl) Try.func3 (by kernel_rfl)
    (of_decide_eq_true (by kernel_rfl)) (by unfold Func.isWrapper; first | (rw [if_pos (by decide +kernel)]; kernel_rfl) | (rw [if_neg (by decide +kernel)]; exact ⟨rfl, rfl⟩))
    (fun os started H enc _ => tableSince_lifted os started H enc)

#print axioms tableSince_holds
end Go.Proofs.Ytjgefnipkaecgac
