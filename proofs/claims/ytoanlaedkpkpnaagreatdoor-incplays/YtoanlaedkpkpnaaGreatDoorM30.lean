/-
  viewref.Pool's Feed: a meal that is taken.
  R.SameQuery: two queries that are the same, but for where their lists lie.
  viewlaw.IncPlays.
-/
import Derived.Test.YtoanlaedkpkpnaaGreatDoorM29
import Derived.Test.YtoanlaedkpkpnaaGreatDoorQWids
import Derived.Test.YtoanlaedkpkpnaaGreatDoorM07
import Derived.Test.YtoanlaedkpkpnaaGreatDoorM28
import Derived.Deep.RegionHeld3
namespace Go.Proofs.YtoanlaedkpkpnaaGreatDoor
open Go.RowKit Go.Sort Go.Maps

theorem set_rows {T : List Itm} {b : List Zit} (hb : errZ b = 0) (hT : T.map Itm.z = b) : T.length ≤ 400 ∧ ∀ x ∈ T, okR x.r = true ∧ okW x.n = true := by
  have hb' := (errZ_iff b).1 hb
  refine ⟨by have := congrArg List.length hT; simp at this; omega, fun x hx => ?_⟩
  have hz : x.z ∈ b := by rw [← hT]; exact List.mem_map.2 ⟨x, hx, rfl⟩
  have h1 := okZ_parts (hb'.2.1 x.z hz)
  exact ⟨h1.1, h1.2.1⟩
theorem wd_neg {T L : List Itm} {a b : List Zit} (ha : errZ a = 0) (hb : errZ b = 0) (hT : T.map Itm.z = a) (hL : L.map Itm.z = negP b) : Wd (T ++ L) := by
  have hT' := set_rows ha hT
  have hb' := (errZ_iff b).1 hb
  have hLl : L.length ≤ 400 := by have := congrArg List.length hL; simp [negP] at this; omega
  have key : ∀ x ∈ T ++ L, okR x.r = true ∧ -2097152 ≤ x.n ∧ x.n ≤ 2097152 := fun x hx => by
    rcases List.mem_append.1 hx with k | k
    · have h2 := (hT'.2 x k).2
      simp only [okW, inB, Bool.and_eq_true, decide_eq_true_eq] at h2
      exact ⟨(hT'.2 x k).1, by omega, by omega⟩
    · have hz : x.z ∈ negP b := by rw [← hL]; exact List.mem_map.2 ⟨x, k, rfl⟩
      obtain ⟨y, hy, e⟩ := List.mem_map.1 hz
      have h1 := okZ_parts (hb'.2.1 y hy)
      have h2 := h1.2.1
      simp only [okW, inB, Bool.and_eq_true, decide_eq_true_eq] at h2
      have e1 : y.1 = x.r := congrArg Prod.fst e
      have e2 : -y.2 = x.n := congrArg Prod.snd e
      exact ⟨by rw [← e1]; exact h1.1, by omega, by omega⟩
  exact ⟨by simp; omega, fun x hx => okR_i64 (key x hx).1, fun x hx => ⟨by have := (key x hx).2.1; omega, by have := (key x hx).2.2; omega⟩⟩

set_option maxRecDepth 100000 in
set_option maxHeartbeats 4000000 in
theorem pfeed_ok (w : World) (V : Nat) (q : List Stp) (QA : Option Addr) (cq : Nat) (a : List Itm) (A : Option Addr) (ca : Nat) (b : List Itm) (B : Option Addr) (cb : Nat) (t : List Itm) (T : Option Addr) (ct : Nat) (h : Pl w V q QA cq a A ca b B cb t T ct) (hql : q.length ≤ 8) (hq : errQ q = 0) (w0 : World) (h0 : Below w0.heap.size w0 w) (hV0 : w0.heap.size ≤ V) (ht0 : Tens w0) (htz : t.map Itm.z = evlF q (a.map Itm.z) (b.map Itm.z)) (x y : List Itm) (X Y : Option Addr) (cx cy : Nat) (hx : Lv w X cx x) (hy : Lv w Y cy y) (he : fedE q (a.map Itm.z) (b.map Itm.z) (x.map Itm.z) (y.map Itm.z) = 0) :
    Calls Tryz.prog 7 #[.pointer (some ⟨V, 0, none⟩), .slice X x.length cx, .slice Y y.length cy] w fun e w' => ∃ (L : List Itm) (C : Option Addr) (k : Nat) (a' : List Itm) (A' : Option Addr) (ca' : Nat) (b' : List Itm) (B' : Option Addr) (cb' : Nat) (t' : List Itm) (T' : Option Addr) (ct' : Nat), e = .returned (.tuple #[.slice C L.length k, .int .i64 0]) ∧ L.map Itm.z = difL (evlF q (a'.map Itm.z) (b'.map Itm.z)) (evlF q (a.map Itm.z) (b.map Itm.z)) ∧ a'.map Itm.z = addL (a.map Itm.z) (x.map Itm.z) ∧ b'.map Itm.z = addL (b.map Itm.z) (y.map Itm.z) ∧ t'.map Itm.z = evlF q (a'.map Itm.z) (b'.map Itm.z) ∧ Pl w' V q QA cq a' A' ca' b' B' cb' t' T' ct' ∧ w.grownBy w' (some V) ∧ Lv w' C k L := by
  obtain ⟨f1, f2, f3, f4⟩ := fedE_parts he
  have hqm : q.length ≤ maxLen := by unfold maxLen; omega
  have hC0 := rbased_any q QA cq x y X Y cx cy w hqm h.st hx hy
  rw [ahd_tbl, if_pos hq, f1] at hC0
  have hC : Hid _ := hC0
  have hH : Hid (Pl w V q QA cq a A ca b B cb t T ct ∧ Lv w X cx x ∧ Lv w Y cy y ∧ Tens w ∧ q.length ≤ maxLen ∧ t.map Itm.z = evlF q (a.map Itm.z) (b.map Itm.z)) := ⟨h, hx, hy, ht0.below h0, hqm, htz⟩
  have hB0 : Hid (Below w0.heap.size w0 w ∧ w0.heap.size ≤ V ∧ Tens w0) := ⟨h0, hV0, ht0⟩
  have hF : Hid (addE (a.map Itm.z) (x.map Itm.z) = 0 ∧ addE (b.map Itm.z) (y.map Itm.z) = 0 ∧ plnE q (addL (a.map Itm.z) (x.map Itm.z)) (addL (b.map Itm.z) (y.map Itm.z)) = 0) := ⟨f2, f3, f4⟩
  have c0 := h.c0
  clear hC0 h hx hy he hqm f1 f2 f3 f4 htz h0 hV0 ht0
  go_enter Tryz.func7, Tryz.ntmps7
  go_wp2_with fail
  refine Calls.mono (show Calls _ _ _ _ _ from hC.out) ?_
  rintro e w1 ⟨rfl, hb1⟩
  have hW1 : Hid (Pl w1 V q QA cq a A ca b B cb t T ct ∧ Lv w1 X cx x ∧ Lv w1 Y cy y ∧ Below w.heap.size w w1) := ⟨hH.out.1.below hb1, hH.out.2.1.below hb1, hH.out.2.2.1.below hb1, hb1⟩
  clear hC hb1 c0
  have c1 := hW1.out.1.c1
  have hA0 := radd_any a x A X ca cx w1 hW1.out.1.la hW1.out.2.1 (hH.out.2.2.2.1.below hW1.out.2.2.2)
  rw [hF.out.1] at hA0
  have hA : Hid _ := hA0
  clear hA0
  go_wp2_with fail
  refine Calls.mono (show Calls _ _ _ _ _ from hA.out) ?_
  rintro e w2 ⟨P, PA, pc, rfl, p1, p2, p3⟩
  have hW2 : Hid (Pl w2 V q QA cq a A ca b B cb t T ct ∧ Lv w2 Y cy y ∧ Below w.heap.size w w2 ∧ Lv w2 PA pc P ∧ P.map Itm.z = addL (a.map Itm.z) (x.map Itm.z)) := ⟨hW1.out.1.below p3, hW1.out.2.2.1.below p3, hW1.out.2.2.2.trans (p3.mono hW1.out.2.2.2.size), p2, p1⟩
  clear hA p1 p2 p3 c1 hW1
  have c2 := hW2.out.1.c2
  have hA0 := radd_any b y B Y cb cy w2 hW2.out.1.lb hW2.out.2.1 (hH.out.2.2.2.1.below hW2.out.2.2.1)
  rw [hF.out.2.1] at hA0
  have hA : Hid _ := hA0
  clear hA0
  go_wp2_with fail
  refine Calls.mono (show Calls _ _ _ _ _ from hA.out) ?_
  rintro e w3 ⟨R, RA, rc, rfl, p1, p2, p3⟩
  have hW3 : Hid (Pl w3 V q QA cq a A ca b B cb t T ct ∧ Below w.heap.size w w3 ∧ Lv w3 PA pc P ∧ P.map Itm.z = addL (a.map Itm.z) (x.map Itm.z) ∧ Lv w3 RA rc R ∧ R.map Itm.z = addL (b.map Itm.z) (y.map Itm.z)) := ⟨hW2.out.1.below p3, hW2.out.2.2.1.trans (p3.mono hW2.out.2.2.1.size), hW2.out.2.2.2.1.below p3, hW2.out.2.2.2.2, p2, p1⟩
  clear hA p1 p2 p3 c2 hW2
  have c0 := hW3.out.1.c0
  have hV0 := rsets_any q QA cq P R PA RA pc rc w3 hH.out.2.2.2.2.1 hW3.out.1.st hW3.out.2.2.1 hW3.out.2.2.2.2.1 (hH.out.2.2.2.1.below hW3.out.2.1)
  have hP0 : Hid (plnE q (P.map Itm.z) (R.map Itm.z) = 0) := by show _ = _; rw [hW3.out.2.2.2.1, hW3.out.2.2.2.2.2]; exact hF.out.2.2
  rw [hP0.out] at hV0
  have hV : Hid _ := hV0
  clear hV0
  go_wp2_with fail
  refine Calls.mono (show Calls _ _ _ _ _ from hV.out) ?_
  rintro e w4 ⟨ss, NA, nc, rfl, n1, n3⟩
  obtain ⟨s1, s2, s3⟩ := n1.len9 hP0.out
  obtain ⟨N, hN⟩ : ∃ N, ss[ss.length - 1]'(by omega) = N := ⟨_, rfl⟩
  obtain ⟨nb, noff, rfl, hnb, hncs⟩ := n1.row.at (m := ss.length - 1) (by omega)
  have e0 : w4.cell? ⟨nb, noff + (ss.length - 1), none⟩ = some (.slice N.A N.l.length N.cap) := by
    have := hncs (ss.length - 1) (by omega) 0 (by omega)
    rw [hN] at this
    simpa [encS] using this
  have hW4 : Hid (Pl w4 V q QA cq a A ca b B cb t T ct ∧ Below w.heap.size w w4 ∧ Lv w4 PA pc P ∧ P.map Itm.z = addL (a.map Itm.z) (x.map Itm.z) ∧ Lv w4 RA rc R ∧ R.map Itm.z = addL (b.map Itm.z) (y.map Itm.z) ∧ Lv w4 N.A N.cap N.l ∧ N.l.map Itm.z = evlF q (P.map Itm.z) (R.map Itm.z)) := ⟨hW3.out.1.below n3, hW3.out.2.1.trans (n3.mono hW3.out.2.1.size), hW3.out.2.2.1.below n3, hW3.out.2.2.2.1, hW3.out.2.2.2.2.1.below n3, hW3.out.2.2.2.2.2, n1.each N (by rw [← hN]; exact List.getElem_mem _), by rw [← hN, n1.nth9 (by omega)]; unfold evlF; rw [s2]⟩
  have hsz : (0 : Int) < (ss.length : Int) := by omega
  clear hV n1 n3 c0 hncs hN s2
  have c1 := hW4.out.1.c1
  have c2 := hW4.out.1.c2
  have c3 := hW4.out.1.c3
  have z1 := hW4.out.1.fz 1
  have z2 := hW4.out.1.fz 2
  have z3 := hW4.out.1.fz 3
  obtain ⟨w5, hw5⟩ : ∃ W, (((w4.setCell ⟨V, 1, none⟩ (.slice PA P.length pc)).setCell ⟨V, 2, none⟩ (.slice RA R.length rc)).setCell ⟨V, 3, none⟩ (.slice N.A N.l.length N.cap)).drew = W := ⟨_, rfl⟩
  have hS := set_pool hW4.out.1 hW4.out.2.2.1 hW4.out.2.2.2.2.1 hW4.out.2.2.2.2.2.2.1
  have hgd : Gr (((w4.setCell ⟨V, 1, none⟩ (.slice PA P.length pc)).setCell ⟨V, 2, none⟩ (.slice RA R.length rc)).setCell ⟨V, 3, none⟩ (.slice N.A N.l.length N.cap)) w5 := by rw [← hw5]; exact (Gr.refl _).drew
  have hW5 : Hid (Pl w5 V q QA cq P PA pc R RA rc N.l N.A N.cap ∧ w.grownBy w5 (some V) ∧ Lv w5 T ct t) := by
    have hb := hW4.out.2.1
    have h2 := hS.2
    have hb5 := hgd.below
    have hg45 : w4.grownBy w5 (some V) := ⟨hb5.os.trans h2.os, hb5.tape.trans h2.tape, hb5.output.trans h2.output, Nat.le_trans h2.size hb5.size, fun k hk hne => (hb5.block k (Nat.lt_of_lt_of_le hk h2.size)).trans (h2.block k hk hne)⟩
    refine ⟨hS.1.gr hgd, ⟨hg45.os.trans hb.os, hg45.tape.trans hb.tape, hg45.output.trans hb.output, Nat.le_trans hb.size hg45.size, fun k hk hne => (hg45.block k (Nat.lt_of_lt_of_le hk hb.size) hne).trans (hb.block k hk)⟩, hW4.out.1.slo.keep hW4.out.1.ltd hg45⟩
  have hNz : Hid (errZ (N.l.map Itm.z) = 0 ∧ errZ (t.map Itm.z) = 0) := ⟨by rw [hW4.out.2.2.2.2.2.2.2]; exact evl_errZ _ _ _, by rw [hH.out.2.2.2.2.2]; exact evl_errZ _ _ _⟩
  have hNl := (set_rows hNz.out.1 rfl).1
  have htl := (set_rows hNz.out.2 rfl).1
  have d3 : w5.cell? ⟨V, 3, none⟩ = some (.slice N.A N.l.length N.cap) := hW5.out.1.c3
  have hap : Hid (RowG encT 2 w5 N.A N.l ∧ (N.A = none → N.cap = 0) ∧ ([] : List Itm).length + N.l.length ≤ maxLen ∧ (([] : List Itm).length + N.l.length) * 32 ≤ 140737488355328) := ⟨hW5.out.1.ltd.items.row, hW5.out.1.ltd.nil, by unfold maxLen; simp; omega, by simp; omega⟩
  clear hS hgd
  go_wp2_with fail
  go_region
  go_wp2_with (at_builtin; refine wpList_append_ts _ rfl (.const (.slice none 0 0)) (.tmp 89) rfl w5.heap.size (.slice none 0 0) [] N.l N.A N.cap rfl rfl (OwnG.nil _ _ _ _ _) hap.out.1 hap.out.2.1 hap.out.2.2.1 hap.out.2.2.2 (Nat.le_refl _) ?_)
  intro v6 w6 hown6 hg6
  clear hw5 c1 c2 c3 z1 z2 z3 e0 d3
  have hb56 := below_none hg6
  obtain ⟨C6, c6, rfl, _⟩ := OwnG.full encT_len hown6
  have hW6 : Hid (OwnG encT 2 59 w6 w5.heap.size (.slice C6 N.l.length c6) N.l ∧ Below w5.heap.size w5 w6) := ⟨hown6, hb56⟩
  have hM0 := rminusX t T ct w6 htl (fun x hx => ((set_rows hNz.out.2 rfl).2 x hx).2) (hW5.out.2.2.below hb56).items
  have hM : Hid _ := hM0
  clear hM0 hown6 hg6 hb56 hap
  go_wp2_with fail
  refine Calls.mono (show Calls _ _ _ _ _ from hM.out) ?_
  rintro e w7 ⟨M, MA, mc, rfl, m1, m2, m3, m4⟩
  have hm4 : Hid (∀ y ∈ M, ∃ x ∈ t, y = ⟨x.p, x.c, x.r, -x.n⟩) := m4
  have hb57 : Hid (Below w5.heap.size w5 w7) := hW6.out.2.trans (m3.mono hW6.out.2.size)
  have hW7 : Hid (OwnG encT 2 59 w7 w5.heap.size (.slice C6 N.l.length c6) N.l ∧ Lv w7 MA mc M ∧ M.map Itm.z = negP (t.map Itm.z)) := ⟨hW6.out.1.below m3, m2, m1⟩
  have hMl : M.length ≤ 400 := by have := congrArg List.length m1; simp [negP] at this; omega
  have hap : Hid (RowG encT 2 w7 MA M ∧ (MA = none → mc = 0) ∧ N.l.length + M.length ≤ maxLen ∧ (N.l.length + M.length) * 32 ≤ 140737488355328 ∧ w5.heap.size ≤ w7.heap.size) := ⟨hW7.out.2.1.items.row, hW7.out.2.1.nil, by unfold maxLen; omega, by omega, hb57.out.size⟩
  clear hM m1 m2 m3 m4
  go_wp2_with (at_builtin; refine wpList_append_ts _ rfl (.tmp 90) (.tmp 92) rfl w5.heap.size (.slice C6 N.l.length c6) N.l M MA mc rfl rfl hW7.out.1 hap.out.1 hap.out.2.1 hap.out.2.2.1 hap.out.2.2.2.1 hap.out.2.2.2.2 ?_)
  intro v8 w8 hown8 hg8
  have hb78 : Below w5.heap.size w7 w8 := hW7.out.1.grown_below hg8 hb57.out.size
  have hb58 : Hid (Below w5.heap.size w5 w8) := hb57.out.trans hb78
  obtain ⟨C8, c8, hv8, _, hrow8, _⟩ := OwnG.full encT_len hown8
  have hI8 : Items w8 C8 (N.l ++ M) := ⟨hrow8, fun x hx => by
    rcases List.mem_append.1 hx with k | k
    · exact (hW5.out.1.ltd.below hb58.out).items.each x k
    · obtain ⟨y, hy, rfl⟩ := hm4.out x k
      exact (hW5.out.2.2.below hb58.out).items.each y hy⟩
  have hgw8 : Hid (w.grownBy w8 (some V)) := by
    have hg := hW5.out.2.1
    have d5 := hb58.out
    exact ⟨d5.os.trans hg.os, d5.tape.trans hg.tape, d5.output.trans hg.output, Nat.le_trans hg.size d5.size, fun k hk hne => (d5.block k (Nat.lt_of_lt_of_le hk hg.size)).trans (hg.block k hk hne)⟩
  have hTe : Tens w8 := hB0.out.2.2.below (hB0.out.1.trans (grown_below hgw8.out hB0.out.2.1 hB0.out.1.size))
  have hT0 := rtot_any (N.l ++ M) C8 c8 w8 (wd_neg hNz.out.1 hNz.out.2 rfl hW7.out.2.2) hI8 hTe
  have hTz : totL ((N.l ++ M).map Itm.z) = difL (evlF q (P.map Itm.z) (R.map Itm.z)) (evlF q (a.map Itm.z) (b.map Itm.z)) := by rw [List.map_append, hW7.out.2.2, hW4.out.2.2.2.2.2.2.2, hH.out.2.2.2.2.2]; rfl
  rw [hTz] at hT0
  obtain ⟨Z, hZ⟩ : ∃ Z, N.l ++ M = Z := ⟨_, rfl⟩
  rw [hZ] at hT0 hv8
  have hTt : Hid _ := hT0
  have hX8 : Hid (Pl w8 V q QA cq P PA pc R RA rc N.l N.A N.cap) := hW5.out.1.below hb58.out
  subst hv8
  clear hT0 hTz hI8 hrow8 hown8 hg8 hb78 hTe hap hZ
  go_wp2_with fail
  refine Calls.mono (show Calls _ _ _ _ _ from hTt.out) ?_
  rintro e w9 ⟨L, LA, lc, rfl, t1, t2, t3, t4, t5⟩
  have hfin : Hid (L.map Itm.z = difL (evlF q (P.map Itm.z) (R.map Itm.z)) (evlF q (a.map Itm.z) (b.map Itm.z)) ∧ P.map Itm.z = addL (a.map Itm.z) (x.map Itm.z) ∧ R.map Itm.z = addL (b.map Itm.z) (y.map Itm.z) ∧ N.l.map Itm.z = evlF q (P.map Itm.z) (R.map Itm.z) ∧ Pl w9 V q QA cq P PA pc R RA rc N.l N.A N.cap ∧ w.grownBy w9 (some V) ∧ Lv w9 LA lc L) := by
    have hg := hgw8.out
    refine ⟨t1, hW4.out.2.2.2.1, hW4.out.2.2.2.2.2.1, hW4.out.2.2.2.2.2.2.2, hX8.out.below t4, ⟨t4.os.trans hg.os, t4.tape.trans hg.tape, t4.output.trans hg.output, Nat.le_trans hg.size t4.size, fun k hk hne => (t4.block k (Nat.lt_of_lt_of_le hk hg.size)).trans (hg.block k hk hne)⟩, ⟨t2, t3, ?_⟩⟩
    have h1 : (difL (evlF q (P.map Itm.z) (R.map Itm.z)) (evlF q (a.map Itm.z) (b.map Itm.z))).length ≤ 800 := by
      unfold difL
      refine Nat.le_trans (totL_len _) ?_
      have h2 := ((errZ_iff _).1 (evl_errZ q (P.map Itm.z) (R.map Itm.z))).1
      have h3 := ((errZ_iff _).1 (evl_errZ q (a.map Itm.z) (b.map Itm.z))).1
      simp [negP]
      omega
    have h2 := congrArg List.length t1
    rw [List.length_map] at h2
    unfold maxLen
    omega
  clear hTt t1 t2 t3 t4 t5
  go_wp2
  go_ret2
  exact ⟨L, LA, lc, P, PA, pc, R, RA, rc, N.l, N.A, N.cap, rfl, hfin.out⟩
end Go.Proofs.YtoanlaedkpkpnaaGreatDoor

namespace Go.Proofs.YtoanlaedkpkpnaaGreatDoor
open Go.RowKit Go.Sort
/-- A step but for where its list lies. -/
def clr (s : Stp) : Stp := { s with p := none, n := 0 }

set_option maxHeartbeats 1000000 in
theorem sameQ1_any (x y : Stp) (w : World) (hxl : x.l.length ≤ maxLen) (hyl : y.l.length ≤ maxLen) (hx : RowI w x.p x.l) (hy : RowI w y.p y.l) (he : clr x = clr y) :
    Calls Tryz.prog 28 #[.agg #[.int .i64 x.k, .int .i64 x.a, .int .i64 x.b, .int .i64 x.c, .int .i64 x.o, .int .i64 x.v, .slice x.p x.l.length x.n], .agg #[.int .i64 y.k, .int .i64 y.a, .int .i64 y.b, .int .i64 y.c, .int .i64 y.o, .int .i64 y.v, .slice y.p y.l.length y.n]] w fun e w' => e = .returned (.bool true) ∧ Gr w w' := by
  obtain ⟨k, a, b, c, o, v, p, n, l⟩ := x
  obtain ⟨k', a', b', c', o', v', p', n', l'⟩ := y
  simp only [clr, Stp.mk.injEq, true_and] at he
  obtain ⟨rfl, rfl, rfl, rfl, rfl, rfl, rfl⟩ := he
  simp only at hxl hyl hx hy ⊢
  have hlH : Hid (l.length ≤ 9223372036854775807) := by show _; unfold maxLen at hxl; exact hxl
  have hrH : Hid (RowI w p l ∧ RowI w p' l) := ⟨hx, hy⟩
  clear hxl hyl hx hy
  go_enter Tryz.func28, Tryz.ntmps28
  go_wp2_with fail
  refine (equalI_anyK l l p p' n n' _ hlH.out hlH.out (hrH.out.1.gr (((Gr.refl _).alloc _).alloc _)) (hrH.out.2.gr (((Gr.refl _).alloc _).alloc _))).mono ?_
  rintro e w' ⟨rfl, hg⟩
  have hgH : Hid (Gr w w') := (((Gr.refl w).alloc _).alloc _).trans hg
  clear hg
  go_wp2
  go_ret
  exact ⟨by simp, hgH.out⟩
set_option maxHeartbeats 1000000 in
theorem equalFQ_any (a b : List Stp) (A B : Option Addr) (ca cb : Nat) (w : World) (hal : a.length ≤ maxLen) (ha : Stps w A a) (hb : Stps w B b) (he : a.map clr = b.map clr) :
    Calls Tryz.prog 27 #[.slice A a.length ca, .slice B b.length cb, .func (.func 28) #[] #[]] w fun e w' => e = .returned (.bool true) ∧ Gr w w' := by
  unfold maxLen at hal
  have haH : Hid (Stps w A a ∧ Stps w B b ∧ a.map clr = b.map clr) := ⟨ha, hb, he⟩
  have hlen : a.length = b.length := by simpa using congrArg List.length he
  clear ha hb he
  have hlz : ((a.length : Int) != (b.length : Int)) = false := by simp [hlen]
  have hlenH : Hid (a.length = b.length) := hlen
  clear hlen
  go_enter Tryz.func27, Tryz.ntmps27
  go_wp2
  go_loopw [17] (fun i wr => ∃ k : Nat, k ≤ a.length ∧ i = .int .i64 k ∧ Gr w wr) (fun i _ => a.length - (intOf i).toNat)
  case atStart => exact ⟨0, Nat.zero_le _, rfl, Gr.refl _⟩
  case round =>
    obtain ⟨k, hk, rfl, hgr⟩ := hrel
    by_cases hlt : k < a.length
    · have hltz : (k : Int) < (a.length : Int) := by omega
      have hlt2 : k < b.length := by rw [← hlenH.out]; exact hlt
      have hltz2 : (k : Int) < (b.length : Int) := by omega
      have hI : Hid (Stps wr A a ∧ Stps wr B b) := ⟨haH.out.1.gr hgr, haH.out.2.1.gr hgr⟩
      obtain ⟨bb, off, rfl, hb, hcs⟩ := hI.out.1.at hlt
      obtain ⟨bc, of2, rfl, hb2, hcs2⟩ := hI.out.2.at hlt2
      obtain ⟨x, hx⟩ : ∃ x, a[k] = x := ⟨_, rfl⟩
      obtain ⟨y, hy⟩ : ∃ y, b[k] = y := ⟨_, rfl⟩
      rw [hx] at hcs
      rw [hy] at hcs2
      have hcl : clr x = clr y := by
        have h2 : (a.map clr)[k]? = (b.map clr)[k]? := by rw [haH.out.2.2]
        rw [List.getElem?_map, List.getElem?_map, List.getElem?_eq_getElem hlt, List.getElem?_eq_getElem hlt2, hx, hy] at h2
        simpa using h2
      have e0 : wr.cell? ⟨bb, off + k * 7, none⟩ = some (.int .i64 x.k) := hcs 0 (by omega)
      have e1 : wr.cell? ⟨bb, off + k * 7 + 1, none⟩ = some (.int .i64 x.a) := hcs 1 (by omega)
      have e2 : wr.cell? ⟨bb, off + k * 7 + 2, none⟩ = some (.int .i64 x.b) := hcs 2 (by omega)
      have e3 : wr.cell? ⟨bb, off + k * 7 + 3, none⟩ = some (.int .i64 x.c) := hcs 3 (by omega)
      have e4 : wr.cell? ⟨bb, off + k * 7 + 4, none⟩ = some (.int .i64 x.o) := hcs 4 (by omega)
      have e5 : wr.cell? ⟨bb, off + k * 7 + 5, none⟩ = some (.int .i64 x.v) := hcs 5 (by omega)
      have e6 : wr.cell? ⟨bb, off + k * 7 + 6, none⟩ = some (.slice x.p x.l.length x.n) := hcs 6 (by omega)
      have f0 : wr.cell? ⟨bc, of2 + k * 7, none⟩ = some (.int .i64 y.k) := hcs2 0 (by omega)
      have f1 : wr.cell? ⟨bc, of2 + k * 7 + 1, none⟩ = some (.int .i64 y.a) := hcs2 1 (by omega)
      have f2 : wr.cell? ⟨bc, of2 + k * 7 + 2, none⟩ = some (.int .i64 y.b) := hcs2 2 (by omega)
      have f3 : wr.cell? ⟨bc, of2 + k * 7 + 3, none⟩ = some (.int .i64 y.c) := hcs2 3 (by omega)
      have f4 : wr.cell? ⟨bc, of2 + k * 7 + 4, none⟩ = some (.int .i64 y.o) := hcs2 4 (by omega)
      have f5 : wr.cell? ⟨bc, of2 + k * 7 + 5, none⟩ = some (.int .i64 y.v) := hcs2 5 (by omega)
      have f6 : wr.cell? ⟨bc, of2 + k * 7 + 6, none⟩ = some (.slice y.p y.l.length y.n) := hcs2 6 (by omega)
      have hxr : Hid (RowI wr x.p x.l ∧ x.l.length ≤ maxLen) := ⟨(hI.out.1.each x (by rw [← hx]; exact List.getElem_mem hlt)).1, (hI.out.1.each x (by rw [← hx]; exact List.getElem_mem hlt)).2.1⟩
      have hyr : Hid (RowI wr y.p y.l ∧ y.l.length ≤ maxLen) := ⟨(hI.out.2.each y (by rw [← hy]; exact List.getElem_mem hlt2)).1, (hI.out.2.each y (by rw [← hy]; exact List.getElem_mem hlt2)).2.1⟩
      have hclH : Hid (clr x = clr y) := hcl
      clear hcs hcs2 hx hy hcl
      go_wp2_with fail
      have hg0 : Hid (Gr wr ((wr.alloc (.cells #[.int .i64 x.k, .int .i64 x.a, .int .i64 x.b, .int .i64 x.c, .int .i64 x.o, .int .i64 x.v, .slice x.p x.l.length x.n] 64)).alloc (.cells #[.int .i64 y.k, .int .i64 y.a, .int .i64 y.b, .int .i64 y.c, .int .i64 y.o, .int .i64 y.v, .slice y.p y.l.length y.n] 64))) := ((Gr.refl _).alloc _).alloc _
      refine (sameQ1_any x y _ hxr.out.2 hyr.out.2 (hxr.out.1.gr hg0.out) (hyr.out.1.gr hg0.out) hclH.out).mono ?_
      rintro e w2 ⟨rfl, hg2⟩
      have hgw : Hid (Gr w w2) := (hgr.trans hg0.out).trans hg2
      clear hg0 hg2
      go_wp2
      go_roundw
      case rel => exact ⟨k + 1, by omega, by go_num, hgw.out⟩
      case measure => simp [intOf]; omega
    · have hltz : ¬ (k : Int) < (a.length : Int) := by omega
      go_wp2
      go_ret
      exact ⟨rfl, hgr⟩
set_option maxHeartbeats 1000000 in
theorem sameQ_any (a b : List Stp) (A B : Option Addr) (ca cb : Nat) (w : World) (hal : a.length ≤ maxLen) (ha : Stps w A a) (hb : Stps w B b) (he : a.map clr = b.map clr) :
    Calls Tryz.prog 10 #[.slice A a.length ca, .slice B b.length cb] w fun e w' => e = .returned (.bool true) ∧ Gr w w' := by
  have hH : Hid _ := equalFQ_any a b A B ca cb w hal ha hb he
  clear hal ha hb he
  go_enter Tryz.func10, Tryz.ntmps10
  go_wp2_with fail
  refine Calls.mono (show Calls _ _ _ _ _ from hH.out) ?_
  rintro e w' ⟨rfl, hg⟩
  go_wp2
  go_ret
  exact ⟨rfl, hg⟩

end Go.Proofs.YtoanlaedkpkpnaaGreatDoor

namespace Go.Proofs.YtoanlaedkpkpnaaGreatDoor
open Go.RowKit Go.Sort Go.Maps

theorem pfeed_either (w : World) (V : Nat) (q : List Stp) (QA : Option Addr) (cq : Nat) (a : List Itm) (A : Option Addr) (ca : Nat) (b : List Itm) (B : Option Addr) (cb : Nat) (t : List Itm) (T : Option Addr) (ct : Nat) (h : Pl w V q QA cq a A ca b B cb t T ct) (hql : q.length ≤ 8) (hq : errQ q = 0) (w0 : World) (h0 : Below w0.heap.size w0 w) (hV0 : w0.heap.size ≤ V) (ht0 : Tens w0) (htz : t.map Itm.z = evlF q (a.map Itm.z) (b.map Itm.z)) (x y : List Itm) (X Y : Option Addr) (cx cy : Nat) (hx : Lv w X cx x) (hy : Lv w Y cy y) {E : Int} (he : fedE q (a.map Itm.z) (b.map Itm.z) (x.map Itm.z) (y.map Itm.z) = E) :
    Calls Tryz.prog 7 #[.pointer (some ⟨V, 0, none⟩), .slice X x.length cx, .slice Y y.length cy] w fun e w' => ∃ (L : List Itm) (C : Option Addr) (k : Nat) (a' : List Itm) (A' : Option Addr) (ca' : Nat) (b' : List Itm) (B' : Option Addr) (cb' : Nat) (t' : List Itm) (T' : Option Addr) (ct' : Nat), e = .returned (.tuple #[.slice C L.length k, .int .i64 E]) ∧ (E = 0 → L.map Itm.z = difL (evlF q (a'.map Itm.z) (b'.map Itm.z)) (evlF q (a.map Itm.z) (b.map Itm.z)) ∧ a'.map Itm.z = addL (a.map Itm.z) (x.map Itm.z) ∧ b'.map Itm.z = addL (b.map Itm.z) (y.map Itm.z)) ∧ (¬ E = 0 → L = [] ∧ a' = a ∧ b' = b) ∧ t'.map Itm.z = evlF q (a'.map Itm.z) (b'.map Itm.z) ∧ Pl w' V q QA cq a' A' ca' b' B' cb' t' T' ct' ∧ w.grownBy w' (some V) ∧ Lv w' C k L := by
  by_cases e0 : E = 0
  · refine (pfeed_ok w V q QA cq a A ca b B cb t T ct h hql hq w0 h0 hV0 ht0 htz x y X Y cx cy hx hy (he.trans e0)).mono ?_
    rintro e w' ⟨L, C, k, a', A', ca', b', B', cb', t', T', ct', h1, h2, h3, h4, h5, h6, h7, h8⟩
    exact ⟨L, C, k, a', A', ca', b', B', cb', t', T', ct', by rw [h1, e0], fun _ => ⟨h2, h3, h4⟩, fun h => absurd e0 h, h5, h6, h7, h8⟩
  · refine (pfeed_bad w V q QA cq a A ca b B cb t T ct h hql hq (ht0.below h0) x y X Y cx cy hx hy he e0).mono ?_
    rintro e w' ⟨h1, h2⟩
    exact ⟨[], none, 0, a, A, ca, b, B, cb, t, T, ct, h1, fun h => absurd h e0, fun _ => ⟨rfl, rfl, rfl⟩, htz, h.below h2, below_grown h2 _, lv_nil _⟩

theorem clr_bare (s : Stp) : clr s = bare s := rfl
set_option maxRecDepth 100000 in
set_option maxHeartbeats 1000000 in
theorem query_any (w : World) (V : Nat) (q : List Stp) (QA : Option Addr) (cq : Nat) (a : List Itm) (A : Option Addr) (ca : Nat) (b : List Itm) (B : Option Addr) (cb : Nat) (h : Vw w V q QA cq a A ca b B cb) (hs : ∀ s ∈ q, s.l.length ≤ 8) :
    Calls Tryz.prog 11 #[.pointer (some ⟨V, 0, none⟩)] w fun e w' => ∃ (q' : List Stp) (C : Option Addr) (k : Nat), e = .returned (.slice C q'.length k) ∧ q'.map bare = q.map bare ∧ Stps w' C q' ∧ Below w.heap.size w w' := by
  have hC0 := copyS_any q QA cq w h.len hs h.st
  have hC : Hid _ := hC0
  have c0 := h.c0
  clear hC0 h hs
  go_enter Tryz.func11, Tryz.ntmps11
  go_wp2_with fail
  refine Calls.mono (show Calls _ _ _ _ _ from hC.out) ?_
  rintro e w1 ⟨q', C, k, rfl, h1, h2, h3, h4, h5⟩
  have hfin : Hid (q'.map bare = q.map bare ∧ Stps w1 C q' ∧ Below w.heap.size w w1) := ⟨h1, h2, h5⟩
  clear hC h1 h2 h3 h4 h5
  go_wp2
  go_ret
  exact ⟨q', C, k, rfl, hfin.out⟩

/-- What the loop keeps. -/
structure JInv (w wr : World) (V U : Nat) (q q1 : List Stp) (QA Q1 : Option Addr) (cq c1 : Nat) : Prop where
  has : ∃ (a : List Itm) (A : Option Addr) (ca : Nat) (b : List Itm) (B : Option Addr) (cb : Nat) (a2 : List Itm) (A2 : Option Addr) (ca2 : Nat) (b2 : List Itm) (B2 : Option Addr) (cb2 : Nat) (t : List Itm) (T : Option Addr) (ct : Nat), Vw wr V q1 Q1 c1 a A ca b B cb ∧ Pl wr U q QA cq a2 A2 ca2 b2 B2 cb2 t T ct ∧ a.map Itm.z = a2.map Itm.z ∧ b.map Itm.z = b2.map Itm.z ∧ t.map Itm.z = evlF q (a2.map Itm.z) (b2.map Itm.z)
  bel : Below w.heap.size w wr

set_option maxRecDepth 100000 in
set_option maxHeartbeats 4000000 in
theorem iplays_any (q : List Stp) (QA : Option Addr) (cq : Nat) (l : List Fd) (LA : Option Addr) (lc : Nat) (w : World) (hl : q.length ≤ maxLen) (hll : l.length ≤ maxLen) (hq : Stps w QA q) (hm : Meals w LA l) (ht : Tens w) :
    Calls Tryz.prog 3 #[.slice QA q.length cq, .slice LA l.length lc] w fun e w' => e = .returned (.bool true) ∧ Below w.heap.size w w' := by
  have hH : Hid (Stps w QA q ∧ Meals w LA l ∧ Tens w ∧ q.length ≤ maxLen) := ⟨hq, hm, ht, hl⟩
  unfold maxLen at hll
  clear hq hm ht hl
  obtain ⟨E, hE⟩ : ∃ E, errQ q = E := ⟨_, rfl⟩
  by_cases he : E = 0
  rotate_left
  focus
    have hN0 := new_bad q QA cq w hH.out.2.2.2 hH.out.1 (by rw [hE]; exact he)
    rw [hE] at hN0
    have hN : Hid _ := hN0
    have he' : (E != 0) = true := by simpa using he
    have hEH : Hid (errQ q = E) := hE
    clear hN0 hE he
    go_enter Tryz.func3, Tryz.ntmps3
    go_wp2_with fail
    refine Calls.mono (show Calls _ _ _ _ _ from hN.out) ?_
    rintro e w1 ⟨rfl, hb1⟩
    have hb1H : Hid (Below w.heap.size w w1) := hb1
    have hR0 := refQuery_any q QA cq w1 hH.out.2.2.2 (hH.out.1.below hb1)
    rw [hEH.out] at hR0
    have hR : Hid _ := hR0
    clear hR0 hN hb1
    go_wp2_with fail
    refine Calls.mono (show Calls _ _ _ _ _ from hR.out) ?_
    rintro e w2 ⟨rfl, hb2⟩
    have hfin : Hid (Below w.heap.size w w2) := hb1H.out.trans (hb2.mono hb1H.out.size)
    clear hR hb2
    go_wp2
    go_ret
    exact ⟨by simp, hfin.out⟩
  subst he
  have hN0 := new_ok q QA cq w hH.out.2.2.2 hH.out.1 hE
  have hN : Hid _ := hN0
  have hEH : Hid (errQ q = 0) := hE
  have hql : q.length ≤ 8 := (errQ_short hE).1
  have hqs : Hid (∀ s ∈ q, s.l.length ≤ 8) := (errQ_short hE).2
  clear hN0 hE
  go_enter Tryz.func3, Tryz.ntmps3
  go_wp2_with fail
  refine Calls.mono (show Calls _ _ _ _ _ from hN.out) ?_
  rintro e w1 ⟨V, q1, Q1, c1, rfl, n1, n2, n3, n4⟩
  have hW1 : Hid (q1.map bare = q.map bare ∧ Vw w1 V q1 Q1 c1 [] none 0 [] none 0 ∧ w.heap.size ≤ V ∧ Below w.heap.size w w1) := ⟨n1, n2, n3, n4⟩
  have hR0 := refQuery_any q QA cq w1 hH.out.2.2.2 (hH.out.1.below n4)
  rw [hEH.out] at hR0
  have hR : Hid _ := hR0
  clear hR0 hN n1 n2 n3 n4
  go_wp2_with fail
  refine Calls.mono (show Calls _ _ _ _ _ from hR.out) ?_
  rintro e w2 ⟨rfl, hb2⟩
  have hW2 : Hid (Vw w2 V q1 Q1 c1 [] none 0 [] none 0 ∧ Below w.heap.size w w2) := ⟨hW1.out.2.1.below hb2, hW1.out.2.2.2.trans (hb2.mono hW1.out.2.2.2.size)⟩
  clear hR hb2
  by_cases h30 : 30 < l.length
  · have h30z : (30 : Int) < (l.length : Int) := by omega
    go_wp2
    go_ret
    exact ⟨rfl, hW2.out.2⟩
  have h30z : ¬ (30 : Int) < (l.length : Int) := by omega
  obtain ⟨w3, hw3⟩ : ∃ W, (w2.alloc (.cells #[.slice QA q.length cq, .slice none 0 0, .slice none 0 0, .slice none 0 0] 33)) = W := ⟨_, rfl⟩
  have hg3 : Gr w2 w3 := by rw [← hw3]; exact (Gr.refl _).alloc _
  have hbw3 : Below w.heap.size w w3 := hW2.out.2.trans (hg3.below.mono hW2.out.2.size)
  have hV2 : V ≠ w2.heap.size := by have := hW2.out.1.lt; omega
  have hP3 : Pl w3 w2.heap.size q QA cq [] none 0 [] none 0 [] none 0 := by
    refine ⟨by rw [← hw3]; simp, fun j => by rw [← hw3]; exact box1f (w := w2) (Gr.refl _) j, fun j v hv => ?_, by rw [← hw3]; exact box1 (w := w2) (Gr.refl _) rfl, by rw [← hw3]; exact box1 (w := w2) (Gr.refl _) rfl, by rw [← hw3]; exact box1 (w := w2) (Gr.refl _) rfl, by rw [← hw3]; exact box1 (w := w2) (Gr.refl _) rfl, hH.out.1.below hbw3, lv_nil _, lv_nil _, lv_nil _⟩
    rw [← hw3, World.cell?_alloc_new] at hv
    match j, hv with
    | 0, hv => exact ⟨_, _, _, (Option.some.inj hv).symm⟩
    | 1, hv => exact ⟨_, _, _, (Option.some.inj hv).symm⟩
    | 2, hv => exact ⟨_, _, _, (Option.some.inj hv).symm⟩
    | 3, hv => exact ⟨_, _, _, (Option.some.inj hv).symm⟩
    | n + 4, hv => simp at hv
  have hI3 : Hid (JInv w w3 V w2.heap.size q q1 QA Q1 cq c1) := ⟨⟨[], none, 0, [], none, 0, [], none, 0, [], none, 0, [], none, 0, hW2.out.1.gr hg3, hP3, rfl, rfl, (evlF_nil q).symm⟩, hbw3⟩
  have hU : Hid (V ≠ w2.heap.size ∧ w.heap.size ≤ w2.heap.size ∧ w.heap.size ≤ V) := ⟨hV2, hW2.out.2.size, hW1.out.2.2.1⟩
  clear hg3 hbw3 hV2 hP3
  go_wp2
  clear hw3
  generalize w2.heap.size = U at *
  go_loopw [43] (fun i wr => ∃ k : Nat, k ≤ l.length ∧ i = .int .i64 k ∧ Hid (JInv w wr V U q q1 QA Q1 cq c1)) (fun i _ => l.length - (intOf i).toNat)
  case atStart => exact ⟨0, Nat.zero_le _, rfl, hI3⟩
  case round =>
    rename World => wr0
    obtain ⟨k, hk, rfl, hR⟩ := hrel
    by_cases hlt : k < l.length
    · have hltz : (k : Int) < (l.length : Int) := by omega
      have hM : Hid (Meals wr0 LA l) := hH.out.2.1.below hR.out.bel
      obtain ⟨f, hf⟩ : ∃ f, l[k] = f := ⟨_, rfl⟩
      obtain ⟨bb, off, rfl, hb, e0, e1⟩ := hM.out.at hlt hf
      have hfe : Hid (Lv wr0 f.A f.ca f.a ∧ Lv wr0 f.B f.cb f.b) := hM.out.each f (by rw [← hf]; exact List.getElem_mem hlt)
      clear hf
      obtain ⟨WX, hWX⟩ : ∃ WX, (wr0.alloc (.cells #[.slice f.A f.a.length f.ca, .slice f.B f.b.length f.cb] 35)) = WX := ⟨_, rfl⟩
      have hgX : Hid (Gr wr0 WX) := by show Gr _ _; rw [← hWX]; exact (Gr.refl _).alloc _
      have hXs : Hid (wr0.heap.size < WX.heap.size) := by show _ < _; rw [← hWX]; simp
      have x0 : WX.cell? ⟨wr0.heap.size, 0, none⟩ = some (.slice f.A f.a.length f.ca) := by rw [← hWX]; exact box1 (w := wr0) (Gr.refl _) rfl
      have x1 : WX.cell? ⟨wr0.heap.size, 1, none⟩ = some (.slice f.B f.b.length f.cb) := by rw [← hWX]; exact box1 (w := wr0) (Gr.refl _) rfl
      obtain ⟨a, A, ca, b, B, cb, a2, A2, ca2, b2, B2, cb2, t, T, ct, i1, i2, i3, i4, i5⟩ := hR.out.has
      have hX : Hid (Vw WX V q1 Q1 c1 a A ca b B cb ∧ Pl WX U q QA cq a2 A2 ca2 b2 B2 cb2 t T ct ∧ a.map Itm.z = a2.map Itm.z ∧ b.map Itm.z = b2.map Itm.z ∧ t.map Itm.z = evlF q (a2.map Itm.z) (b2.map Itm.z) ∧ Lv WX f.A f.ca f.a ∧ Lv WX f.B f.cb f.b ∧ Below w.heap.size w WX ∧ wr0.heap.size ≠ V ∧ wr0.heap.size ≠ U ∧ WX.cell? ⟨wr0.heap.size, 0, none⟩ = some (.slice f.A f.a.length f.ca) ∧ WX.cell? ⟨wr0.heap.size, 1, none⟩ = some (.slice f.B f.b.length f.cb)) := ⟨i1.gr hgX.out, i2.gr hgX.out, i3, i4, i5, hfe.out.1.gr hgX.out, hfe.out.2.gr hgX.out, hR.out.bel.trans (hgX.out.below.mono hR.out.bel.size), by have := i1.lt; omega, by have := i2.lt; omega, x0, x1⟩
      clear i1 i2 i3 i4 i5 hfe
      obtain ⟨F, hF⟩ : ∃ F, fedE q (a2.map Itm.z) (b2.map Itm.z) (f.a.map Itm.z) (f.b.map Itm.z) = F := ⟨_, rfl⟩
      have hF1 : fedE q1 (a.map Itm.z) (b.map Itm.z) (f.a.map Itm.z) (f.b.map Itm.z) = F := by rw [same_fedE hW1.out.1, hX.out.2.2.1, hX.out.2.2.2.1]; exact hF
      have hA0 := feed_either WX V q1 Q1 c1 a A ca b B cb hX.out.1 f.a f.b f.A f.B f.ca f.cb hX.out.2.2.2.2.2.1 hX.out.2.2.2.2.2.2.1 hF1
      have hA : Hid _ := hA0
      have hFH : Hid (fedE q (a2.map Itm.z) (b2.map Itm.z) (f.a.map Itm.z) (f.b.map Itm.z) = F) := hF
      clear hA0 hF hF1
      go_wp2_with fail
      clear hWX e0 e1 x0 x1
      refine Calls.mono (show Calls _ _ _ _ _ from hA.out) ?_
      rintro e w5 ⟨L, LC, lk, a5, A5, ca5, b5, B5, cb5, rfl, f1, f2, f3, f4, f5, f6⟩
      have hslo := hX.out.1.slo
      have hX5 : Hid ((F = 0 → L.map Itm.z = difL (evlF q1 (a5.map Itm.z) (b5.map Itm.z)) (evlF q1 (a.map Itm.z) (b.map Itm.z)) ∧ a5.map Itm.z = addL (a.map Itm.z) (f.a.map Itm.z) ∧ b5.map Itm.z = addL (b.map Itm.z) (f.b.map Itm.z)) ∧ (¬ F = 0 → L = [] ∧ a5 = a ∧ b5 = b) ∧ Vw w5 V q1 Q1 c1 a5 A5 ca5 b5 B5 cb5 ∧ Pl w5 U q QA cq a2 A2 ca2 b2 B2 cb2 t T ct ∧ Lv w5 LC lk L ∧ Lv w5 f.A f.ca f.a ∧ Lv w5 f.B f.cb f.b ∧ Below w.heap.size w w5) := ⟨f1, f2, f3, hX.out.2.1.other hslo hU.out.1.symm f4, f5, hslo.keep hX.out.2.2.2.2.2.1 f4, hslo.keep hX.out.2.2.2.2.2.2.1 f4, hX.out.2.2.2.2.2.2.2.1.trans (grown_below f4 hU.out.2.2 hX.out.2.2.2.2.2.2.2.1.size)⟩
      have x0 : w5.cell? ⟨wr0.heap.size, 0, none⟩ = some (.slice f.A f.a.length f.ca) := (grown_cell f4 hX.out.2.2.2.2.2.2.2.2.1 hXs.out).trans hX.out.2.2.2.2.2.2.2.2.2.2.1
      have x1 : w5.cell? ⟨wr0.heap.size, 1, none⟩ = some (.slice f.B f.b.length f.cb) := (grown_cell f4 hX.out.2.2.2.2.2.2.2.2.1 hXs.out).trans hX.out.2.2.2.2.2.2.2.2.2.2.2
      have hB0 := pfeed_either w5 U q QA cq a2 A2 ca2 b2 B2 cb2 t T ct hX5.out.2.2.2.1 hql hEH.out w hX5.out.2.2.2.2.2.2.2 hU.out.2.1 hH.out.2.2.1 hX.out.2.2.2.2.1 f.a f.b f.A f.B f.ca f.cb hX5.out.2.2.2.2.2.1 hX5.out.2.2.2.2.2.2.1 hFH.out
      have hB : Hid _ := hB0
      clear hB0 hA f1 f2 f3 f4 f5 f6 hslo
      go_wp2_with fail
      refine Calls.mono (show Calls _ _ _ _ _ from hB.out) ?_
      rintro e w6 ⟨M, MC, mk, a6, A6, ca6, b6, B6, cb6, t6, T6, ct6, rfl, g1, g2, g3, g4, g5, g6⟩
      have hslo := hX5.out.2.2.2.1.slo
      have hX6 : Hid (Vw w6 V q1 Q1 c1 a5 A5 ca5 b5 B5 cb5 ∧ Pl w6 U q QA cq a6 A6 ca6 b6 B6 cb6 t6 T6 ct6 ∧ Lv w6 LC lk L ∧ Lv w6 MC mk M ∧ Below w.heap.size w w6 ∧ t6.map Itm.z = evlF q (a6.map Itm.z) (b6.map Itm.z)) := ⟨hX5.out.2.2.1.other hslo hU.out.1 g5, g4, hslo.keep hX5.out.2.2.2.2.1 g5, g6, hX5.out.2.2.2.2.2.2.2.trans (grown_below g5 hU.out.2.1 hX5.out.2.2.2.2.2.2.2.size), g3⟩
      have hz : Hid (L.map Itm.z = M.map Itm.z ∧ a5.map Itm.z = a6.map Itm.z ∧ b5.map Itm.z = b6.map Itm.z) := by
        by_cases h0 : F = 0
        · obtain ⟨j1, j2, j3⟩ := hX5.out.1 h0
          obtain ⟨m1, m2, m3⟩ := g1 h0
          have ea : a5.map Itm.z = a6.map Itm.z := by rw [j2, m2, hX.out.2.2.1]
          have eb : b5.map Itm.z = b6.map Itm.z := by rw [j3, m3, hX.out.2.2.2.1]
          exact ⟨by rw [j1, m1, same_evlF hW1.out.1, same_evlF hW1.out.1, ea, eb, hX.out.2.2.1, hX.out.2.2.2.1], ea, eb⟩
        · obtain ⟨j1, j2, j3⟩ := hX5.out.2.1 h0
          obtain ⟨m1, m2, m3⟩ := g2 h0
          rw [j1, j2, j3, m1, m2, m3]
          exact ⟨rfl, hX.out.2.2.1, hX.out.2.2.2.1⟩
      clear hB g1 g2 g3 g4 g5 g6 hslo x0 x1 hX5 hX hgX hXs
      have hFF : (F != F) = false := by simp
      have c3 := hX6.out.2.1.c3
      have hS1 : Hid (∀ W, Gr w6 W → Calls Tryz.prog 8 #[.slice LC L.length lk, .slice MC M.length mk] W fun e w' => e = .returned (.bool true) ∧ Gr W w') := fun W h => sameV (hX6.out.2.2.1.gr h) (hX6.out.2.2.2.1.gr h) hz.out.1
      have hAl : Hid (∀ W, Gr w6 W → Calls Tryz.prog 9 #[.pointer (some ⟨V, 0, none⟩)] W fun e w' => ∃ (L : List Itm) (C : Option Addr) (k : Nat), e = .returned (.slice C L.length k) ∧ L.map Itm.z = t6.map Itm.z ∧ Lv w' C k L ∧ Below W.heap.size W w') := fun W h => by
        have := allW_any W V q1 Q1 c1 a5 A5 ca5 b5 B5 cb5 (hX6.out.1.gr h)
        rw [same_evlF hW1.out.1, hz.out.2.1, hz.out.2.2, ← hX6.out.2.2.2.2.2] at this
        exact this
      have hgD : Hid (Gr w6 w6.drew) := (Gr.refl w6).drew
      have hBD : Hid (Below w6.heap.size w6 w6.drew) := hgD.out.below
      have hKeep : Hid (∀ W', Below w6.heap.size w6 W' → (fun w' => w'.cell? ⟨U, 3, none⟩ = some (.slice T6 t6.length ct6)) W') := fun W' h => (h.cell (p := ⟨U, 3, none⟩) hX6.out.2.1.lt).trans hX6.out.2.1.c3
      clear c3
      go_wp2_with fail
      refine wp_region_noPanic ?_
      refine wp_region_held_drew (S := (fun w' => w'.cell? ⟨U, 3, none⟩ = some (.slice T6 t6.length ct6))) (by kernel_rfl) (hKeep.out _ hBD.out) (fun hHeld => ?_)
      refine wpAnyH_take (i := 0) (oi := ?ois1) (v := ?vs1) ?hops1 ?hss1 ?hfs1 ?hrs1 ?hQs1 ?hys1 (by assumption) ?rests1
      case hops1 => (simp only [List.getElem?_toArray, List.getElem?_cons_zero]; rfl)
      case hss1 => kernel_rfl
      case hfs1 => kernel_rfl
      case hrs1 => kernel_rfl
      case hQs1 => exact fun _ _ _ h => h
      case hys1 => (refine Or.inl ⟨by rfl, ?_⟩; intro w hSw; (try dsimp only at hSw); go_simp <;> with_reducible rfl)
      try simp only [Act.put, List.setIfInBounds_toArray, List.set_cons_zero, List.set_cons_succ]
      refine wpAnyH_take (i := 1) (oi := ?ois2) (v := ?vs2) ?hops2 ?hss2 ?hfs2 ?hrs2 ?hQs2 ?hys2 (by assumption) ?rests2
      case hops2 => (simp only [List.getElem?_toArray, List.getElem?_cons_zero, List.getElem?_cons_succ]; rfl)
      case hss2 => kernel_rfl
      case hfs2 => kernel_rfl
      case hrs2 => kernel_rfl
      case hQs2 => exact fun _ _ _ h => h
      case hys2 => (refine Or.inl ⟨by rfl, ?_⟩; intro w hSw; (try dsimp only at hSw); go_simp <;> with_reducible rfl)
      try simp only [Act.put, List.setIfInBounds_toArray, List.set_cons_zero, List.set_cons_succ]
      refine wpAnyH_ready (rs := [2]) (by kernel_rfl) (by simp) ?_
      refine AllReadyH.cons (o := ?ois3) ?hops3 (fun K hK => ?steps3) ?mores3
      case hops3 => (simp only [List.getElem?_toArray, List.getElem?_cons_zero, List.getElem?_cons_succ]; rfl)
      case mores3 => exact AllReadyH.nil
      go_simp
      (go_at_call 8; (refine Calls.mono (show Calls _ _ _ _ _ from hS1.out _ hgD.out) ?_); rintro e w7 ⟨rfl, hg7⟩; have hG7 : Hid (Gr w6 w7) := hgD.out.trans hg7; have hB7 : Hid (Below w6.heap.size w6 w7) := hG7.out.below; clear hg7)
      first | (go_wp2_with fail) | skip
      refine hK.out _ _ ?_ (fun hHeld => ?_)
      · (try dsimp only); first | with_reducible exact hKeep.out _ hBD.out | with_reducible exact hKeep.out _ hB7.out | with_reducible exact hKeep.out _ hB8.out | with_reducible exact hKeep.out _ hB9.out
      clear hK K
      try simp only [Act.put, List.setIfInBounds_toArray, List.set_cons_zero, List.set_cons_succ]
      refine wpAnyH_take (i := 3) (oi := ?ois4) (v := ?vs4) ?hops4 ?hss4 ?hfs4 ?hrs4 ?hQs4 ?hys4 (by assumption) ?rests4
      case hops4 => (simp only [List.getElem?_toArray, List.getElem?_cons_zero, List.getElem?_cons_succ]; rfl)
      case hss4 => kernel_rfl
      case hfs4 => kernel_rfl
      case hrs4 => kernel_rfl
      case hQs4 => exact fun _ _ _ h => h
      case hys4 => (refine Or.inl ⟨by rfl, ?_⟩; intro w hSw; (try dsimp only at hSw); go_simp <;> with_reducible rfl)
      try simp only [Act.put, List.setIfInBounds_toArray, List.set_cons_zero, List.set_cons_succ]
      refine wpAnyH_take (i := 4) (oi := ?ois5) (v := ?vs5) ?hops5 ?hss5 ?hfs5 ?hrs5 ?hQs5 ?hys5 (by assumption) ?rests5
      case hops5 => (simp only [List.getElem?_toArray, List.getElem?_cons_zero, List.getElem?_cons_succ]; rfl)
      case hss5 => kernel_rfl
      case hfs5 => kernel_rfl
      case hrs5 => kernel_rfl
      case hQs5 => exact fun _ _ _ h => h
      case hys5 => (refine Or.inl ⟨by rfl, ?_⟩; intro w hSw; (try dsimp only at hSw); go_simp <;> with_reducible rfl)
      try simp only [Act.put, List.setIfInBounds_toArray, List.set_cons_zero, List.set_cons_succ]
      refine wpAnyH_take (i := 5) (oi := ?ois6) (v := ?vs6) ?hops6 ?hss6 ?hfs6 ?hrs6 ?hQs6 ?hys6 (by assumption) ?rests6
      case hops6 => (simp only [List.getElem?_toArray, List.getElem?_cons_zero, List.getElem?_cons_succ]; rfl)
      case hss6 => kernel_rfl
      case hfs6 => kernel_rfl
      case hrs6 => kernel_rfl
      case hQs6 => exact fun _ _ _ h => h
      case hys6 => (refine Or.inl ⟨by rfl, ?_⟩; intro w hSw; (try dsimp only at hSw); go_simp <;> with_reducible rfl)
      try simp only [Act.put, List.setIfInBounds_toArray, List.set_cons_zero, List.set_cons_succ]
      refine wpAnyH_take (i := 6) (oi := ?ois7) (v := ?vs7) ?hops7 ?hss7 ?hfs7 ?hrs7 ?hQs7 ?hys7 (by assumption) ?rests7
      case hops7 => (simp only [List.getElem?_toArray, List.getElem?_cons_zero, List.getElem?_cons_succ]; rfl)
      case hss7 => kernel_rfl
      case hfs7 => kernel_rfl
      case hrs7 => kernel_rfl
      case hQs7 => exact fun _ _ _ h => h
      case hys7 => (refine Or.inl ⟨by rfl, ?_⟩; intro w hSw; (try dsimp only at hSw); go_simp <;> with_reducible rfl)
      try simp only [Act.put, List.setIfInBounds_toArray, List.set_cons_zero, List.set_cons_succ]
      refine wpAnyH_take (i := 7) (oi := ?ois8) (v := ?vs8) ?hops8 ?hss8 ?hfs8 ?hrs8 ?hQs8 ?hys8 (by assumption) ?rests8
      case hops8 => (simp only [List.getElem?_toArray, List.getElem?_cons_zero, List.getElem?_cons_succ]; rfl)
      case hss8 => kernel_rfl
      case hfs8 => kernel_rfl
      case hrs8 => kernel_rfl
      case hQs8 => exact fun _ _ _ h => h
      case hys8 => (refine Or.inl ⟨by rfl, ?_⟩; intro w hSw; (try dsimp only at hSw); go_simp <;> with_reducible rfl)
      try simp only [Act.put, List.setIfInBounds_toArray, List.set_cons_zero, List.set_cons_succ]
      refine wpAnyH_take (i := 8) (oi := ?ois9) (v := ?vs9) ?hops9 ?hss9 ?hfs9 ?hrs9 ?hQs9 ?hys9 (by assumption) ?rests9
      case hops9 => (simp only [List.getElem?_toArray, List.getElem?_cons_zero, List.getElem?_cons_succ]; rfl)
      case hss9 => kernel_rfl
      case hfs9 => kernel_rfl
      case hrs9 => kernel_rfl
      case hQs9 => exact fun _ _ _ h => h
      case hys9 => (refine Or.inl ⟨by rfl, ?_⟩; intro w hSw; (try dsimp only at hSw); go_simp <;> with_reducible rfl)
      try simp only [Act.put, List.setIfInBounds_toArray, List.set_cons_zero, List.set_cons_succ]
      refine wpAnyH_take (i := 9) (oi := ?ois10) (v := ?vs10) ?hops10 ?hss10 ?hfs10 ?hrs10 ?hQs10 ?hys10 (by assumption) ?rests10
      case hops10 => (simp only [List.getElem?_toArray, List.getElem?_cons_zero, List.getElem?_cons_succ]; rfl)
      case hss10 => kernel_rfl
      case hfs10 => kernel_rfl
      case hrs10 => kernel_rfl
      case hQs10 => exact fun _ _ _ h => h
      case hys10 => (refine Or.inl ⟨by rfl, ?_⟩; intro w hSw; (try dsimp only at hSw); go_simp <;> with_reducible rfl)
      try simp only [Act.put, List.setIfInBounds_toArray, List.set_cons_zero, List.set_cons_succ]
      refine wpAnyH_take (i := 10) (oi := ?ois11) (v := ?vs11) ?hops11 ?hss11 ?hfs11 ?hrs11 ?hQs11 ?hys11 (by assumption) ?rests11
      case hops11 => (simp only [List.getElem?_toArray, List.getElem?_cons_zero, List.getElem?_cons_succ]; rfl)
      case hss11 => kernel_rfl
      case hfs11 => kernel_rfl
      case hrs11 => kernel_rfl
      case hQs11 => exact fun _ _ _ h => h
      case hys11 => (refine Or.inl ⟨by rfl, ?_⟩; intro w hSw; (try dsimp only at hSw); go_simp <;> with_reducible rfl)
      try simp only [Act.put, List.setIfInBounds_toArray, List.set_cons_zero, List.set_cons_succ]
      refine wpAnyH_take (i := 12) (oi := ?ois12) (v := ?vs12) ?hops12 ?hss12 ?hfs12 ?hrs12 ?hQs12 ?hys12 (by assumption) ?rests12
      case hops12 => (simp only [List.getElem?_toArray, List.getElem?_cons_zero, List.getElem?_cons_succ]; rfl)
      case hss12 => kernel_rfl
      case hfs12 => kernel_rfl
      case hrs12 => kernel_rfl
      case hQs12 => exact fun _ _ _ h => h
      case hys12 => (refine Or.inl ⟨by rfl, ?_⟩; intro w hSw; (try dsimp only at hSw); go_simp <;> with_reducible rfl)
      try simp only [Act.put, List.setIfInBounds_toArray, List.set_cons_zero, List.set_cons_succ]
      refine wpAnyH_take (i := 13) (oi := ?ois13) (v := ?vs13) ?hops13 ?hss13 ?hfs13 ?hrs13 ?hQs13 ?hys13 (by assumption) ?rests13
      case hops13 => (simp only [List.getElem?_toArray, List.getElem?_cons_zero, List.getElem?_cons_succ]; rfl)
      case hss13 => kernel_rfl
      case hfs13 => kernel_rfl
      case hrs13 => kernel_rfl
      case hQs13 => exact fun _ _ _ h => h
      case hys13 => (refine Or.inl ⟨by rfl, ?_⟩; intro w hSw; (try dsimp only at hSw); go_simp <;> with_reducible rfl)
      try simp only [Act.put, List.setIfInBounds_toArray, List.set_cons_zero, List.set_cons_succ]
      refine wpAnyH_take (i := 14) (oi := ?ois14) (v := ?vs14) ?hops14 ?hss14 ?hfs14 ?hrs14 ?hQs14 ?hys14 (by assumption) ?rests14
      case hops14 => (simp only [List.getElem?_toArray, List.getElem?_cons_zero, List.getElem?_cons_succ]; rfl)
      case hss14 => kernel_rfl
      case hfs14 => kernel_rfl
      case hrs14 => kernel_rfl
      case hQs14 => exact fun _ _ _ h => h
      case hys14 => (refine Or.inl ⟨by rfl, ?_⟩; intro w hSw; (try dsimp only at hSw); go_simp <;> with_reducible rfl)
      try simp only [Act.put, List.setIfInBounds_toArray, List.set_cons_zero, List.set_cons_succ]
      refine wpAnyH_take (i := 15) (oi := ?ois15) (v := ?vs15) ?hops15 ?hss15 ?hfs15 ?hrs15 ?hQs15 ?hys15 (by assumption) ?rests15
      case hops15 => (simp only [List.getElem?_toArray, List.getElem?_cons_zero, List.getElem?_cons_succ]; rfl)
      case hss15 => kernel_rfl
      case hfs15 => kernel_rfl
      case hrs15 => kernel_rfl
      case hQs15 => exact fun _ _ _ h => h
      case hys15 => (refine Or.inl ⟨by rfl, ?_⟩; intro w hSw; (try dsimp only at hSw); go_simp <;> with_reducible rfl)
      try simp only [Act.put, List.setIfInBounds_toArray, List.set_cons_zero, List.set_cons_succ]
      refine wpAnyH_ready (rs := [11]) (by kernel_rfl) (by simp) ?_
      refine AllReadyH.cons (o := ?ois16) ?hops16 (fun K hK => ?steps16) ?mores16
      case hops16 => (simp only [List.getElem?_toArray, List.getElem?_cons_zero, List.getElem?_cons_succ]; rfl)
      case mores16 => exact AllReadyH.nil
      go_simp
      (go_at_call 9; (refine Calls.mono (show Calls _ _ _ _ _ from hAl.out w7 hG7.out) ?_); rintro e w8 ⟨N, NC, nk, rfl, n1, n2, n3⟩; have hN : Hid (N.map Itm.z = t6.map Itm.z ∧ Lv w8 NC nk N) := ⟨n1, n2⟩; have hB8 : Hid (Below w6.heap.size w6 w8) := hB7.out.trans (n3.mono hB7.out.size); have hS2 : Hid (Calls Tryz.prog 8 #[.slice NC N.length nk, .slice T6 t6.length ct6] w8 fun e w' => e = .returned (.bool true) ∧ Gr w8 w') := sameV hN.out.2 (hX6.out.2.1.below hB8.out).ltd hN.out.1; clear n1 n2 n3)
      first | (go_wp2_with fail) | skip
      refine hK.out _ _ ?_ (fun hHeld => ?_)
      · (try dsimp only); first | with_reducible exact hKeep.out _ hBD.out | with_reducible exact hKeep.out _ hB7.out | with_reducible exact hKeep.out _ hB8.out | with_reducible exact hKeep.out _ hB9.out
      clear hK K
      try simp only [Act.put, List.setIfInBounds_toArray, List.set_cons_zero, List.set_cons_succ]
      refine wpAnyH_ready (rs := [16]) (by kernel_rfl) (by simp) ?_
      refine AllReadyH.cons (o := ?ois17) ?hops17 (fun K hK => ?steps17) ?mores17
      case hops17 => (simp only [List.getElem?_toArray, List.getElem?_cons_zero, List.getElem?_cons_succ]; rfl)
      case mores17 => exact AllReadyH.nil
      go_simp
      (go_at_call 8; (refine Calls.mono (show Calls _ _ _ _ _ from hS2.out) ?_); rintro e w9 ⟨rfl, hg9⟩; have hB9 : Hid (Below w6.heap.size w6 w9) := hB8.out.trans (hg9.below.mono hB8.out.size); clear hg9)
      first | (go_wp2_with fail) | skip
      refine hK.out _ _ ?_ (fun hHeld => ?_)
      · (try dsimp only); first | with_reducible exact hKeep.out _ hBD.out | with_reducible exact hKeep.out _ hB7.out | with_reducible exact hKeep.out _ hB8.out | with_reducible exact hKeep.out _ hB9.out
      clear hK K
      try simp only [Act.put, List.setIfInBounds_toArray, List.set_cons_zero, List.set_cons_succ]
      refine wpAnyH_take (i := 17) (oi := ?ois18) (v := ?vs18) ?hops18 ?hss18 ?hfs18 ?hrs18 ?hQs18 ?hys18 (by assumption) ?rests18
      case hops18 => (simp only [List.getElem?_toArray, List.getElem?_cons_zero, List.getElem?_cons_succ]; rfl)
      case hss18 => kernel_rfl
      case hfs18 => kernel_rfl
      case hrs18 => kernel_rfl
      case hQs18 => exact fun _ _ _ h => h
      case hys18 => (refine Or.inl ⟨by rfl, ?_⟩; intro w hSw; (try dsimp only at hSw); go_simp <;> with_reducible rfl)
      try simp only [Act.put, List.setIfInBounds_toArray, List.set_cons_zero, List.set_cons_succ]
      refine wpAnyH_take (i := 18) (oi := ?ois19) (v := ?vs19) ?hops19 ?hss19 ?hfs19 ?hrs19 ?hQs19 ?hys19 (by assumption) ?rests19
      case hops19 => (simp only [List.getElem?_toArray, List.getElem?_cons_zero, List.getElem?_cons_succ]; rfl)
      case hss19 => kernel_rfl
      case hfs19 => kernel_rfl
      case hrs19 => kernel_rfl
      case hQs19 => exact fun _ _ _ h => h
      case hys19 => (refine Or.inl ⟨by rfl, ?_⟩; intro w hSw; (try dsimp only at hSw); go_simp <;> with_reducible rfl)
      try simp only [Act.put, List.setIfInBounds_toArray, List.set_cons_zero, List.set_cons_succ]
      refine wpAnyH_done (by kernel_rfl) ?_ _
      refine NoPanic.normal ?_
      have hfin : Hid (JInv w w9 V U q q1 QA Q1 cq c1) := ⟨⟨a5, A5, ca5, b5, B5, cb5, a6, A6, ca6, b6, B6, cb6, t6, T6, ct6, hX6.out.1.below hB9.out, hX6.out.2.1.below hB9.out, hz.out.2.1, hz.out.2.2, hX6.out.2.2.2.2.2⟩, hX6.out.2.2.2.2.1.trans (hB9.out.mono hX6.out.2.2.2.2.1.size)⟩
      go_wp2
      go_roundw
      case rel => exact ⟨k + 1, by omega, by go_num, hfin⟩
      case measure => simp [intOf]; omega
    · have hltz : ¬ (k : Int) < (l.length : Int) := by omega
      obtain ⟨a, A, ca, b, B, cb, a2, A2, ca2, b2, B2, cb2, t, T, ct, i1, i2, i3, i4, i5⟩ := hR.out.has
      have hqs1 : ∀ s ∈ q1, s.l.length ≤ 8 := fun s hs => by
        have h1 : bare s ∈ q.map bare := by rw [← hW1.out.1]; exact List.mem_map.2 ⟨s, hs, rfl⟩
        obtain ⟨u, hu, e⟩ := List.mem_map.1 h1
        have := hqs.out u hu
        have e2 : (bare u).l = (bare s).l := by rw [e]
        have e3 : u.l = s.l := e2
        rw [← e3]; exact this
      have hQ0 := query_any wr0 V q1 Q1 c1 a A ca b B cb i1 hqs1
      have hQ : Hid _ := hQ0
      have hbr : Hid (Below w.heap.size w wr0) := hR.out.bel
      clear hQ0 i1 i2 i3 i4 i5 hqs1 hR
      go_wp2_with fail
      refine Calls.mono (show Calls _ _ _ _ _ from hQ.out) ?_
      rintro e w5 ⟨q', C, kk, rfl, r1, r2, r3⟩
      have hbw : Hid (Below w.heap.size w w5) := hbr.out.trans (r3.mono hbr.out.size)
      have hql' : q'.length ≤ maxLen := by
        have := congrArg List.length (r1.trans hW1.out.1)
        simp at this
        unfold maxLen; omega
      have hS0 := sameQ_any q' q C QA kk cq w5 hql' r2 (hH.out.1.below hbw.out) (r1.trans hW1.out.1)
      have hS : Hid _ := hS0
      clear hS0 hQ r1 r2 r3 hql'
      go_wp2_with fail
      refine Calls.mono (show Calls _ _ _ _ _ from hS.out) ?_
      rintro e w7 ⟨rfl, hg7⟩
      have hfin : Hid (Below w.heap.size w w7) := hbw.out.trans (hg7.below.mono hbw.out.size)
      clear hS hg7
      go_wp2
      go_ret
      exact ⟨rfl, hfin.out⟩
end Go.Proofs.YtoanlaedkpkpnaaGreatDoor
