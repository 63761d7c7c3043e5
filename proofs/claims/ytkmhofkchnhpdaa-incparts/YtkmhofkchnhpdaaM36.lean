/-
  inc.Feed: what comes to a view, and what it tells more.
  inc.Feed, taken or refused; views side by side.
-/
import Derived.Test.YtkmhofkchnhpdaaM35
import Derived.Test.YtkmhofkchnhpdaaM31
import Derived.Test.YtkmhofkchnhpdaaM30
namespace Go.Proofs.Ytkmhofkchnhpdaa
open Go.RowKit Go.Sort Go.Maps

theorem evl_errZ (q : List Stp) (a b : List Zit) : errZ (evlF q a b) = 0 := by
  by_cases h : plnE q a b = 0
  · exact evl_right h
  · rw [evl_no h]; decide
/-- The tables of a view are laid anew. -/
theorem set_tabs {w : World} {V : Nat} {q : List Stp} {QA : Option Addr} {cq : Nat} {a a' : List Itm} {A A' : Option Addr} {ca ca' : Nat} {b b' : List Itm} {B B' : Option Addr} {cb cb' : Nat} (h : Vw w V q QA cq a A ca b B cb) (ha : Lv w A' ca' a') (hb : Lv w B' cb' b') :
    Vw ((w.setCell ⟨V, 1, none⟩ (.slice A' a'.length ca')).setCell ⟨V, 2, none⟩ (.slice B' b'.length cb')) V q QA cq a' A' ca' b' B' cb' ∧ w.grownBy ((w.setCell ⟨V, 1, none⟩ (.slice A' a'.length ca')).setCell ⟨V, 2, none⟩ (.slice B' b'.length cb')) (some V) := by
  have hg : w.grownBy ((w.setCell ⟨V, 1, none⟩ (.slice A' a'.length ca')).setCell ⟨V, 2, none⟩ (.slice B' b'.length cb')) (some V) := by
    refine ⟨rfl, rfl, rfl, by simp, fun k hk hne => ?_⟩
    have hne' : V ≠ k := fun e => hne (by rw [e])
    rw [Below.heap_setCell _ _ _ _ hne'.symm, Below.heap_setCell _ _ _ _ hne'.symm]
  have o1 : ∀ {W : World} {i j : Nat} {v : Value}, i ≠ j → (W.setCell ⟨V, i, none⟩ v).cell? ⟨V, j, none⟩ = W.cell? ⟨V, j, none⟩ := fun hij => World.cell?_setCell_other _ _ _ _ (by intro e; injection e with _ e; exact hij e)
  have k0 : ((w.setCell ⟨V, 1, none⟩ (.slice A' a'.length ca')).setCell ⟨V, 2, none⟩ (.slice B' b'.length cb')).cell? ⟨V, 0, none⟩ = some (.slice QA q.length cq) := by rw [o1 (by omega), o1 (by omega)]; exact h.c0
  have k1 : ((w.setCell ⟨V, 1, none⟩ (.slice A' a'.length ca')).setCell ⟨V, 2, none⟩ (.slice B' b'.length cb')).cell? ⟨V, 1, none⟩ = some (.slice A' a'.length ca') := by rw [o1 (by omega)]; exact World.cell?_setCell_same _ _ _ h.c1
  have k2 : ((w.setCell ⟨V, 1, none⟩ (.slice A' a'.length ca')).setCell ⟨V, 2, none⟩ (.slice B' b'.length cb')).cell? ⟨V, 2, none⟩ = some (.slice B' b'.length cb') := World.cell?_setCell_same _ _ _ (u := .slice B b.length cb) (by rw [o1 (by omega)]; exact h.c2)
  refine ⟨⟨by simpa using h.lt, fun j => by simpa using h.fz j, fun j v hv => ?_, k0, k1, k2, h.slo.stps h.st hg, h.len, h.slo.keep ha hg, h.slo.keep hb hg⟩, hg⟩
  by_cases e2 : j = 2
  · subst e2; rw [k2] at hv; exact ⟨_, _, _, (Option.some.inj hv).symm⟩
  · by_cases e1 : j = 1
    · subst e1; rw [k1] at hv; exact ⟨_, _, _, (Option.some.inj hv).symm⟩
    · rw [o1 (fun e => e2 e.symm), o1 (fun e => e1 e.symm)] at hv
      exact h.slo j v hv

set_option maxRecDepth 100000 in
set_option maxHeartbeats 2000000 in
/-- A meal that is refused. -/
theorem feed_bad (w : World) (V : Nat) (q : List Stp) (QA : Option Addr) (cq : Nat) (a : List Itm) (A : Option Addr) (ca : Nat) (b : List Itm) (B : Option Addr) (cb : Nat) (h : Vw w V q QA cq a A ca b B cb) (x y : List Itm) (X Y : Option Addr) (cx cy : Nat) (hx : Lv w X cx x) (hy : Lv w Y cy y) (he : ¬ fedE q (a.map Itm.z) (b.map Itm.z) (x.map Itm.z) (y.map Itm.z) = 0) :
    Calls Try.prog 15 #[.pointer (some ⟨V, 0, none⟩), .slice X x.length cx, .slice Y y.length cy] w fun e w' => ∃ E, e = .returned (.tuple #[.slice none 0 0, .int .i64 E]) ∧ E = fedE q (a.map Itm.z) (b.map Itm.z) (x.map Itm.z) (y.map Itm.z) ∧ Below w.heap.size w w' := by
  obtain ⟨E1, hE1⟩ : ∃ E, tblE (x.map Itm.z) (y.map Itm.z) = E := ⟨_, rfl⟩
  have hC0 := tables_any x y X Y cx cy w hx hy
  rw [hE1] at hC0
  have hC : Hid _ := hC0
  have hH : Hid (Vw w V q QA cq a A ca b B cb ∧ Lv w X cx x ∧ Lv w Y cy y ∧ tblE (x.map Itm.z) (y.map Itm.z) = E1 ∧ ¬ fedE q (a.map Itm.z) (b.map Itm.z) (x.map Itm.z) (y.map Itm.z) = 0) := ⟨h, hx, hy, hE1, he⟩
  have hU : Hid (∀ E, fedE q (a.map Itm.z) (b.map Itm.z) (x.map Itm.z) (y.map Itm.z) = E → True) := fun _ _ => trivial
  obtain ⟨F, hF⟩ : ∃ F, fedE q (a.map Itm.z) (b.map Itm.z) (x.map Itm.z) (y.map Itm.z) = F := ⟨_, rfl⟩
  have hFH : Hid (fedE q (a.map Itm.z) (b.map Itm.z) (x.map Itm.z) (y.map Itm.z) = F) := hF
  rw [hF]
  clear hC0 h hx hy hE1 he hF hU
  go_enter Try.func15, Try.ntmps15
  go_wp2_with fail
  refine Calls.mono (show Calls _ _ _ _ _ from hC.out) ?_
  rintro e w1 ⟨rfl, hg1⟩
  have hW1 : Hid (Vw w1 V q QA cq a A ca b B cb ∧ Lv w1 X cx x ∧ Lv w1 Y cy y ∧ Below w.heap.size w w1) := ⟨hH.out.1.gr hg1, hH.out.2.1.gr hg1, hH.out.2.2.1.gr hg1, hg1.below⟩
  clear hC hg1
  cases h1 : (E1 != 0)
  rotate_left
  focus
    have hfin : Hid (E1 = F) := by
      have hn : ¬ tblE (x.map Itm.z) (y.map Itm.z) = 0 := by rw [hH.out.2.2.2.1]; simpa using h1
      show _ = _; rw [← hFH.out]; unfold fedE; rw [if_neg hn]; exact hH.out.2.2.2.1.symm
    go_wp2
    go_ret2
    exact ⟨E1, rfl, hfin.out, hW1.out.2.2.2⟩
  have hT0 : Hid (tblE (x.map Itm.z) (y.map Itm.z) = 0) := by show _ = _; rw [hH.out.2.2.2.1]; simpa using h1
  have c1 := hW1.out.1.c1
  obtain ⟨E2, hE2⟩ : ∃ E, addE (a.map Itm.z) (x.map Itm.z) = E := ⟨_, rfl⟩
  have hA0 := addV hW1.out.1.la hW1.out.2.1 rfl rfl
  rw [hE2] at hA0
  have hA : Hid _ := hA0
  have hE2H : Hid (addE (a.map Itm.z) (x.map Itm.z) = E2) := hE2
  clear hA0 hE2
  go_wp2_with fail
  refine Calls.mono (show Calls _ _ _ _ _ from hA.out) ?_
  rintro e w2 ⟨P, PA, pc, rfl, p1, p2, p3⟩
  have hW2 : Hid (Vw w2 V q QA cq a A ca b B cb ∧ Lv w2 Y cy y ∧ Below w.heap.size w w2 ∧ Lv w2 PA pc P ∧ P.map Itm.z = addL (a.map Itm.z) (x.map Itm.z)) := ⟨hW1.out.1.below p3, hW1.out.2.2.1.below p3, hW1.out.2.2.2.trans (p3.mono hW1.out.2.2.2.size), p2, p1⟩
  clear hA p1 p2 p3 c1 hW1
  cases h2 : (E2 != 0)
  rotate_left
  focus
    have hfin : Hid (E2 = F) := by
      have hn : ¬ addE (a.map Itm.z) (x.map Itm.z) = 0 := by rw [hE2H.out]; simpa using h2
      show _ = _; rw [← hFH.out]; unfold fedE; rw [if_pos hT0.out, if_neg hn]; exact hE2H.out.symm
    go_wp2
    go_ret2
    exact ⟨E2, rfl, hfin.out, hW2.out.2.2.1⟩
  have hT2 : Hid (addE (a.map Itm.z) (x.map Itm.z) = 0) := by show _ = _; rw [hE2H.out]; simpa using h2
  have c2 := hW2.out.1.c2
  obtain ⟨E3, hE3⟩ : ∃ E, addE (b.map Itm.z) (y.map Itm.z) = E := ⟨_, rfl⟩
  have hA0 := addV hW2.out.1.lb hW2.out.2.1 rfl rfl
  rw [hE3] at hA0
  have hA : Hid _ := hA0
  have hE3H : Hid (addE (b.map Itm.z) (y.map Itm.z) = E3) := hE3
  clear hA0 hE3
  go_wp2_with fail
  refine Calls.mono (show Calls _ _ _ _ _ from hA.out) ?_
  rintro e w3 ⟨R, RA, rc, rfl, p1, p2, p3⟩
  have hW3 : Hid (Vw w3 V q QA cq a A ca b B cb ∧ Below w.heap.size w w3 ∧ Lv w3 PA pc P ∧ P.map Itm.z = addL (a.map Itm.z) (x.map Itm.z) ∧ Lv w3 RA rc R ∧ R.map Itm.z = addL (b.map Itm.z) (y.map Itm.z)) := ⟨hW2.out.1.below p3, hW2.out.2.2.1.trans (p3.mono hW2.out.2.2.1.size), hW2.out.2.2.2.1.below p3, hW2.out.2.2.2.2, p2, p1⟩
  clear hA p1 p2 p3 c2 hW2
  cases h3 : (E3 != 0)
  rotate_left
  focus
    have hfin : Hid (E3 = F) := by
      have hn : ¬ addE (b.map Itm.z) (y.map Itm.z) = 0 := by rw [hE3H.out]; simpa using h3
      show _ = _; rw [← hFH.out]; unfold fedE; rw [if_pos hT0.out, if_pos hT2.out, if_neg hn]; exact hE3H.out.symm
    go_wp2
    go_ret2
    exact ⟨E3, rfl, hfin.out, hW3.out.2.1⟩
  have hT3 : Hid (addE (b.map Itm.z) (y.map Itm.z) = 0) := by show _ = _; rw [hE3H.out]; simpa using h3
  have c0 := hW3.out.1.c0
  have hq8 := hW3.out.1.len
  have hV0 := eval_any q QA cq P R PA RA pc rc w3 (by unfold maxLen; omega) hW3.out.1.st hW3.out.2.2.1 hW3.out.2.2.2.2.1
  have hPF : Hid (plnE q (P.map Itm.z) (R.map Itm.z) = F) := by
    show _ = _
    rw [hW3.out.2.2.2.1, hW3.out.2.2.2.2.2, ← hFH.out]
    unfold fedE
    rw [if_pos hT0.out, if_pos hT2.out, if_pos hT3.out]
  rw [hPF.out] at hV0
  have hV : Hid _ := hV0
  have hF0 : (F != 0) = true := by have := hH.out.2.2.2.2; rw [hFH.out] at this; simpa using this
  clear hV0 hq8
  go_wp2_with fail
  refine Calls.mono (show Calls _ _ _ _ _ from hV.out) ?_
  rintro e w4 ⟨N, NA, nc, rfl, n1, n2, n3⟩
  have hfin : Hid (Below w.heap.size w w4) := hW3.out.2.1.trans (n3.mono hW3.out.2.1.size)
  clear hV n1 n2 n3 c0
  go_wp2
  go_ret2
  exact ⟨F, rfl, rfl, hfin.out⟩

set_option maxRecDepth 100000 in
set_option maxHeartbeats 2000000 in
/-- A meal that is taken. -/
theorem feed_ok (w : World) (V : Nat) (q : List Stp) (QA : Option Addr) (cq : Nat) (a : List Itm) (A : Option Addr) (ca : Nat) (b : List Itm) (B : Option Addr) (cb : Nat) (h : Vw w V q QA cq a A ca b B cb) (x y : List Itm) (X Y : Option Addr) (cx cy : Nat) (hx : Lv w X cx x) (hy : Lv w Y cy y) (he : fedE q (a.map Itm.z) (b.map Itm.z) (x.map Itm.z) (y.map Itm.z) = 0) :
    Calls Try.prog 15 #[.pointer (some ⟨V, 0, none⟩), .slice X x.length cx, .slice Y y.length cy] w fun e w' => ∃ (L : List Itm) (C : Option Addr) (k : Nat) (a' : List Itm) (A' : Option Addr) (ca' : Nat) (b' : List Itm) (B' : Option Addr) (cb' : Nat), e = .returned (.tuple #[.slice C L.length k, .int .i64 0]) ∧ L.map Itm.z = difL (evlF q (a'.map Itm.z) (b'.map Itm.z)) (evlF q (a.map Itm.z) (b.map Itm.z)) ∧ a'.map Itm.z = addL (a.map Itm.z) (x.map Itm.z) ∧ b'.map Itm.z = addL (b.map Itm.z) (y.map Itm.z) ∧ Vw w' V q QA cq a' A' ca' b' B' cb' ∧ w.grownBy w' (some V) ∧ Lv w' C k L ∧ L.length ≤ 800 := by
  obtain ⟨f1, f2, f3, f4⟩ := fedE_parts he
  have hC0 := tables_any x y X Y cx cy w hx hy
  rw [f1] at hC0
  have hC : Hid _ := hC0
  have hH : Hid (Vw w V q QA cq a A ca b B cb ∧ Lv w X cx x ∧ Lv w Y cy y) := ⟨h, hx, hy⟩
  have hF : Hid (addE (a.map Itm.z) (x.map Itm.z) = 0 ∧ addE (b.map Itm.z) (y.map Itm.z) = 0 ∧ plnE q (addL (a.map Itm.z) (x.map Itm.z)) (addL (b.map Itm.z) (y.map Itm.z)) = 0) := ⟨f2, f3, f4⟩
  clear hC0 h hx hy he f1 f2 f3 f4
  go_enter Try.func15, Try.ntmps15
  go_wp2_with fail
  refine Calls.mono (show Calls _ _ _ _ _ from hC.out) ?_
  rintro e w1 ⟨rfl, hg1⟩
  have hW1 : Hid (Vw w1 V q QA cq a A ca b B cb ∧ Lv w1 X cx x ∧ Lv w1 Y cy y ∧ Below w.heap.size w w1) := ⟨hH.out.1.gr hg1, hH.out.2.1.gr hg1, hH.out.2.2.gr hg1, hg1.below⟩
  clear hC hg1
  have c1 := hW1.out.1.c1
  have hA0 := addV hW1.out.1.la hW1.out.2.1 rfl rfl
  rw [hF.out.1] at hA0
  have hA : Hid _ := hA0
  clear hA0
  go_wp2_with fail
  refine Calls.mono (show Calls _ _ _ _ _ from hA.out) ?_
  rintro e w2 ⟨P, PA, pc, rfl, p1, p2, p3⟩
  have hW2 : Hid (Vw w2 V q QA cq a A ca b B cb ∧ Lv w2 Y cy y ∧ Below w.heap.size w w2 ∧ Lv w2 PA pc P ∧ P.map Itm.z = addL (a.map Itm.z) (x.map Itm.z)) := ⟨hW1.out.1.below p3, hW1.out.2.2.1.below p3, hW1.out.2.2.2.trans (p3.mono hW1.out.2.2.2.size), p2, p1⟩
  clear hA p1 p2 p3 c1 hW1
  have c2 := hW2.out.1.c2
  have hA0 := addV hW2.out.1.lb hW2.out.2.1 rfl rfl
  rw [hF.out.2.1] at hA0
  have hA : Hid _ := hA0
  clear hA0
  go_wp2_with fail
  refine Calls.mono (show Calls _ _ _ _ _ from hA.out) ?_
  rintro e w3 ⟨R, RA, rc, rfl, p1, p2, p3⟩
  have hW3 : Hid (Vw w3 V q QA cq a A ca b B cb ∧ Below w.heap.size w w3 ∧ Lv w3 PA pc P ∧ P.map Itm.z = addL (a.map Itm.z) (x.map Itm.z) ∧ Lv w3 RA rc R ∧ R.map Itm.z = addL (b.map Itm.z) (y.map Itm.z)) := ⟨hW2.out.1.below p3, hW2.out.2.2.1.trans (p3.mono hW2.out.2.2.1.size), hW2.out.2.2.2.1.below p3, hW2.out.2.2.2.2, p2, p1⟩
  clear hA p1 p2 p3 c2 hW2
  have c0 := hW3.out.1.c0
  have hq8 := hW3.out.1.len
  have hV0 := eval_any q QA cq P R PA RA pc rc w3 (by unfold maxLen; omega) hW3.out.1.st hW3.out.2.2.1 hW3.out.2.2.2.2.1
  have hP0 : plnE q (P.map Itm.z) (R.map Itm.z) = 0 := by rw [hW3.out.2.2.2.1, hW3.out.2.2.2.2.2]; exact hF.out.2.2
  rw [hP0] at hV0
  have hV : Hid _ := hV0
  clear hV0 hq8 hP0
  go_wp2_with fail
  refine Calls.mono (show Calls _ _ _ _ _ from hV.out) ?_
  rintro e w4 ⟨N, NA, nc, rfl, n1, n2, n3⟩
  have hW4 : Hid (Vw w4 V q QA cq a A ca b B cb ∧ Below w.heap.size w w4 ∧ Lv w4 PA pc P ∧ P.map Itm.z = addL (a.map Itm.z) (x.map Itm.z) ∧ Lv w4 RA rc R ∧ R.map Itm.z = addL (b.map Itm.z) (y.map Itm.z) ∧ Lv w4 NA nc N ∧ N.map Itm.z = evlF q (P.map Itm.z) (R.map Itm.z)) := ⟨hW3.out.1.below n3, hW3.out.2.1.trans (n3.mono hW3.out.2.1.size), hW3.out.2.2.1.below n3, hW3.out.2.2.2.1, hW3.out.2.2.2.2.1.below n3, hW3.out.2.2.2.2.2, n2, n1⟩
  clear hV n1 n2 n3 c0 hW3
  have hO0 := allW_any w4 V q QA cq a A ca b B cb hW4.out.1
  have hO : Hid _ := hO0
  clear hO0
  go_wp2_with fail
  refine Calls.mono (show Calls _ _ _ _ _ from hO.out) ?_
  rintro e w5 ⟨M, MA, mc, rfl, m1, m2, m3⟩
  have hW5 : Hid (Vw w5 V q QA cq a A ca b B cb ∧ Below w.heap.size w w5 ∧ Lv w5 PA pc P ∧ P.map Itm.z = addL (a.map Itm.z) (x.map Itm.z) ∧ Lv w5 RA rc R ∧ R.map Itm.z = addL (b.map Itm.z) (y.map Itm.z) ∧ Lv w5 NA nc N ∧ N.map Itm.z = evlF q (P.map Itm.z) (R.map Itm.z) ∧ Lv w5 MA mc M ∧ M.map Itm.z = evlF q (a.map Itm.z) (b.map Itm.z)) := ⟨hW4.out.1.below m3, hW4.out.2.1.trans (m3.mono hW4.out.2.1.size), hW4.out.2.2.1.below m3, hW4.out.2.2.2.1, hW4.out.2.2.2.2.1.below m3, hW4.out.2.2.2.2.2.1, hW4.out.2.2.2.2.2.2.1.below m3, hW4.out.2.2.2.2.2.2.2, m2, m1⟩
  clear hO m1 m2 m3 hW4
  have c1 := hW5.out.1.c1
  have c2 := hW5.out.1.c2
  have z1 := hW5.out.1.fz 1
  have z2 := hW5.out.1.fz 2
  obtain ⟨w6, hw6⟩ : ∃ W, (w5.setCell ⟨V, 1, none⟩ (.slice PA P.length pc)).setCell ⟨V, 2, none⟩ (.slice RA R.length rc) = W := ⟨_, rfl⟩
  have hS := set_tabs hW5.out.1 hW5.out.2.2.1 hW5.out.2.2.2.2.1
  rw [hw6] at hS
  have hW6 : Hid (Vw w6 V q QA cq P PA pc R RA rc ∧ w.grownBy w6 (some V) ∧ Lv w6 NA nc N ∧ Lv w6 MA mc M) := by
    have hb := hW5.out.2.1
    refine ⟨hS.1, ⟨hS.2.os.trans hb.os, hS.2.tape.trans hb.tape, hS.2.output.trans hb.output, Nat.le_trans hb.size hS.2.size, fun k hk hne => (hS.2.block k (Nat.lt_of_lt_of_le hk hb.size) hne).trans (hb.block k hk)⟩, hW5.out.1.slo.keep hW5.out.2.2.2.2.2.2.1 hS.2, hW5.out.1.slo.keep hW5.out.2.2.2.2.2.2.2.2.1 hS.2⟩
  have hD0 := diff_any N M NA MA nc mc w6 hW6.out.2.2.1.items hW6.out.2.2.2.items hW6.out.2.2.1.nilc.cap hW6.out.2.2.2.nilc.cap (by rw [hW5.out.2.2.2.2.2.2.2.1]; exact evl_errZ _ _ _) (by rw [hW5.out.2.2.2.2.2.2.2.2.2]; exact evl_errZ _ _ _)
  have hD : Hid _ := hD0
  clear hS hD0
  go_wp2_with fail
  clear hw6 c1 c2 z1 z2
  refine Calls.mono (show Calls _ _ _ _ _ from hD.out) ?_
  rintro e w7 ⟨L, C, k, rfl, d1, d2, d3, d4, d5⟩
  have hfin : Hid (L.map Itm.z = difL (evlF q (P.map Itm.z) (R.map Itm.z)) (evlF q (a.map Itm.z) (b.map Itm.z)) ∧ P.map Itm.z = addL (a.map Itm.z) (x.map Itm.z) ∧ R.map Itm.z = addL (b.map Itm.z) (y.map Itm.z) ∧ Vw w7 V q QA cq P PA pc R RA rc ∧ w.grownBy w7 (some V) ∧ Lv w7 C k L ∧ L.length ≤ 800) := by
    have hg := hW6.out.2.1
    refine ⟨by rw [d1, hW5.out.2.2.2.2.2.2.2.1, hW5.out.2.2.2.2.2.2.2.2.2], hW5.out.2.2.2.1, hW5.out.2.2.2.2.2.1, hW6.out.1.below d5, ⟨d5.os.trans hg.os, d5.tape.trans hg.tape, d5.output.trans hg.output, Nat.le_trans hg.size d5.size, fun k hk hne => (d5.block k (Nat.lt_of_lt_of_le hk hg.size)).trans (hg.block k hk hne)⟩, ⟨d2, d3, by unfold maxLen; omega⟩, d4⟩
  clear d1 d2 d3 d4 d5 hD
  go_wp2
  go_ret2
  exact ⟨L, C, k, P, PA, pc, R, RA, rc, rfl, hfin.out⟩
end Go.Proofs.Ytkmhofkchnhpdaa

namespace Go.Proofs.Ytkmhofkchnhpdaa
open Go.RowKit Go.Sort Go.Maps

theorem below_grown {w w' : World} (h : Below w.heap.size w w') (row : Option Nat) : w.grownBy w' row := ⟨h.os, h.tape, h.output, h.size, fun k hk _ => h.block k hk⟩
theorem grown_below {w w' : World} {V n : Nat} (h : w.grownBy w' (some V)) (hV : n ≤ V) (hn : n ≤ w.heap.size) : Below n w w' := ⟨h.os, h.tape, h.output, h.size, fun k hk => h.block k (Nat.lt_of_lt_of_le hk hn) (fun e => by injection e with e; omega)⟩
theorem grown_cell {w w' : World} {V X j : Nat} (h : w.grownBy w' (some V)) (hX : X ≠ V) (hl : X < w.heap.size) : w'.cell? ⟨X, j, none⟩ = w.cell? ⟨X, j, none⟩ := World.cell?_of_block (a := ⟨X, j, none⟩) (h.block X hl (fun e => by injection e with e; exact hX e))
/-- Another view stays as it is. -/
theorem Vw.other {w w' : World} {V V2 : Nat} {q : List Stp} {QA : Option Addr} {cq : Nat} {a : List Itm} {A : Option Addr} {ca : Nat} {b : List Itm} {B : Option Addr} {cb : Nat} (h : Vw w V2 q QA cq a A ca b B cb) (hs : Slo w V) (hne : V2 ≠ V) (hg : w.grownBy w' (some V)) : Vw w' V2 q QA cq a A ca b B cb := by
  have hb : w'.heap[V2]? = w.heap[V2]? := hg.block V2 h.lt (fun e => by injection e with e; exact hne e)
  exact ⟨Nat.lt_of_lt_of_le h.lt hg.size, fun j => (World.frozen?_of_block (a := ⟨V2, j, none⟩) hb).trans (h.fz j), fun j v hv => h.slo j v ((grown_cell hg hne h.lt).symm.trans hv), (grown_cell hg hne h.lt).trans h.c0, (grown_cell hg hne h.lt).trans h.c1, (grown_cell hg hne h.lt).trans h.c2, hs.stps h.st hg, h.len, hs.keep h.la hg, hs.keep h.lb hg⟩

theorem feed_either (w : World) (V : Nat) (q : List Stp) (QA : Option Addr) (cq : Nat) (a : List Itm) (A : Option Addr) (ca : Nat) (b : List Itm) (B : Option Addr) (cb : Nat) (h : Vw w V q QA cq a A ca b B cb) (x y : List Itm) (X Y : Option Addr) (cx cy : Nat) (hx : Lv w X cx x) (hy : Lv w Y cy y) {E : Int} (he : fedE q (a.map Itm.z) (b.map Itm.z) (x.map Itm.z) (y.map Itm.z) = E) :
    Calls Try.prog 15 #[.pointer (some ⟨V, 0, none⟩), .slice X x.length cx, .slice Y y.length cy] w fun e w' => ∃ (L : List Itm) (C : Option Addr) (k : Nat) (a' : List Itm) (A' : Option Addr) (ca' : Nat) (b' : List Itm) (B' : Option Addr) (cb' : Nat), e = .returned (.tuple #[.slice C L.length k, .int .i64 E]) ∧ (E = 0 → L.map Itm.z = difL (evlF q (a'.map Itm.z) (b'.map Itm.z)) (evlF q (a.map Itm.z) (b.map Itm.z)) ∧ a'.map Itm.z = addL (a.map Itm.z) (x.map Itm.z) ∧ b'.map Itm.z = addL (b.map Itm.z) (y.map Itm.z)) ∧ (¬ E = 0 → L = [] ∧ a' = a ∧ b' = b) ∧ Vw w' V q QA cq a' A' ca' b' B' cb' ∧ w.grownBy w' (some V) ∧ Lv w' C k L ∧ L.length ≤ 800 := by
  by_cases h0 : E = 0
  · refine (feed_ok w V q QA cq a A ca b B cb h x y X Y cx cy hx hy (by rw [he]; exact h0)).mono ?_
    rintro e w' ⟨L, C, k, a', A', ca', b', B', cb', h1, h2, h3, h4, h5, h6, h7, h8⟩
    exact ⟨L, C, k, a', A', ca', b', B', cb', by rw [h1, h0], fun _ => ⟨h2, h3, h4⟩, fun h => absurd h0 h, h5, h6, h7, h8⟩
  · refine (feed_bad w V q QA cq a A ca b B cb h x y X Y cx cy hx hy (by rw [he]; exact h0)).mono ?_
    rintro e w' ⟨F, h1, h2, h3⟩
    exact ⟨[], none, 0, a, A, ca, b, B, cb, by rw [h1, h2, he]; rfl, fun h => absurd h h0, fun _ => ⟨rfl, rfl, rfl⟩, h.below h3, below_grown h3 _, lv_nil _, by simp⟩
end Go.Proofs.Ytkmhofkchnhpdaa
