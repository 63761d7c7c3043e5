/-
  viewkeep.kept0.
  viewkeep.IncParts.
-/
import Derived.Test.YtkmhofkchnhpdaaM36
namespace Go.Proofs.Ytkmhofkchnhpdaa
open Go.RowKit Go.Sort Go.Maps

def kepW (w : World) : World := w.alloc (.cells #[.int .i64 1, .int .i64 0, .int .i64 0, .int .i64 0, .int .i64 0, .int .i64 0, .slice none 0 0, .int .i64 8, .int .i64 0, .int .i64 0, .int .i64 1, .int .i64 0, .int .i64 0, .slice none 0 0] 27)
theorem kep_q (w : World) : Stps (kepW w) (some ⟨w.heap.size, 0, none⟩) cntQ := by
  refine ⟨row_lit encQ_len rfl (Gr.refl _) rfl, fun s hs => ?_⟩
  rcases List.mem_cons.1 hs with e | e
  · rw [e]; exact ⟨Or.inl rfl, by simp [maxLen], fun _ => rfl⟩
  · rw [List.mem_singleton.1 e]; exact ⟨Or.inl rfl, by simp [maxLen], fun _ => rfl⟩
theorem kep_e : errQ cntQ = 0 ∧ fedE cntQ [] [] [([1, 5, 0, 0], 1)] [] = 0 ∧ fedE cntQ (addL [] [([1, 5, 0, 0], 1)]) (addL [] []) [([2, 5, 0, 0], 1)] [] = 0 ∧ difL (evlF cntQ (addL (addL [] [([1, 5, 0, 0], 1)]) [([2, 5, 0, 0], 1)]) (addL (addL [] []) [])) (evlF cntQ (addL [] [([1, 5, 0, 0], 1)]) (addL [] [])) = [([5, 1], -1), ([5, 2], 1)] := by decide +kernel
/-- A list of one item with a row of its own. -/
theorem one_lv (w : World) (r : List Int) (n : Int) (hr : r.length ≤ 8) (cs : Array Value) (hc : flatG encI r = cs.toList) : Lv ((w.alloc (.cells cs 3)).alloc (.cells #[.slice (some ⟨w.heap.size, 0, none⟩) r.length r.length, .int .i64 n] 48)) (some ⟨w.heap.size + 1, 0, none⟩) 1 [⟨some ⟨w.heap.size, 0, none⟩, r.length, r, n⟩] := by
  refine ⟨⟨row_lit encT_len (by simp) (Gr.refl _) rfl, fun x hx => ?_⟩, NilC.mk (fun h => by cases h) (by simp), by simp [maxLen]⟩
  rw [List.mem_singleton.1 hx]
  exact ⟨row_lit encI_len rfl ((Gr.refl _).alloc _) hc, Nat.le_trans hr (by decide), fun h => by cases h⟩

set_option maxRecDepth 100000 in
set_option maxHeartbeats 1000000 in
theorem kept_any (w : World) : Calls Try.prog 13 #[] w fun e w' => e = .returned (.bool true) ∧ Below w.heap.size w w' := by
  have hC0 := new_ok cntQ (some ⟨w.heap.size, 0, none⟩) 2 (kepW w) (by simp [cntQ, maxLen]) (kep_q w) kep_e.1
  have hC : Hid _ := hC0
  clear hC0
  have hgK : Hid (Gr w (kepW w)) := (Gr.refl _).alloc _
  go_enter Try.func13, Try.ntmps13
  go_wp2_with fail
  refine Calls.mono (show Calls _ _ _ _ _ from hC.out) ?_
  rintro e w1 ⟨V, q, QA, cq, rfl, h1, h2, h3, h4⟩
  have hV : Hid (q.map bare = cntQ.map bare ∧ Vw w1 V q QA cq [] none 0 [] none 0 ∧ w.heap.size ≤ V ∧ Below w.heap.size w w1) := ⟨h1, h2, Nat.le_trans hgK.out.size h3, hgK.out.below.trans (h4.mono hgK.out.size)⟩
  clear hC h1 h2 h3 h4 hgK
  have hF0 := feed_ok _ V q QA cq [] none 0 [] none 0 (hV.out.2.1.gr (((Gr.refl w1).alloc _).alloc _)) _ [] _ none 1 0 (one_lv w1 [1, 5, 0, 0] 1 (by simp) #[.int .i64 1, .int .i64 5, .int .i64 0, .int .i64 0] rfl) (lv_nil _) (by rw [same_fedE hV.out.1]; exact kep_e.2.1)
  have hF : Hid _ := hF0
  clear hF0
  have hgA : Hid (Gr w1 ((w1.alloc (.cells #[.int .i64 1, .int .i64 5, .int .i64 0, .int .i64 0] 3)).alloc (.cells #[.slice (some ⟨w1.heap.size, 0, none⟩) 4 4, .int .i64 1] 48))) := ((Gr.refl _).alloc _).alloc _
  go_wp2_with fail
  refine Calls.mono (show Calls _ _ _ _ _ from hF.out) ?_
  rintro e w2 ⟨L, C, k, a1, A1, ca1, b1, B1, cb1, rfl, h1, h2, h3, h4, h5, h6, h7⟩
  have hW : Hid (a1.map Itm.z = addL [] [([1, 5, 0, 0], 1)] ∧ b1.map Itm.z = addL [] [] ∧ Vw w2 V q QA cq a1 A1 ca1 b1 B1 cb1 ∧ Below w.heap.size w w2) := ⟨h2, h3, h4, (hV.out.2.2.2.trans (hgA.out.below.mono hV.out.2.2.2.size)).trans (grown_below h5 hV.out.2.2.1 (Nat.le_trans hV.out.2.2.2.size hgA.out.size))⟩
  clear hF h1 h2 h3 h4 h5 h6 h7 hgA
  have hF0 := feed_ok _ V q QA cq a1 A1 ca1 b1 B1 cb1 (hW.out.2.2.1.gr (((Gr.refl w2).alloc _).alloc _)) _ [] _ none 1 0 (one_lv w2 [2, 5, 0, 0] 1 (by simp) #[.int .i64 2, .int .i64 5, .int .i64 0, .int .i64 0] rfl) (lv_nil _) (by rw [same_fedE hV.out.1, hW.out.1, hW.out.2.1]; exact kep_e.2.2.1)
  have hF : Hid _ := hF0
  clear hF0
  have hgA : Hid (Gr w2 ((w2.alloc (.cells #[.int .i64 2, .int .i64 5, .int .i64 0, .int .i64 0] 3)).alloc (.cells #[.slice (some ⟨w2.heap.size, 0, none⟩) 4 4, .int .i64 1] 48))) := ((Gr.refl _).alloc _).alloc _
  go_wp2_with fail
  refine Calls.mono (show Calls _ _ _ _ _ from hF.out) ?_
  rintro e w3 ⟨L2, C2, k2, a2, A2, ca2, b2, B2, cb2, rfl, h1, h2, h3, h4, h5, h6, h7⟩
  have hL : Hid (L2.map Itm.z = [([5, 1], -1), ([5, 2], 1)] ∧ Lv w3 C2 k2 L2 ∧ Below w.heap.size w w3) := by
    refine ⟨?_, h6, (hW.out.2.2.2.trans (hgA.out.below.mono hW.out.2.2.2.size)).trans (grown_below h5 hV.out.2.2.1 (Nat.le_trans hW.out.2.2.2.size hgA.out.size))⟩
    rw [h1, h2, h3, same_evlF hV.out.1, same_evlF hV.out.1, hW.out.1, hW.out.2.1]
    exact kep_e.2.2.2
  clear hF h1 h2 h3 h4 h5 h6 h7 hgA
  have hS0 := sameV (W := (((w3.alloc (.cells #[.int .i64 5, .int .i64 1] 3)).alloc (.cells #[.int .i64 5, .int .i64 2] 3)).alloc (.cells #[.slice (some ⟨w3.heap.size, 0, none⟩) 2 2, .int .i64 (-1), .slice (some ⟨w3.heap.size + 1, 0, none⟩) 2 2, .int .i64 1] 48))) (A := C2) (c := k2) (l := L2) (B := some ⟨w3.heap.size + 1 + 1, 0, none⟩) (d := 2) (r := [⟨some ⟨w3.heap.size, 0, none⟩, 2, [5, 1], -1⟩, ⟨some ⟨w3.heap.size + 1, 0, none⟩, 2, [5, 2], 1⟩]) (hL.out.2.1.gr ((((Gr.refl _).alloc _).alloc _).alloc _)) ⟨⟨row_lit encT_len (by simp) (Gr.refl _) rfl, fun x hx => by
    rcases List.mem_cons.1 hx with e | e
    · rw [e]; exact ⟨row_lit encI_len rfl (((Gr.refl _).alloc _).alloc _) rfl, by simp [maxLen], fun h => by cases h⟩
    · rw [List.mem_singleton.1 e]; exact ⟨row_lit encI_len (by simp) ((Gr.refl _).alloc _) rfl, by simp [maxLen], fun h => by cases h⟩⟩, NilC.mk (fun h => by cases h) (by simp), by simp [maxLen]⟩ (by rw [hL.out.1]; rfl)
  have hS : Hid _ := hS0
  clear hS0
  go_wp2_with fail
  refine Calls.mono (show Calls _ _ _ _ _ from hS.out) ?_
  rintro e w4 ⟨rfl, hg4⟩
  have hB : Hid (Below w.heap.size w w4) := hL.out.2.2.trans ((((((Gr.refl w3).alloc _).alloc _).alloc _).trans hg4).below.mono hL.out.2.2.size)
  clear hS hg4
  go_wp2
  go_ret
  exact ⟨rfl, hB.out⟩
end Go.Proofs.Ytkmhofkchnhpdaa

namespace Go.Proofs.Ytkmhofkchnhpdaa
open Go.RowKit Go.Sort Go.Maps

/-- Fed twice, or once with both together. -/
theorem parts_fed {p q : List Stp} (hq : p.map bare = q.map bare) {x y s t : List Zit} (e1 : addE x s = 0) (e2 : addE y t = 0) (e3 : fedE p [] [] x y = 0) (e4 : fedE p (addL [] x) (addL [] y) s t = 0) :
    fedE q [] [] (addL x s) (addL y t) = 0 ∧ evlF p (addL (addL [] x) s) (addL (addL [] y) t) = evlF q (addL [] (addL x s)) (addL [] (addL y t)) := by
  obtain ⟨f1, f2, f3, f4⟩ := fedE_parts e3
  obtain ⟨g1, g2, g3, g4⟩ := fedE_parts e4
  obtain ⟨t1, t2, t3, t4⟩ := tblE_parts f1
  obtain ⟨u1, u2, u3, u4⟩ := tblE_parts g1
  have hx := (add_nil_left t1).2
  have hy := (add_nil_left t2).2
  have ha := add_nil_left (add_right e1).2.2
  have hb := add_nil_left (add_right e2).2.2
  rw [hx, hy] at g4 ⊢
  refine ⟨fedE_ok (tblE_ok (add_right e1).2.2 (add_right e2).2.2 (add_wide t3 u3) (add_wide t4 u4)) ha.1 hb.1 ?_, ?_⟩
  · rw [ha.2, hb.2, ← same_plnE hq]; exact g4
  · rw [ha.2, hb.2, same_evlF hq]

set_option maxRecDepth 100000 in
set_option maxHeartbeats 4000000 in
theorem iparts_any (q : List Stp) (QA : Option Addr) (cq : Nat) (x y s t : List Itm) (X Y S T : Option Addr) (cx cy cs ct : Nat) (w : World) (hl : q.length ≤ maxLen) (hq : Stps w QA q) (hx : Lv w X cx x) (hy : Lv w Y cy y) (hs : Lv w S cs s) (ht : Lv w T ct t) :
    Calls Try.prog 5 #[.slice QA q.length cq, .agg #[.slice X x.length cx, .slice Y y.length cy], .agg #[.slice S s.length cs, .slice T t.length ct]] w fun e w' => e = .returned (.bool true) ∧ Below w.heap.size w w' := by
  obtain ⟨W0, hW0⟩ : ∃ W, (w.alloc (.cells #[.slice X x.length cx, .slice Y y.length cy] 41)).alloc (.cells #[.slice S s.length cs, .slice T t.length ct] 41) = W := ⟨_, rfl⟩
  have hg0 : Hid (Gr w W0) := by show Gr _ _; rw [← hW0]; exact ((Gr.refl _).alloc _).alloc _
  have hsz : Hid (w.heap.size + 1 < W0.heap.size) := by show _ < _; rw [← hW0]; simp
  have b0 : W0.cell? ⟨w.heap.size, 0, none⟩ = some (.slice X x.length cx) := by rw [← hW0]; exact box1 (w := w) ((Gr.refl _).alloc _) rfl
  have b1 : W0.cell? ⟨w.heap.size, 1, none⟩ = some (.slice Y y.length cy) := by rw [← hW0]; exact box1 (w := w) ((Gr.refl _).alloc _) rfl
  have b2 : W0.cell? ⟨w.heap.size + 1, 0, none⟩ = some (.slice S s.length cs) := by rw [← hW0]; exact box2 (w := w) (Gr.refl _) rfl
  have b3 : W0.cell? ⟨w.heap.size + 1, 1, none⟩ = some (.slice T t.length ct) := by rw [← hW0]; exact box2 (w := w) (Gr.refl _) rfl
  have hBx : Hid (W0.cell? ⟨w.heap.size, 0, none⟩ = some (.slice X x.length cx) ∧ W0.cell? ⟨w.heap.size, 1, none⟩ = some (.slice Y y.length cy) ∧ W0.cell? ⟨w.heap.size + 1, 0, none⟩ = some (.slice S s.length cs) ∧ W0.cell? ⟨w.heap.size + 1, 1, none⟩ = some (.slice T t.length ct)) := ⟨b0, b1, b2, b3⟩
  have hH : Hid (Stps W0 QA q ∧ Lv W0 X cx x ∧ Lv W0 Y cy y ∧ Lv W0 S cs s ∧ Lv W0 T ct t ∧ q.length ≤ maxLen) := ⟨hq.gr hg0.out, hx.gr hg0.out, hy.gr hg0.out, hs.gr hg0.out, ht.gr hg0.out, hl⟩
  have hC0 := kept_any W0
  have hC : Hid _ := hC0
  clear hC0 hq hx hy hs ht hl b0 b1 b2 b3
  go_enter Try.func5, Try.ntmps5
  go_wp2_with fail
  clear hW0
  refine Calls.mono (show Calls _ _ _ _ _ from hC.out) ?_
  rintro e w1 ⟨rfl, hb1⟩
  have hW1 : Hid (Stps w1 QA q ∧ Below W0.heap.size W0 w1) := ⟨hH.out.1.below hb1, hb1⟩
  clear hb1 hC
  by_cases he : errQ q = 0
  rotate_left
  focus
    have hN0 := new_bad q QA cq w1 hH.out.2.2.2.2.2 hW1.out.1 he
    have he' : (errQ q != 0) = true := by simpa using he
    obtain ⟨E, hE⟩ : ∃ E, errQ q = E := ⟨_, rfl⟩
    rw [hE] at hN0 he'
    have hEH : Hid (errQ q = E ∧ ¬ errQ q = 0) := ⟨hE, he⟩
    have hN : Hid _ := hN0
    clear hN0 hE he
    go_wp2_with fail
    refine Calls.mono (show Calls _ _ _ _ _ from hN.out) ?_
    rintro e w2 ⟨rfl, hb2⟩
    have hN0 := new_bad q QA cq w2 hH.out.2.2.2.2.2 (hW1.out.1.below hb2) hEH.out.2
    rw [hEH.out.1] at hN0
    have hb2H : Hid (Below W0.heap.size W0 w2) := hW1.out.2.trans (hb2.mono hW1.out.2.size)
    clear hN hb2
    have hN : Hid _ := hN0
    clear hN0
    go_wp2_with fail
    refine Calls.mono (show Calls _ _ _ _ _ from hN.out) ?_
    rintro e w3 ⟨rfl, hb3⟩
    have hfin : Hid (Below w.heap.size w w3) := by
      have h1 := hb2H.out.trans (hb3.mono hb2H.out.size)
      exact hg0.out.below.trans (h1.mono hg0.out.size)
    clear hN hb3
    go_wp2
    go_ret
    exact ⟨by simp, hfin.out⟩
  have hN0 := new_ok q QA cq w1 hH.out.2.2.2.2.2 hW1.out.1 he
  have hN : Hid _ := hN0
  have heH : Hid (errQ q = 0) := he
  clear hN0 he
  go_wp2_with fail
  refine Calls.mono (show Calls _ _ _ _ _ from hN.out) ?_
  rintro e w2 ⟨V, q1, Q1, c1, rfl, n1, n2, n3, n4⟩
  have hW2 : Hid (q1.map bare = q.map bare ∧ Vw w2 V q1 Q1 c1 [] none 0 [] none 0 ∧ W0.heap.size ≤ V ∧ Below W0.heap.size W0 w2 ∧ Stps w2 QA q) := ⟨n1, n2, Nat.le_trans hW1.out.2.size n3, hW1.out.2.trans (n4.mono hW1.out.2.size), hW1.out.1.below n4⟩
  clear hN n1 n2 n3 n4 hW1
  have hN0 := new_ok q QA cq w2 hH.out.2.2.2.2.2 hW2.out.2.2.2.2 heH.out
  have hN : Hid _ := hN0
  clear hN0
  go_wp2_with fail
  refine Calls.mono (show Calls _ _ _ _ _ from hN.out) ?_
  rintro e w3 ⟨U, q2, Q2, c2, rfl, n1, n2, n3, n4⟩
  have hW3 : Hid (q1.map bare = q2.map bare ∧ Vw w3 V q1 Q1 c1 [] none 0 [] none 0 ∧ Vw w3 U q2 Q2 c2 [] none 0 [] none 0 ∧ W0.heap.size ≤ V ∧ W0.heap.size ≤ U ∧ U ≠ V ∧ Below W0.heap.size W0 w3) := ⟨hW2.out.1.trans n1.symm, hW2.out.2.1.below n4, n2, hW2.out.2.2.1, Nat.le_trans hW2.out.2.2.2.1.size n3, fun e => by have := hW2.out.2.1.lt; omega, hW2.out.2.2.2.1.trans (n4.mono hW2.out.2.2.2.1.size)⟩
  clear hN n1 n2 n3 n4 hW2
  have a0 : w3.cell? ⟨w.heap.size, 0, none⟩ = some (.slice X x.length cx) := (hW3.out.2.2.2.2.2.2.cell (p := ⟨w.heap.size, 0, none⟩) (by have := hsz.out; show w.heap.size < _; omega)).trans hBx.out.1
  have a2 : w3.cell? ⟨w.heap.size + 1, 0, none⟩ = some (.slice S s.length cs) := (hW3.out.2.2.2.2.2.2.cell (p := ⟨w.heap.size + 1, 0, none⟩) hsz.out).trans hBx.out.2.2.1
  obtain ⟨E1, hE1⟩ : ∃ E, addE (x.map Itm.z) (s.map Itm.z) = E := ⟨_, rfl⟩
  obtain ⟨E2, hE2⟩ : ∃ E, addE (y.map Itm.z) (t.map Itm.z) = E := ⟨_, rfl⟩
  have hL3 : Hid (Lv w3 X cx x ∧ Lv w3 Y cy y ∧ Lv w3 S cs s ∧ Lv w3 T ct t) := ⟨hH.out.2.1.below hW3.out.2.2.2.2.2.2, hH.out.2.2.1.below hW3.out.2.2.2.2.2.2, hH.out.2.2.2.1.below hW3.out.2.2.2.2.2.2, hH.out.2.2.2.2.1.below hW3.out.2.2.2.2.2.2⟩
  have hA0 := addV hL3.out.1 hL3.out.2.2.1 rfl rfl
  rw [hE1] at hA0
  have hA : Hid _ := hA0
  have hEs : Hid (addE (x.map Itm.z) (s.map Itm.z) = E1 ∧ addE (y.map Itm.z) (t.map Itm.z) = E2) := ⟨hE1, hE2⟩
  clear hA0 hE1 hE2
  go_wp2_with fail
  refine Calls.mono (show Calls _ _ _ _ _ from hA.out) ?_
  rintro e w4 ⟨P, PA, pc, rfl, p1, p2, p3⟩
  have hW4 : Hid (Vw w4 V q1 Q1 c1 [] none 0 [] none 0 ∧ Vw w4 U q2 Q2 c2 [] none 0 [] none 0 ∧ Below W0.heap.size W0 w4 ∧ Lv w4 PA pc P ∧ P.map Itm.z = addL (x.map Itm.z) (s.map Itm.z)) := ⟨hW3.out.2.1.below p3, hW3.out.2.2.1.below p3, hW3.out.2.2.2.2.2.2.trans (p3.mono hW3.out.2.2.2.2.2.2.size), p2, p1⟩
  have hL4 : Hid (Lv w4 X cx x ∧ Lv w4 Y cy y ∧ Lv w4 S cs s ∧ Lv w4 T ct t) := ⟨hL3.out.1.below p3, hL3.out.2.1.below p3, hL3.out.2.2.1.below p3, hL3.out.2.2.2.below p3⟩
  clear hA p1 p2 p3 a0 a2 hL3
  have a1 : w4.cell? ⟨w.heap.size, 1, none⟩ = some (.slice Y y.length cy) := (hW4.out.2.2.1.cell (p := ⟨w.heap.size, 1, none⟩) (by have := hsz.out; show w.heap.size < _; omega)).trans hBx.out.2.1
  have a3 : w4.cell? ⟨w.heap.size + 1, 1, none⟩ = some (.slice T t.length ct) := (hW4.out.2.2.1.cell (p := ⟨w.heap.size + 1, 1, none⟩) hsz.out).trans hBx.out.2.2.2
  have hA0 := addV hL4.out.2.1 hL4.out.2.2.2 rfl rfl
  rw [hEs.out.2] at hA0
  have hA : Hid _ := hA0
  clear hA0
  go_wp2_with fail
  refine Calls.mono (show Calls _ _ _ _ _ from hA.out) ?_
  rintro e w5 ⟨R, RA, rc, rfl, p1, p2, p3⟩
  have hW5 : Hid (Vw w5 V q1 Q1 c1 [] none 0 [] none 0 ∧ Vw w5 U q2 Q2 c2 [] none 0 [] none 0 ∧ Below W0.heap.size W0 w5 ∧ Lv w5 PA pc P ∧ P.map Itm.z = addL (x.map Itm.z) (s.map Itm.z) ∧ Lv w5 RA rc R ∧ R.map Itm.z = addL (y.map Itm.z) (t.map Itm.z)) := ⟨hW4.out.1.below p3, hW4.out.2.1.below p3, hW4.out.2.2.1.trans (p3.mono hW4.out.2.2.1.size), hW4.out.2.2.2.1.below p3, hW4.out.2.2.2.2, p2, p1⟩
  have hL5 : Hid (Lv w5 X cx x ∧ Lv w5 Y cy y ∧ Lv w5 S cs s ∧ Lv w5 T ct t) := ⟨hL4.out.1.below p3, hL4.out.2.1.below p3, hL4.out.2.2.1.below p3, hL4.out.2.2.2.below p3⟩
  clear hA p1 p2 p3 a1 a3 hL4 hW4
  have a0 : w5.cell? ⟨w.heap.size, 0, none⟩ = some (.slice X x.length cx) := (hW5.out.2.2.1.cell (p := ⟨w.heap.size, 0, none⟩) (by have := hsz.out; show w.heap.size < _; omega)).trans hBx.out.1
  have a1 : w5.cell? ⟨w.heap.size, 1, none⟩ = some (.slice Y y.length cy) := (hW5.out.2.2.1.cell (p := ⟨w.heap.size, 1, none⟩) (by have := hsz.out; show w.heap.size < _; omega)).trans hBx.out.2.1
  obtain ⟨E3, hE3⟩ : ∃ E, fedE q1 [] [] (x.map Itm.z) (y.map Itm.z) = E := ⟨_, rfl⟩
  have hF0 := feed_either w5 V q1 Q1 c1 [] none 0 [] none 0 hW5.out.1 x y X Y cx cy hL5.out.1 hL5.out.2.1 hE3
  have hF : Hid _ := hF0
  have hE3H : Hid (fedE q1 [] [] (x.map Itm.z) (y.map Itm.z) = E3) := hE3
  clear hF0 hE3
  go_wp2_with fail
  refine Calls.mono (show Calls _ _ _ _ _ from hF.out) ?_
  rintro e w6 ⟨L1, D1, k1, a6, A6, ca6, b6, B6, cb6, rfl, f1, f2, f3, f4, f5, f6⟩
  have hW6 : Hid ((E3 = 0 → a6.map Itm.z = addL [] (x.map Itm.z) ∧ b6.map Itm.z = addL [] (y.map Itm.z)) ∧ Vw w6 V q1 Q1 c1 a6 A6 ca6 b6 B6 cb6 ∧ Vw w6 U q2 Q2 c2 [] none 0 [] none 0 ∧ Below W0.heap.size W0 w6 ∧ Lv w6 PA pc P ∧ P.map Itm.z = addL (x.map Itm.z) (s.map Itm.z) ∧ Lv w6 RA rc R ∧ R.map Itm.z = addL (y.map Itm.z) (t.map Itm.z) ∧ Lv w6 S cs s ∧ Lv w6 T ct t) :=
    ⟨fun e => (f1 e).2, f3, hW5.out.2.1.other hW5.out.1.slo hW3.out.2.2.2.2.2.1 f4, hW5.out.2.2.1.trans (grown_below f4 hW3.out.2.2.2.1 hW5.out.2.2.1.size), hW5.out.1.slo.keep hW5.out.2.2.2.1 f4, hW5.out.2.2.2.2.1, hW5.out.1.slo.keep hW5.out.2.2.2.2.2.1 f4, hW5.out.2.2.2.2.2.2, hW5.out.1.slo.keep hL5.out.2.2.1 f4, hW5.out.1.slo.keep hL5.out.2.2.2 f4⟩
  clear hF f1 f2 f3 f4 f5 f6 a0 a1 hL5 hW5
  have a2 : w6.cell? ⟨w.heap.size + 1, 0, none⟩ = some (.slice S s.length cs) := (hW6.out.2.2.2.1.cell (p := ⟨w.heap.size + 1, 0, none⟩) hsz.out).trans hBx.out.2.2.1
  have a3 : w6.cell? ⟨w.heap.size + 1, 1, none⟩ = some (.slice T t.length ct) := (hW6.out.2.2.2.1.cell (p := ⟨w.heap.size + 1, 1, none⟩) hsz.out).trans hBx.out.2.2.2
  obtain ⟨E4, hE4⟩ : ∃ E, fedE q1 (a6.map Itm.z) (b6.map Itm.z) (s.map Itm.z) (t.map Itm.z) = E := ⟨_, rfl⟩
  have hF0 := feed_either w6 V q1 Q1 c1 a6 A6 ca6 b6 B6 cb6 hW6.out.2.1 s t S T cs ct hW6.out.2.2.2.2.2.2.2.2.1 hW6.out.2.2.2.2.2.2.2.2.2 hE4
  have hF : Hid _ := hF0
  have hE4H : Hid (fedE q1 (a6.map Itm.z) (b6.map Itm.z) (s.map Itm.z) (t.map Itm.z) = E4) := hE4
  clear hF0 hE4
  go_wp2_with fail
  refine Calls.mono (show Calls _ _ _ _ _ from hF.out) ?_
  rintro e w7 ⟨L2, D2, k2, a7, A7, ca7, b7, B7, cb7, rfl, f1, f2, f3, f4, f5, f6⟩
  have hW7 : Hid ((E4 = 0 → a7.map Itm.z = addL (a6.map Itm.z) (s.map Itm.z) ∧ b7.map Itm.z = addL (b6.map Itm.z) (t.map Itm.z)) ∧ Vw w7 V q1 Q1 c1 a7 A7 ca7 b7 B7 cb7 ∧ Vw w7 U q2 Q2 c2 [] none 0 [] none 0 ∧ Below W0.heap.size W0 w7 ∧ Lv w7 PA pc P ∧ P.map Itm.z = addL (x.map Itm.z) (s.map Itm.z) ∧ Lv w7 RA rc R ∧ R.map Itm.z = addL (y.map Itm.z) (t.map Itm.z)) :=
    ⟨fun e => (f1 e).2, f3, hW6.out.2.2.1.other hW6.out.2.1.slo hW3.out.2.2.2.2.2.1 f4, hW6.out.2.2.2.1.trans (grown_below f4 hW3.out.2.2.2.1 hW6.out.2.2.2.1.size), hW6.out.2.1.slo.keep hW6.out.2.2.2.2.1 f4, hW6.out.2.2.2.2.2.1, hW6.out.2.1.slo.keep hW6.out.2.2.2.2.2.2.1 f4, hW6.out.2.2.2.2.2.2.2.1⟩
  have hB7 : Hid (Below w.heap.size w w7) := hg0.out.below.trans (hW7.out.2.2.2.1.mono hg0.out.size)
  clear hF f1 f2 f3 f4 f5 f6 a2 a3
  cases h1 : (E1 != 0)
  rotate_left
  focus
    go_wp2
    go_ret
    exact ⟨rfl, hB7.out⟩
  cases h2 : (E2 != 0)
  rotate_left
  focus
    go_wp2
    go_ret
    exact ⟨rfl, hB7.out⟩
  cases h3 : (E3 != 0)
  rotate_left
  focus
    go_wp2
    go_ret
    exact ⟨rfl, hB7.out⟩
  cases h4 : (E4 != 0)
  rotate_left
  focus
    go_wp2
    go_ret
    exact ⟨rfl, hB7.out⟩
  have hz : Hid (E1 = 0 ∧ E2 = 0 ∧ E3 = 0 ∧ E4 = 0) := ⟨by simpa using h1, by simpa using h2, by simpa using h3, by simpa using h4⟩
  have hab6 := hW6.out.1 hz.out.2.2.1
  have hab7 := hW7.out.1 hz.out.2.2.2
  have hE4' := hE4H.out
  rw [hab6.1, hab6.2, hz.out.2.2.2] at hE4'
  have hpf := parts_fed hW3.out.1 (hEs.out.1.trans hz.out.1) (hEs.out.2.trans hz.out.2.1) (hE3H.out.trans hz.out.2.2.1) hE4'
  have hfe : fedE q2 (([] : List Itm).map Itm.z) (([] : List Itm).map Itm.z) (P.map Itm.z) (R.map Itm.z) = 0 := by rw [hW7.out.2.2.2.2.2.1, hW7.out.2.2.2.2.2.2.2]; exact hpf.1
  have hF0 := feed_ok w7 U q2 Q2 c2 [] none 0 [] none 0 hW7.out.2.2.1 P R PA RA pc rc hW7.out.2.2.2.2.1 hW7.out.2.2.2.2.2.2.1 hfe
  have hF : Hid _ := hF0
  have hpH : Hid (evlF q1 (a7.map Itm.z) (b7.map Itm.z) = evlF q2 (addL [] (P.map Itm.z)) (addL [] (R.map Itm.z))) := by
    show _ = _
    rw [hab7.1, hab7.2, hab6.1, hab6.2, hW7.out.2.2.2.2.2.1, hW7.out.2.2.2.2.2.2.2]
    exact hpf.2
  clear hF0 hfe hpf hE4' hab6 hab7 hW6
  go_wp2_with fail
  refine Calls.mono (show Calls _ _ _ _ _ from hF.out) ?_
  rintro e w8 ⟨L3, D3, k3, a8, A8, ca8, b8, B8, cb8, rfl, f1, f2, f3, f4, f5, f6, f7⟩
  have hW8 : Hid (Vw w8 V q1 Q1 c1 a7 A7 ca7 b7 B7 cb7 ∧ Vw w8 U q2 Q2 c2 a8 A8 ca8 b8 B8 cb8 ∧ Below W0.heap.size W0 w8 ∧ a8.map Itm.z = addL [] (P.map Itm.z) ∧ b8.map Itm.z = addL [] (R.map Itm.z)) := ⟨hW7.out.2.1.other hW7.out.2.2.1.slo (fun e => hW3.out.2.2.2.2.2.1 e.symm) f5, f4, hW7.out.2.2.2.1.trans (grown_below f5 hW3.out.2.2.2.2.1 hW7.out.2.2.2.1.size), f2, f3⟩
  clear hF f1 f2 f3 f4 f5 f6 f7 hB7 hW7
  have hO0 := allW_any w8 V q1 Q1 c1 a7 A7 ca7 b7 B7 cb7 hW8.out.1
  have hO : Hid _ := hO0
  clear hO0
  go_wp2_with fail
  refine Calls.mono (show Calls _ _ _ _ _ from hO.out) ?_
  rintro e w9 ⟨M, MA, mc, rfl, m1, m2, m3⟩
  have hW9 : Hid (Vw w9 U q2 Q2 c2 a8 A8 ca8 b8 B8 cb8 ∧ Below W0.heap.size W0 w9 ∧ Lv w9 MA mc M ∧ M.map Itm.z = evlF q1 (a7.map Itm.z) (b7.map Itm.z)) := ⟨hW8.out.2.1.below m3, hW8.out.2.2.1.trans (m3.mono hW8.out.2.2.1.size), m2, m1⟩
  clear hO m1 m2 m3
  have hO0 := allW_any w9 U q2 Q2 c2 a8 A8 ca8 b8 B8 cb8 hW9.out.1
  have hO : Hid _ := hO0
  clear hO0
  go_wp2_with fail
  refine Calls.mono (show Calls _ _ _ _ _ from hO.out) ?_
  rintro e w10 ⟨N, NA, nc, rfl, m1, m2, m3⟩
  have hS0 := sameV (hW9.out.2.2.1.below m3) m2 (by rw [hW9.out.2.2.2, m1, hpH.out, hW8.out.2.2.2.1, hW8.out.2.2.2.2])
  have hS : Hid _ := hS0
  have hB10 : Hid (Below w.heap.size w w10) := by
    have h1 := hW9.out.2.1.trans (m3.mono hW9.out.2.1.size)
    exact hg0.out.below.trans (h1.mono hg0.out.size)
  clear hS0 hO m1 m2 m3
  go_wp2_with fail
  refine Calls.mono (show Calls _ _ _ _ _ from hS.out) ?_
  rintro e w11 ⟨rfl, hg11⟩
  have hfin : Hid (Below w.heap.size w w11) := hB10.out.trans (hg11.below.mono hB10.out.size)
  clear hS hg11
  go_wp2
  go_ret
  exact ⟨rfl, hfin.out⟩
end Go.Proofs.Ytkmhofkchnhpdaa
