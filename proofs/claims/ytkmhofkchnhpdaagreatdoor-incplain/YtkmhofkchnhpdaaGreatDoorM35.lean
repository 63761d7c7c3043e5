/-
  viewkeep.kept0.
  The library's strconv.Itoa: where its functions and types stand in this program.
-/
import Derived.Test.YtkmhofkchnhpdaaGreatDoorM34
import Derived.Shelf.Strconv.Itoa3
import Derived.Test.YtkmhofkchnhpdaaGreatDoorProg
namespace Go.Proofs.YtkmhofkchnhpdaaGreatDoor
open Go.RowKit Go.Sort Go.Maps

def kepW (w : World) : World := w.alloc (.cells #[.int .i64 1, .int .i64 0, .int .i64 0, .int .i64 0, .int .i64 0, .int .i64 0, .slice none 0 0, .int .i64 8, .int .i64 0, .int .i64 0, .int .i64 1, .int .i64 0, .int .i64 0, .slice none 0 0] 41)
theorem kep_q (w : World) : Stps (kepW w) (some ⟨w.heap.size, 0, none⟩) cntQ := by
  refine ⟨row_lit encQ_len rfl (Gr.refl _) rfl, fun s hs => ?_⟩
  rcases List.mem_cons.1 hs with e | e
  · rw [e]; exact ⟨Or.inl rfl, by simp [maxLen], fun _ => rfl⟩
  · rw [List.mem_singleton.1 e]; exact ⟨Or.inl rfl, by simp [maxLen], fun _ => rfl⟩
theorem kep_e : errQ cntQ = 0 ∧ fedE cntQ [] [] [([1, 5, 0, 0], 1)] [] = 0 ∧ fedE cntQ (addL [] [([1, 5, 0, 0], 1)]) (addL [] []) [([2, 5, 0, 0], 1)] [] = 0 ∧ difL (evlF cntQ (addL (addL [] [([1, 5, 0, 0], 1)]) [([2, 5, 0, 0], 1)]) (addL (addL [] []) [])) (evlF cntQ (addL [] [([1, 5, 0, 0], 1)]) (addL [] [])) = [([5, 1], -1), ([5, 2], 1)] := by decide +kernel
/-- A list of one item with a row of its own. -/
theorem one_lv (w : World) (r : List Int) (n : Int) (hr : r.length ≤ 8) (cs : Array Value) (hc : flatG encI r = cs.toList) : Lv ((w.alloc (.cells cs 3)).alloc (.cells #[.slice (some ⟨w.heap.size, 0, none⟩) r.length r.length, .int .i64 n] 43)) (some ⟨w.heap.size + 1, 0, none⟩) 1 [⟨some ⟨w.heap.size, 0, none⟩, r.length, r, n⟩] := by
  refine ⟨⟨row_lit encT_len (by simp) (Gr.refl _) rfl, fun x hx => ?_⟩, NilC.mk (fun h => by cases h) (by simp), by simp [maxLen]⟩
  rw [List.mem_singleton.1 hx]
  exact ⟨row_lit encI_len rfl ((Gr.refl _).alloc _) hc, Nat.le_trans hr (by decide), fun h => by cases h⟩

set_option maxRecDepth 100000 in
set_option maxHeartbeats 1000000 in
theorem kept_any (w : World) : Calls Tryz.prog 4 #[] w fun e w' => e = .returned (.bool true) ∧ Below w.heap.size w w' := by
  have hC0 := new_ok cntQ (some ⟨w.heap.size, 0, none⟩) 2 (kepW w) (by simp [cntQ, maxLen]) (kep_q w) kep_e.1
  have hC : Hid _ := hC0
  clear hC0
  have hgK : Hid (Gr w (kepW w)) := (Gr.refl _).alloc _
  go_enter Tryz.func4, Tryz.ntmps4
  go_wp2_with fail
  refine Calls.mono (show Calls _ _ _ _ _ from hC.out) ?_
  rintro e w1 ⟨V, q, QA, cq, rfl, h1, h2, h3, h4⟩
  have hV : Hid (q.map bare = cntQ.map bare ∧ Vw w1 V q QA cq [] none 0 [] none 0 ∧ w.heap.size ≤ V ∧ Below w.heap.size w w1) := ⟨h1, h2, Nat.le_trans hgK.out.size h3, hgK.out.below.trans (h4.mono hgK.out.size)⟩
  clear hC h1 h2 h3 h4 hgK
  have hF0 := feed_ok _ V q QA cq [] none 0 [] none 0 (hV.out.2.1.gr (((Gr.refl w1).alloc _).alloc _)) _ [] _ none 1 0 (one_lv w1 [1, 5, 0, 0] 1 (by simp) #[.int .i64 1, .int .i64 5, .int .i64 0, .int .i64 0] rfl) (lv_nil _) (by rw [same_fedE hV.out.1]; exact kep_e.2.1)
  have hF : Hid _ := hF0
  clear hF0
  have hgA : Hid (Gr w1 ((w1.alloc (.cells #[.int .i64 1, .int .i64 5, .int .i64 0, .int .i64 0] 3)).alloc (.cells #[.slice (some ⟨w1.heap.size, 0, none⟩) 4 4, .int .i64 1] 43))) := ((Gr.refl _).alloc _).alloc _
  go_wp2_with fail
  refine Calls.mono (show Calls _ _ _ _ _ from hF.out) ?_
  rintro e w2 ⟨L, C, k, a1, A1, ca1, b1, B1, cb1, rfl, h1, h2, h3, h4, h5, h6, h7⟩
  have hW : Hid (a1.map Itm.z = addL [] [([1, 5, 0, 0], 1)] ∧ b1.map Itm.z = addL [] [] ∧ Vw w2 V q QA cq a1 A1 ca1 b1 B1 cb1 ∧ Below w.heap.size w w2) := ⟨h2, h3, h4, (hV.out.2.2.2.trans (hgA.out.below.mono hV.out.2.2.2.size)).trans (grown_below h5 hV.out.2.2.1 (Nat.le_trans hV.out.2.2.2.size hgA.out.size))⟩
  clear hF h1 h2 h3 h4 h5 h6 h7 hgA
  have hF0 := feed_ok _ V q QA cq a1 A1 ca1 b1 B1 cb1 (hW.out.2.2.1.gr (((Gr.refl w2).alloc _).alloc _)) _ [] _ none 1 0 (one_lv w2 [2, 5, 0, 0] 1 (by simp) #[.int .i64 2, .int .i64 5, .int .i64 0, .int .i64 0] rfl) (lv_nil _) (by rw [same_fedE hV.out.1, hW.out.1, hW.out.2.1]; exact kep_e.2.2.1)
  have hF : Hid _ := hF0
  clear hF0
  have hgA : Hid (Gr w2 ((w2.alloc (.cells #[.int .i64 2, .int .i64 5, .int .i64 0, .int .i64 0] 3)).alloc (.cells #[.slice (some ⟨w2.heap.size, 0, none⟩) 4 4, .int .i64 1] 43))) := ((Gr.refl _).alloc _).alloc _
  go_wp2_with fail
  refine Calls.mono (show Calls _ _ _ _ _ from hF.out) ?_
  rintro e w3 ⟨L2, C2, k2, a2, A2, ca2, b2, B2, cb2, rfl, h1, h2, h3, h4, h5, h6, h7⟩
  have hL : Hid (L2.map Itm.z = [([5, 1], -1), ([5, 2], 1)] ∧ Lv w3 C2 k2 L2 ∧ Below w.heap.size w w3) := by
    refine ⟨?_, h6, (hW.out.2.2.2.trans (hgA.out.below.mono hW.out.2.2.2.size)).trans (grown_below h5 hV.out.2.2.1 (Nat.le_trans hW.out.2.2.2.size hgA.out.size))⟩
    rw [h1, h2, h3, same_evlF hV.out.1, same_evlF hV.out.1, hW.out.1, hW.out.2.1]
    exact kep_e.2.2.2
  clear hF h1 h2 h3 h4 h5 h6 h7 hgA
  have hS0 := sameV (W := (((w3.alloc (.cells #[.int .i64 5, .int .i64 1] 3)).alloc (.cells #[.int .i64 5, .int .i64 2] 3)).alloc (.cells #[.slice (some ⟨w3.heap.size, 0, none⟩) 2 2, .int .i64 (-1), .slice (some ⟨w3.heap.size + 1, 0, none⟩) 2 2, .int .i64 1] 43))) (A := C2) (c := k2) (l := L2) (B := some ⟨w3.heap.size + 1 + 1, 0, none⟩) (d := 2) (r := [⟨some ⟨w3.heap.size, 0, none⟩, 2, [5, 1], -1⟩, ⟨some ⟨w3.heap.size + 1, 0, none⟩, 2, [5, 2], 1⟩]) (hL.out.2.1.gr ((((Gr.refl _).alloc _).alloc _).alloc _)) ⟨⟨row_lit encT_len (by simp) (Gr.refl _) rfl, fun x hx => by
    rcases List.mem_cons.1 hx with e | e
    · rw [e]; exact ⟨row_lit encI_len rfl (((Gr.refl _).alloc _).alloc _) rfl, by simp [maxLen], fun h => by cases h⟩
    · rw [List.mem_singleton.1 e]; exact ⟨row_lit encI_len (by simp) ((Gr.refl _).alloc _) rfl, by simp [maxLen], fun h => by cases h⟩⟩, NilC.mk (fun h => by cases h) (by simp), by simp [maxLen]⟩ (by rw [hL.out.1]; rfl)
  have hS : Hid _ := hS0
  clear hS0
  go_wp2_with fail
  refine Calls.mono (show Calls _ _ _ _ _ from hS.out) ?_
  rintro e w4 ⟨rfl, hg4⟩
  have hB : Hid (Below w.heap.size w w4) := hL.out.2.2.trans ((((((Gr.refl w3).alloc _).alloc _).alloc _).trans hg4).below.mono hL.out.2.2.size)
  clear hS hg4
  go_wp2
  go_ret
  exact ⟨rfl, hB.out⟩
end Go.Proofs.YtkmhofkchnhpdaaGreatDoor

namespace Go.Proofs
open Go.Shelf
def Tryz.lays171_ren : Go.Shelf.Ren := ⟨fun | 171 => 34 | 243 => 42 | 246 => 70 | 283 => 94 | 284 => 95 | 285 => 96 | 286 => 97 | 129 => 52 | 317 => 104 | 318 => 105 | 319 => 106 | 320 => 107 | 337 => 109 | 338 => 110 | n => n, fun | 3 => 3 | 9 => 9 | 2 => 2 | 4 => 4 | 171 => 131 | 0 => 0 | 53 => 92 | 37 => 133 | 5 => 5 | 173 => 134 | 212 => 145 | 51 => 90 | 20 => 20 | 213 => 146 | 46 => 76 | 232 => 147 | 233 => 148 | n => n, fun | 17 => 0 | 18 => 2 | 19 => 3 | n => n⟩
theorem Tryz.lays171 : Go.Proofs.LaysM.n171 Tryz.prog Tryz.lays171_ren := {
  mixed := by kernel_rfl
  f129 := Tryz.func52.trans (congrArg some (by kernel_rfl))
  f171 := Tryz.func34.trans (congrArg some (by kernel_rfl))
  f243 := Tryz.func42.trans (congrArg some (by kernel_rfl))
  f246 := Tryz.func70.trans (congrArg some (by kernel_rfl))
  f283 := Tryz.func94.trans (congrArg some (by kernel_rfl))
  f284 := Tryz.func95.trans (congrArg some (by kernel_rfl))
  f285 := Tryz.func96.trans (congrArg some (by kernel_rfl))
  f286 := Tryz.func97.trans (congrArg some (by kernel_rfl))
  f317 := Tryz.func104.trans (congrArg some (by kernel_rfl))
  f318 := Tryz.func105.trans (congrArg some (by kernel_rfl))
  f319 := Tryz.func106.trans (congrArg some (by kernel_rfl))
  f320 := Tryz.func107.trans (congrArg some (by kernel_rfl))
  f337 := Tryz.func109.trans (congrArg some (by kernel_rfl))
  f338 := Tryz.func110.trans (congrArg some (by kernel_rfl))
  t0 := Tryz.underlying0
  a0 := Tryz.isAgg0
  z0 := Tryz.sizeOf0
  v0 := Tryz.zeroValue0
  t2 := Tryz.underlying2
  a2 := Tryz.isAgg2
  z2 := Tryz.sizeOf2
  v2 := Tryz.zeroValue2
  t3 := Tryz.underlying3
  a3 := Tryz.isAgg3
  z3 := Tryz.sizeOf3
  v3 := Tryz.zeroValue3
  t4 := Tryz.underlying4
  a4 := Tryz.isAgg4
  z4 := Tryz.sizeOf4
  v4 := Tryz.zeroValue4
  t5 := Tryz.underlying5
  a5 := Tryz.isAgg5
  z5 := Tryz.sizeOf5
  v5 := Tryz.zeroValue5
  t9 := Tryz.underlying9
  a9 := Tryz.isAgg9
  z9 := Tryz.sizeOf9
  v9 := Tryz.zeroValue9
  t20 := Tryz.underlying20
  a20 := Tryz.isAgg20
  z20 := Tryz.sizeOf20
  v20 := Tryz.zeroValue20
  t37 := Tryz.underlying133
  a37 := Tryz.isAgg133
  z37 := Tryz.sizeOf133
  v37 := Tryz.zeroValue133
  t46 := Tryz.underlying76
  a46 := Tryz.isAgg76
  z46 := Tryz.sizeOf76
  v46 := Tryz.zeroValue76
  t51 := Tryz.underlying90
  a51 := Tryz.isAgg90
  z51 := Tryz.sizeOf90
  v51 := Tryz.zeroValue90
  t53 := Tryz.underlying92
  a53 := Tryz.isAgg92
  z53 := Tryz.sizeOf92
  v53 := Tryz.zeroValue92
  t171 := Tryz.underlying131
  a171 := Tryz.isAgg131
  z171 := Tryz.sizeOf131
  v171 := Tryz.zeroValue131
  t173 := Tryz.underlying134
  a173 := Tryz.isAgg134
  z173 := Tryz.sizeOf134
  v173 := Tryz.zeroValue134
  t212 := Tryz.underlying145
  a212 := Tryz.isAgg145
  z212 := Tryz.sizeOf145
  v212 := Tryz.zeroValue145
  t213 := Tryz.underlying146
  a213 := Tryz.isAgg146
  z213 := Tryz.sizeOf146
  t232 := Tryz.underlying147
  a232 := Tryz.isAgg147
  z232 := Tryz.sizeOf147
  v232 := Tryz.zeroValue147
  t233 := Tryz.underlying148
  a233 := Tryz.isAgg148
  z233 := Tryz.sizeOf148
  v233 := Tryz.zeroValue148
  g17 := by kernel_rfl
  g18 := by kernel_rfl
  g19 := by kernel_rfl
  i0 := by kernel_rfl
  i2 := by kernel_rfl
  i3 := by kernel_rfl
  i4 := by kernel_rfl
  i5 := by kernel_rfl
  i9 := by kernel_rfl
  i20 := by kernel_rfl
  i37 := by kernel_rfl
  i46 := by kernel_rfl
  i51 := by kernel_rfl
  i53 := by kernel_rfl
  i171 := by kernel_rfl
  i173 := by kernel_rfl
  i212 := by kernel_rfl
  i232 := by kernel_rfl
  i233 := by kernel_rfl
  m17 := by kernel_rfl
  m18 := by kernel_rfl
  m19 := by kernel_rfl }
end Go.Proofs
