/-
  plain.count.
  plain.sumAt.
  plain.sum.
-/
import Derived.Test.YtmoicbmhjmdgdaaGreatM25
import Derived.Deep.RegionHeld3
import Derived.Deep.Cut
namespace Go.Proofs.YtmoicbmhjmdgdaaGreat
open Go.RowKit Go.Sort Go.Maps

theorem cnt_take {gs : List Grp} {k : Nat} (h : k < gs.length) : ((gs.take (k + 1)).map Grp.z).filterMap cntG = ((gs.take k).map Grp.z).filterMap cntG ++ (if timesL (gs[k].l.map Itm.z) = 0 then [] else [([gs[k].n, timesL (gs[k].l.map Itm.z)], 1)]) := by
 rw [List.take_succ_eq_append_getElem h, List.map_append, List.filterMap_append]
 congr 1
 by_cases e : timesL (gs[k].l.map Itm.z) = 0
 ·rw [if_pos e]; simp [cntG, Grp.z, e]
 ·rw [if_neg e]; simp [cntG, Grp.z, e]
theorem rowNew2 {W : World} {n : Nat} (hn : W.heap.size = n) (a b : Int) (T : TypeId) : RowI (W.alloc (.cells #[.int .i64 a, .int .i64 b] T)) (some ⟨n, 0, none⟩) [a, b] := by
 subst hn
 refine Or.inr ⟨W.heap.size, 0, rfl, by simp, fun j hj i hi => ?_⟩
 obtain rfl : i = 0 := by omega
 have hj' : j = 0 ∨ j = 1 := by simp at hj; omega
 rcases hj' with rfl | rfl
 ·exact box1 (w := W) (Gr.refl _) (j := 0) rfl
 ·exact box1 (w := W) (Gr.refl _) (j := 1) rfl
/-- A group's items, as a list that lies in memory. -/
theorem GInv.items {w wr W : World} {l : List Itm} {c : Int} {k : Nat} {u : Value} {gs : List Grp} {D : DataW Unit} {A : Option Addr} (h : GInv w wr l c k u gs D) (hr : Items w A l) (hW : Below wr.heap.size wr W) {g : Grp} (hg : g ∈ gs) : Items W g.p g.l := by
 obtain ⟨A2, cp, hv, _, hrow, _⟩ := ((h.gps.each g hg).below hW).row encT_len
 have e : g.p = A2 := by
  have h3 := hv
  unfold Grp.v at h3
  simp at h3
  exact h3.1
 rw [e]
 exact ⟨hrow, fun x hx => ((hr.below h.bel).below hW).each x ((h.sub g hg).2 x hx)⟩

set_option maxRecDepth 100000 in
set_option maxHeartbeats 1000000 in
theorem count_any (l : List Itm) (A : Option Addr) (cap : Nat) (c : Int) (w : World) (hl : l.length ≤ 400) (hr : Items w A l) (hc : ∀ x ∈ l, inB c 0 ((x.r.length : Int) - 1) = true) (hok : ∀ x ∈ l, okR x.r = true ∧ okW x.n = true) :
  Calls Tryz.prog 97 #[.slice A l.length cap, .int .i64 c] w fun e w' => ∃ (L : List Itm) (C : Option Addr) (k : Nat), e = .returned (.slice C L.length k) ∧ L.map Itm.z = countL (l.map Itm.z) c ∧ Lv w' C k L ∧ L.length ≤ 400 ∧ Below w.heap.size w w' := by
 have hrH : Hid (Items w A l ∧ (∀ x ∈ l, okW x.n = true)) := ⟨hr, fun x hx => (hok x hx).2⟩
 have hG : Hid _ := groups_any l A cap c w hl hr hc (fun x hx => (hok x hx).1)
 clear hr hc hok
 go_enter Tryz.func97, Tryz.ntmps97
 go_wp2_with fail
 refine Calls.mono (show Calls _ _ _ _ _ from hG.out) ?_
 rintro e w1 ⟨gs, v, D, rfl, hR0⟩
 clear hG
 have hR : Hid (GInv w w1 l c l.length v gs D) := hR0
 obtain ⟨GA, gcap, hv, _, hrow, _⟩ := hR.out.gps.own.row encP_len
 have hrw : Hid (RowG encP 2 w1 GA gs) := hrow
 subst hv
 clear hR0 hrow
 have hgl : gs.length ≤ 400 := Nat.le_trans hR.out.len hl
 go_wp2
 go_loopw [5, 19] (fun u i wr => ∃ (k : Nat) (L : List Itm), k ≤ gs.length ∧ i = .int .i64 k ∧ Hid (L.length ≤ k ∧ L.map Itm.z = ((gs.take k).map Grp.z).filterMap cntG ∧ OwnT wr w1.heap.size u L ∧ Below w1.heap.size w1 wr)) (fun _ i _ => gs.length - (intOf i).toNat)
 case atStart => exact ⟨0, [], Nat.zero_le _, rfl, Nat.le_refl _, rfl, OwnT.nil _ _, Below.refl _ _⟩
 case round =>
  obtain ⟨k, L, hk, rfl, hS⟩ := hrel
  by_cases hlt : k < gs.length
  ·have hltz : (k : Int) < (gs.length : Int) := by omega
   obtain ⟨bb, off, rfl, hb, hcs⟩ := (hrw.out.below hS.out.2.2.2).at hlt
   obtain ⟨g, hg⟩ : ∃ g, gs[k] = g := ⟨_, rfl⟩
   have e0 : wr.cell? ⟨bb, off + k * 2, none⟩ = some (.int .i64 g.n) := by have := hcs k hlt 0 (by omega); rw [hg] at this; simpa [encP] using this
   have e1 : wr.cell? ⟨bb, off + k * 2 + 1, none⟩ = some (.slice g.p g.l.length g.c) := by have := hcs k hlt 1 (by omega); rw [hg] at this; simpa [encP, Grp.v] using this
   have hgm : Hid (g ∈ gs) := by show _ ∈ _; rw [← hg]; exact List.getElem_mem hlt
   have hst : Hid (((gs.take (k + 1)).map Grp.z).filterMap cntG = ((gs.take k).map Grp.z).filterMap cntG ++ (if timesL (g.l.map Itm.z) = 0 then [] else [([g.n, timesL (g.l.map Itm.z)], 1)])) := by show _ = _; rw [cnt_take hlt, hg]
   clear hcs hg
   obtain ⟨WX, hWX⟩ : ∃ WX, (wr.alloc (.cells #[.int .i64 g.n, .slice g.p g.l.length g.c] 156)) = WX := ⟨_, rfl⟩
   have hgX : Hid (Gr wr WX) := by show Gr _ _; rw [← hWX]; exact (Gr.refl _).alloc _
   have y0 : WX.cell? ⟨wr.heap.size, 0, none⟩ = some (.int .i64 g.n) := by rw [← hWX]; exact box1 (Gr.refl _) rfl
   have y1 : WX.cell? ⟨wr.heap.size, 1, none⟩ = some (.slice g.p g.l.length g.c) := by rw [← hWX]; exact box1 (Gr.refl _) rfl
   have hsX : wr.heap.size < WX.heap.size := by rw [← hWX]; simp
   have hbX : Hid (Below w1.heap.size w1 WX) := hS.out.2.2.2.trans (hgX.out.below.mono hS.out.2.2.2.size)
   obtain ⟨T, hT⟩ : ∃ T, timesL (g.l.map Itm.z) = T := ⟨_, rfl⟩
   have hcall0 : Calls Tryz.prog 129 #[.slice g.p g.l.length g.c] WX fun e w' => e = .returned (.int .i64 T) ∧ Gr WX w' := by
    rw [← hT]
    have h1 := hR.out.sub g hgm.out
    exact times_any g.l g.p g.c WX (by omega) (fun x hx => hrH.out.2 x (h1.2 x hx)) (hR.out.items hrH.out.1 hbX.out hgm.out)
   have hcall : Hid _ := hcall0
   clear hcall0
   rw [hT] at hst
   clear hT
   cases hq : (T != 0)
   ·have hT0 : T = 0 := by simpa using hq
    go_wp2_with (go_at_call 129; (refine Calls.mono (show Calls _ _ _ _ _ from hcall.out) ?_); rintro e w2 ⟨rfl, hg2⟩)
    have hfin : Hid (L.length ≤ k + 1 ∧ L.map Itm.z = ((gs.take (k + 1)).map Grp.z).filterMap cntG ∧ OwnT w2 w1.heap.size u5 L ∧ Below w1.heap.size w1 w2) :=
     ⟨by have := hS.out.1; omega, by rw [hst.out, if_pos hT0, List.append_nil]; exact hS.out.2.1, (hS.out.2.2.1.gr hgX.out).gr hg2, hbX.out.trans (hg2.below.mono hbX.out.size)⟩
    go_roundw
    case rel => exact ⟨k + 1, L, by omega, by go_num, hfin⟩
    case measure => simp [intOf]; omega
   ·have hT0 : ¬ T = 0 := by simpa using hq
    have hoF : Hid (∀ w2, Gr wr w2 → Below w1.heap.size w1 w2 → OwnT ((w2.alloc (.cells #[.int .i64 g.n, .int .i64 T] 3)).alloc (.cells #[.slice (some ⟨w2.heap.size, 0, none⟩) 2 2, .int .i64 1] 40)) w1.heap.size u5 L ∧ RowG encT 2 ((w2.alloc (.cells #[.int .i64 g.n, .int .i64 T] 3)).alloc (.cells #[.slice (some ⟨w2.heap.size, 0, none⟩) 2 2, .int .i64 1] 40)) (some ⟨w2.heap.size + 1, 0, none⟩) [(⟨some ⟨w2.heap.size, 0, none⟩, 2, [g.n, T], 1⟩ : Itm)] ∧ Apart ((w2.alloc (.cells #[.int .i64 g.n, .int .i64 T] 3)).alloc (.cells #[.slice (some ⟨w2.heap.size, 0, none⟩) 2 2, .int .i64 1] 40)) w1.heap.size u5.ownBlock (⟨some ⟨w2.heap.size, 0, none⟩, 2, [g.n, T], 1⟩ : Itm) ∧ L.length + 1 ≤ maxLen ∧ (L.length + 1) * 32 ≤ 140737488355328 ∧ Below w1.heap.size w1 ((w2.alloc (.cells #[.int .i64 g.n, .int .i64 T] 3)).alloc (.cells #[.slice (some ⟨w2.heap.size, 0, none⟩) 2 2, .int .i64 1] 40))) := fun w2 hg2 hb2 => by
     have hLk := hS.out.1
     have h2 : Gr w2 ((w2.alloc (.cells #[.int .i64 g.n, .int .i64 T] 3)).alloc (.cells #[.slice (some ⟨w2.heap.size, 0, none⟩) 2 2, .int .i64 1] 40)) := ((Gr.refl _).alloc _).alloc _
     refine ⟨(hS.out.2.2.1.gr hg2).gr h2, rowNewT (by simp) (⟨some ⟨w2.heap.size, 0, none⟩, 2, [g.n, T], 1⟩ : Itm) _, ⟨(rowNew2 rfl g.n T _).gr ((Gr.refl _).alloc _), by simp [maxLen], fun h => (by cases h), fun a ha => ⟨?_, ?_, ?_⟩⟩, by unfold maxLen; omega, by omega, hb2.trans (h2.below.mono hb2.size)⟩
     ·cases ha; exact hb2.size
     ·cases ha; simp; omega
     ·cases ha
      intro e
      have h3 := (World.ownsRow.lt hS.out.2.2.1.own w2.heap.size e).2
      have h4 := hg2.size
      omega
    go_wp2_with (first | (go_at_call 129; (refine Calls.mono (show Calls _ _ _ _ _ from hcall.out) ?_); rintro e w2 ⟨rfl, hg2⟩; have y0' : w2.cell? ⟨wr.heap.size, 0, none⟩ = some (.int .i64 g.n) := (hg2.below.cell (p := ⟨wr.heap.size, 0, none⟩) hsX).trans y0; have hbW : Hid (Below w1.heap.size w1 w2 ∧ Gr wr w2) := ⟨hbX.out.trans (hg2.below.mono hbX.out.size), hgX.out.trans hg2⟩; clear hg2; have hoX := hoF.out w2 hbW.out.2 hbW.out.1; have hoH : Hid _ := hoX; clear hoX) | (at_builtin; refine wpList_append_t _ rfl (.tmp 28) (.tmp 34) rfl w1.heap.size u5 L (⟨some ⟨w2.heap.size, 0, none⟩, 2, [g.n, T], 1⟩ : Itm) ⟨w2.heap.size + 1, 0, none⟩ 1 rfl rfl hoH.out.1 hoH.out.2.1 hoH.out.2.2.1 hoH.out.2.2.2.1 hoH.out.2.2.2.2.1 hoH.out.2.2.2.2.2.size ?_; intro v3 w3 hown3 hg3) | fail)
    have hfin : Hid ((L ++ [(⟨some ⟨w2.heap.size, 0, none⟩, 2, [g.n, T], 1⟩ : Itm)]).length ≤ k + 1 ∧ (L ++ [(⟨some ⟨w2.heap.size, 0, none⟩, 2, [g.n, T], 1⟩ : Itm)]).map Itm.z = ((gs.take (k + 1)).map Grp.z).filterMap cntG ∧ OwnT w3 w1.heap.size v3 (L ++ [(⟨some ⟨w2.heap.size, 0, none⟩, 2, [g.n, T], 1⟩ : Itm)]) ∧ Below w1.heap.size w1 w3) :=
     ⟨by have := hS.out.1; simp; omega, by rw [hst.out, if_neg hT0, List.map_append, hS.out.2.1]; rfl, hown3, hoH.out.2.2.2.2.2.trans hg3⟩
    clear hown3 hg3
    go_roundw
    case rel => exact ⟨k + 1, L ++ [(⟨some ⟨w2.heap.size, 0, none⟩, 2, [g.n, T], 1⟩ : Itm)], by omega, by go_num, hfin⟩
    case measure => simp [intOf]; omega
  ·have hltz : ¬ (k : Int) < (gs.length : Int) := by omega
   have hke : gs.take k = gs := List.take_of_length_le (by omega)
   obtain ⟨A2, cap2, hv2, hn2, hit, _⟩ := hS.out.2.2.1.items
   have hlL : L.length ≤ 400 := by have := hS.out.1; omega
   have hfin : Hid (L.map Itm.z = countL (l.map Itm.z) c ∧ Lv wr A2 cap2 L ∧ Below w.heap.size w wr) := by
    refine ⟨?_, ⟨hit, hn2, by unfold maxLen; omega⟩, hR.out.bel.trans (hS.out.2.2.2.mono hR.out.bel.size)⟩
    have := hS.out.2.1
    rw [hke, hR.out.z, List.take_length] at this
    exact this
   subst hv2
   clear hke hit hn2
   go_wp2
   go_ret
   exact ⟨L, A2, cap2, rfl, hfin.out.1, hfin.out.2.1, hlL, hfin.out.2.2⟩
end Go.Proofs.YtmoicbmhjmdgdaaGreat

namespace Go.Proofs.YtmoicbmhjmdgdaaGreat
open Go.RowKit Go.Sort

theorem gr_drewN (w : World) (n : Nat) : Gr w (w.drewN n) := ⟨n, #[], by rw [grow_empty]⟩
theorem sumAtL_append (v : Int) (a b : List Zit) : sumAtL v (a ++ b) = sumAtL v a + sumAtL v b := by
 induction a with
 | nil => simp [sumAtL]
 | cons x a ih => simp only [List.cons_append, sumAtL, ih]; omega
theorem mul_bound {x y : Int} (hx : -1073741824 ≤ x ∧ x ≤ 1073741824) (hy : -1048576 ≤ y ∧ y ≤ 1048576) : -1125899906842624 ≤ x * y ∧ x * y ≤ 1125899906842624 := by
 have h1 : x.natAbs ≤ 1073741824 := by omega
 have h2 : y.natAbs ≤ 1048576 := by omega
 have h3 : (x * y).natAbs ≤ 1073741824 * 1048576 := by rw [Int.natAbs_mul]; exact Nat.mul_le_mul h1 h2
 omega
theorem at_mul {x : Itm} {v : Int} (h : okR x.r = true ∧ okW x.n = true) : -1125899906842624 ≤ atI x.r v * x.n ∧ atI x.r v * x.n ≤ 1125899906842624 := by
 have h1 := okN_at h.1 (c := v)
 have h2 := h.2
 simp only [okN, okW, inB, Bool.and_eq_true, decide_eq_true_eq] at h1 h2
 exact mul_bound h1 h2
theorem sumAtL_bound {l : List Itm} {v : Int} (h : ∀ x ∈ l, okR x.r = true ∧ okW x.n = true) : -((l.length : Int) * 1125899906842624) ≤ sumAtL v (l.map Itm.z) ∧ sumAtL v (l.map Itm.z) ≤ (l.length : Int) * 1125899906842624 := by
 induction l with
 | nil => simp [sumAtL]
 | cons x l ih =>
  have h1 := ih fun y hy => h y (List.mem_cons_of_mem _ hy)
  have h2 := at_mul (v := v) (h x (List.mem_cons_self ..))
  have e : sumAtL v ((x :: l).map Itm.z) = atI x.r v * x.n + sumAtL v (l.map Itm.z) := rfl
  rw [e]
  generalize atI x.r v * x.n = t at h2 ⊢
  simp only [List.length_cons]
  omega
theorem sumAtL_take {l : List Itm} {k : Nat} (h : k < l.length) (v : Int) : sumAtL v ((l.take (k + 1)).map Itm.z) = sumAtL v ((l.take k).map Itm.z) + atI l[k].r v * l[k].n := by
 rw [List.take_succ_eq_append_getElem h, List.map_append, sumAtL_append]
 simp [sumAtL, Itm.z]

set_option maxRecDepth 100000 in
set_option maxHeartbeats 1000000 in
theorem sumAt_any (l : List Itm) (A : Option Addr) (cap : Nat) (v : Int) (w : World) (hl : l.length ≤ 400) (hw : ∀ x ∈ l, okR x.r = true ∧ okW x.n = true) (hc : ∀ x ∈ l, inB v 0 ((x.r.length : Int) - 1) = true) (hr : Items w A l) :
  Calls Tryz.prog 130 #[.slice A l.length cap, .int .i64 v] w fun e w' => e = .returned (.int .i64 (sumAtL v (l.map Itm.z))) ∧ Gr w w' := by
 have hrH : Hid (Items w A l) := hr
 have hwH : Hid ((∀ x ∈ l, okR x.r = true ∧ okW x.n = true) ∧ ∀ x ∈ l, inB v 0 ((x.r.length : Int) - 1) = true) := ⟨hw, hc⟩
 clear hr hw hc
 go_enter Tryz.func130, Tryz.ntmps130
 go_wp2
 go_loopw [5, 10] (fun u i wr => ∃ k : Nat, k ≤ l.length ∧ i = .int .i64 k ∧ u = .int .i64 (sumAtL v ((l.take k).map Itm.z)) ∧ Hid (Gr w wr)) (fun _ i _ => l.length - (intOf i).toNat)
 case atStart => exact ⟨0, Nat.zero_le _, rfl, rfl, Gr.refl _⟩
 case round =>
  obtain ⟨k, hk, rfl, rfl, hg⟩ := hrel
  by_cases hlt : k < l.length
  ·have hltz : (k : Int) < (l.length : Int) := by omega
   have hI : Hid (Items wr A l) := hrH.out.gr hg.out
   obtain ⟨bb, off, rfl, hb, hcs⟩ := hI.out.at hlt
   obtain ⟨x, hx⟩ : ∃ x, l[k] = x := ⟨_, rfl⟩
   obtain ⟨e0, e1⟩ := hcs k hlt
   rw [hx] at e0 e1
   have hxm : x ∈ l := by rw [← hx]; exact List.getElem_mem hlt
   obtain ⟨rb, ro, cn, hp, hrb, hcn, hcl, hcell⟩ := rowI_atI (hI.out.each x hxm).1 (hwH.out.2 x hxm)
   have hst : Hid (sumAtL v ((l.take (k + 1)).map Itm.z) = sumAtL v ((l.take k).map Itm.z) + atI x.r v * x.n) := by show _ = _; rw [sumAtL_take hlt, hx]
   have hbd := sumAtL_bound (l := l.take k) (v := v) (fun y hy => hwH.out.1 y (List.mem_of_mem_take hy))
   have hml := at_mul (v := v) (hwH.out.1 x hxm)
   have hlen : (l.take k).length ≤ 400 := by simp; omega
   obtain ⟨T, hT⟩ : ∃ T, sumAtL v ((l.take k).map Itm.z) = T := ⟨_, rfl⟩
   obtain ⟨nn, hnn⟩ : ∃ nn, atI x.r v = nn := ⟨_, rfl⟩
   rw [hT] at hst hbd ⊢
   rw [hnn] at hcell hst hml
   rw [hp] at e0
   have hw1 : IntKind.i64.wrap (nn * x.n) = nn * x.n := by rw [IntKind.wrap_i64]; omega
   have hw2 : IntKind.i64.wrap (T + nn * x.n) = T + nn * x.n := by rw [IntKind.wrap_i64]; omega
   have hgX : Hid (Gr w (wr.alloc (.cells #[.slice (some ⟨rb, ro, none⟩) x.r.length x.c, .int .i64 x.n] 40))) := hg.out.alloc _
   have y0 : (wr.alloc (.cells #[.slice (some ⟨rb, ro, none⟩) x.r.length x.c, .int .i64 x.n] 40)).cell? ⟨rb, ro + cn, none⟩ = some (.int .i64 nn) := (((Gr.refl _).alloc _).cell (p := ⟨rb, ro + cn, none⟩) hrb).trans hcell
   have hcz : (cn : Int) < (x.r.length : Int) := by omega
   obtain rfl := hcn
   clear hcs hx hxm hnn hp hcell hcl hbd hml hlen hT
   obtain ⟨M, hM⟩ : ∃ M, nn * x.n = M := ⟨_, rfl⟩
   rw [hM] at hw1 hw2 hst
   have hMH : Hid (nn * x.n = M) := hM
   obtain ⟨WX, hWX⟩ : ∃ WX, (wr.alloc (.cells #[.slice (some ⟨rb, ro, none⟩) x.r.length x.c, .int .i64 x.n] 40)) = WX := ⟨_, rfl⟩
   have x0 : WX.cell? ⟨wr.heap.size, 0, none⟩ = some (.slice (some ⟨rb, ro, none⟩) x.r.length x.c) := by rw [← hWX]; exact box1 (Gr.refl _) rfl
   have x1 : WX.cell? ⟨wr.heap.size, 1, none⟩ = some (.int .i64 x.n) := by rw [← hWX]; exact box1 (Gr.refl _) rfl
   rw [hWX] at y0 hgX
   go_wp2
   clear hWX
   go_quiet (fail)
   go_wp2
   go_roundw
   case rel => exact ⟨k + 1, by omega, by go_num, by rw [hst.out], hgX.out.trans (gr_drewN _ _)⟩
   case measure => simp [intOf]; omega
  ·have hltz : ¬ (k : Int) < (l.length : Int) := by omega
   have hke : l.take k = l := List.take_of_length_le (by omega)
   rw [hke]
   clear hke
   go_wp2
   go_ret
   exact ⟨rfl, hg.out⟩
end Go.Proofs.YtmoicbmhjmdgdaaGreat

namespace Go.Proofs.YtmoicbmhjmdgdaaGreat
open Go.RowKit Go.Sort Go.Maps

theorem sum_take {gs : List Grp} {k : Nat} (h : k < gs.length) (v : Int) : ((gs.take (k + 1)).map Grp.z).filterMap (sumG v) = ((gs.take k).map Grp.z).filterMap (sumG v) ++ (if timesL (gs[k].l.map Itm.z) = 0 then [] else [([gs[k].n, sumAtL v (gs[k].l.map Itm.z)], 1)]) := by
 rw [List.take_succ_eq_append_getElem h, List.map_append, List.filterMap_append]
 congr 1
 by_cases e : timesL (gs[k].l.map Itm.z) = 0
 ·rw [if_pos e]; simp [sumG, Grp.z, e]
 ·rw [if_neg e]; simp [sumG, Grp.z, e]

set_option maxRecDepth 100000 in
set_option maxHeartbeats 1000000 in
theorem sumP_any (l : List Itm) (A : Option Addr) (cap : Nat) (c v : Int) (w : World) (hl : l.length ≤ 400) (hr : Items w A l) (hc : ∀ x ∈ l, inB c 0 ((x.r.length : Int) - 1) = true) (hv : ∀ x ∈ l, inB v 0 ((x.r.length : Int) - 1) = true) (hok : ∀ x ∈ l, okR x.r = true ∧ okW x.n = true) :
  Calls Tryz.prog 98 #[.slice A l.length cap, .int .i64 c, .int .i64 v] w fun e w' => ∃ (L : List Itm) (C : Option Addr) (k : Nat), e = .returned (.slice C L.length k) ∧ L.map Itm.z = sumL (l.map Itm.z) c v ∧ Lv w' C k L ∧ L.length ≤ 400 ∧ Below w.heap.size w w' := by
 have hrH : Hid (Items w A l ∧ (∀ x ∈ l, okW x.n = true) ∧ (∀ x ∈ l, okR x.r = true ∧ okW x.n = true) ∧ ∀ x ∈ l, inB v 0 ((x.r.length : Int) - 1) = true) := ⟨hr, fun x hx => (hok x hx).2, hok, hv⟩
 have hG : Hid _ := groups_any l A cap c w hl hr hc (fun x hx => (hok x hx).1)
 clear hr hc hok hv
 go_enter Tryz.func98, Tryz.ntmps98
 go_wp2_with fail
 refine Calls.mono (show Calls _ _ _ _ _ from hG.out) ?_
 rintro e w1 ⟨gs, vv, D, rfl, hR0⟩
 clear hG
 have hR : Hid (GInv w w1 l c l.length vv gs D) := hR0
 obtain ⟨GA, gcap, hvv, _, hrow, _⟩ := hR.out.gps.own.row encP_len
 have hrw : Hid (RowG encP 2 w1 GA gs) := hrow
 subst hvv
 clear hR0 hrow
 have hgl : gs.length ≤ 400 := Nat.le_trans hR.out.len hl
 go_wp2
 go_loopw [7, 20] (fun u i wr => ∃ (k : Nat) (L : List Itm), k ≤ gs.length ∧ i = .int .i64 k ∧ Hid (L.length ≤ k ∧ L.map Itm.z = ((gs.take k).map Grp.z).filterMap (sumG v) ∧ OwnT wr w1.heap.size u L ∧ Below w1.heap.size w1 wr)) (fun _ i _ => gs.length - (intOf i).toNat)
 case atStart => exact ⟨0, [], Nat.zero_le _, rfl, Nat.le_refl _, rfl, OwnT.nil _ _, Below.refl _ _⟩
 case round =>
  obtain ⟨k, L, hk, rfl, hS⟩ := hrel
  by_cases hlt : k < gs.length
  ·have hltz : (k : Int) < (gs.length : Int) := by omega
   obtain ⟨bb, off, rfl, hb, hcs⟩ := (hrw.out.below hS.out.2.2.2).at hlt
   obtain ⟨g, hg⟩ : ∃ g, gs[k] = g := ⟨_, rfl⟩
   have e0 : wr.cell? ⟨bb, off + k * 2, none⟩ = some (.int .i64 g.n) := by have := hcs k hlt 0 (by omega); rw [hg] at this; simpa [encP] using this
   have e1 : wr.cell? ⟨bb, off + k * 2 + 1, none⟩ = some (.slice g.p g.l.length g.c) := by have := hcs k hlt 1 (by omega); rw [hg] at this; simpa [encP, Grp.v] using this
   have hgm : Hid (g ∈ gs) := by show _ ∈ _; rw [← hg]; exact List.getElem_mem hlt
   have hst : Hid (((gs.take (k + 1)).map Grp.z).filterMap (sumG v) = ((gs.take k).map Grp.z).filterMap (sumG v) ++ (if timesL (g.l.map Itm.z) = 0 then [] else [([g.n, sumAtL v (g.l.map Itm.z)], 1)])) := by show _ = _; rw [sum_take hlt, hg]
   clear hcs hg
   obtain ⟨WX, hWX⟩ : ∃ WX, (wr.alloc (.cells #[.int .i64 g.n, .slice g.p g.l.length g.c] 156)) = WX := ⟨_, rfl⟩
   have hgX : Hid (Gr wr WX) := by show Gr _ _; rw [← hWX]; exact (Gr.refl _).alloc _
   have y0 : WX.cell? ⟨wr.heap.size, 0, none⟩ = some (.int .i64 g.n) := by rw [← hWX]; exact box1 (Gr.refl _) rfl
   have y1 : WX.cell? ⟨wr.heap.size, 1, none⟩ = some (.slice g.p g.l.length g.c) := by rw [← hWX]; exact box1 (Gr.refl _) rfl
   have hsX : wr.heap.size < WX.heap.size := by rw [← hWX]; simp
   have hbX : Hid (Below w1.heap.size w1 WX) := hS.out.2.2.2.trans (hgX.out.below.mono hS.out.2.2.2.size)
   obtain ⟨T, hT⟩ : ∃ T, timesL (g.l.map Itm.z) = T := ⟨_, rfl⟩
   have hcall0 : Calls Tryz.prog 129 #[.slice g.p g.l.length g.c] WX fun e w' => e = .returned (.int .i64 T) ∧ Gr WX w' := by
    rw [← hT]
    have h1 := hR.out.sub g hgm.out
    exact times_any g.l g.p g.c WX (by omega) (fun x hx => hrH.out.2.1 x (h1.2 x hx)) (hR.out.items hrH.out.1 hbX.out hgm.out)
   have hcall : Hid _ := hcall0
   clear hcall0
   rw [hT] at hst
   clear hT
   cases hq : (T != 0)
   ·have hT0 : T = 0 := by simpa using hq
    go_wp2_with (go_at_call 129; (refine Calls.mono (show Calls _ _ _ _ _ from hcall.out) ?_); rintro e w2 ⟨rfl, hg2⟩)
    have hfin : Hid (L.length ≤ k + 1 ∧ L.map Itm.z = ((gs.take (k + 1)).map Grp.z).filterMap (sumG v) ∧ OwnT w2 w1.heap.size u7 L ∧ Below w1.heap.size w1 w2) :=
     ⟨by have := hS.out.1; omega, by rw [hst.out, if_pos hT0, List.append_nil]; exact hS.out.2.1, (hS.out.2.2.1.gr hgX.out).gr hg2, hbX.out.trans (hg2.below.mono hbX.out.size)⟩
    go_roundw
    case rel => exact ⟨k + 1, L, by omega, by go_num, hfin⟩
    case measure => simp [intOf]; omega
   ·have hT0 : ¬ T = 0 := by simpa using hq
    obtain ⟨U, hU⟩ : ∃ U, sumAtL v (g.l.map Itm.z) = U := ⟨_, rfl⟩
    rw [hU] at hst
    have hsum : Hid (∀ W, Below WX.heap.size WX W → Calls Tryz.prog 130 #[.slice g.p g.l.length g.c, .int .i64 v] W fun e w' => e = .returned (.int .i64 U) ∧ Gr W w') := fun W hW => by
     rw [← hU]
     have h1 := hR.out.sub g hgm.out
     exact sumAt_any g.l g.p g.c v W (by omega) (fun x hx => hrH.out.2.2.1 x (h1.2 x hx)) (fun x hx => hrH.out.2.2.2 x (h1.2 x hx)) (hR.out.items hrH.out.1 (hbX.out.trans (hW.mono hbX.out.size)) hgm.out)
    have hoF : Hid (∀ w3, Gr WX w3 → OwnT ((w3.alloc (.cells #[.int .i64 g.n, .int .i64 U] 3)).alloc (.cells #[.slice (some ⟨w3.heap.size, 0, none⟩) 2 2, .int .i64 1] 40)) w1.heap.size u7 L ∧ RowG encT 2 ((w3.alloc (.cells #[.int .i64 g.n, .int .i64 U] 3)).alloc (.cells #[.slice (some ⟨w3.heap.size, 0, none⟩) 2 2, .int .i64 1] 40)) (some ⟨w3.heap.size + 1, 0, none⟩) [(⟨some ⟨w3.heap.size, 0, none⟩, 2, [g.n, U], 1⟩ : Itm)] ∧ Apart ((w3.alloc (.cells #[.int .i64 g.n, .int .i64 U] 3)).alloc (.cells #[.slice (some ⟨w3.heap.size, 0, none⟩) 2 2, .int .i64 1] 40)) w1.heap.size u7.ownBlock (⟨some ⟨w3.heap.size, 0, none⟩, 2, [g.n, U], 1⟩ : Itm) ∧ L.length + 1 ≤ maxLen ∧ (L.length + 1) * 32 ≤ 140737488355328 ∧ Below w1.heap.size w1 ((w3.alloc (.cells #[.int .i64 g.n, .int .i64 U] 3)).alloc (.cells #[.slice (some ⟨w3.heap.size, 0, none⟩) 2 2, .int .i64 1] 40))) := fun w3 hg3 => by
     have hLk := hS.out.1
     have hg2 : Gr wr w3 := hgX.out.trans hg3
     have hb2 : Below w1.heap.size w1 w3 := hbX.out.trans (hg3.below.mono hbX.out.size)
     have h2 : Gr w3 ((w3.alloc (.cells #[.int .i64 g.n, .int .i64 U] 3)).alloc (.cells #[.slice (some ⟨w3.heap.size, 0, none⟩) 2 2, .int .i64 1] 40)) := ((Gr.refl _).alloc _).alloc _
     refine ⟨(hS.out.2.2.1.gr hg2).gr h2, rowNewT (by simp) (⟨some ⟨w3.heap.size, 0, none⟩, 2, [g.n, U], 1⟩ : Itm) _, ⟨(rowNew2 rfl g.n U _).gr ((Gr.refl _).alloc _), by simp [maxLen], fun h => (by cases h), fun a ha => ⟨?_, ?_, ?_⟩⟩, by unfold maxLen; omega, by omega, hb2.trans (h2.below.mono hb2.size)⟩
     ·cases ha; exact hb2.size
     ·cases ha; simp; omega
     ·cases ha
      intro e
      have h3 := (World.ownsRow.lt hS.out.2.2.1.own w3.heap.size e).2
      have h4 := hg2.size
      omega
    have hub : Hid (∀ b, u7.ownBlock = some b → b < wr.heap.size) := fun b hb => (World.ownsRow.lt hS.out.2.2.1.own b hb).2
    clear hU
    go_wp2_with (go_at_call 129; (refine Calls.mono (show Calls _ _ _ _ _ from hcall.out) ?_); rintro e w2 ⟨rfl, hg2⟩)
    obtain ⟨gb, hgb⟩ : ∃ gb, wr.heap.size = gb := ⟨_, rfl⟩
    rw [hgb] at y0 y1 hsX hub ⊢
    have hgD : Hid (Gr WX w2.drew) := hg2.trans (Gr.refl _).drew
    have hKeep : Hid (∀ W', Gr WX W' → (fun w' => w'.cell? ⟨gb, 0, none⟩ = some (.int .i64 g.n) ∧ w'.cell? ⟨gb, 1, none⟩ = some (.slice g.p g.l.length g.c)) W') := fun W' h => ⟨(h.below.cell (p := ⟨gb, 0, none⟩) hsX).trans y0, (h.below.cell (p := ⟨gb, 1, none⟩) hsX).trans y1⟩
    have hKeep4 : Hid (∀ w3 w4, Gr WX w3 → ((w3.alloc (.cells #[.int .i64 g.n, .int .i64 U] 3)).alloc (.cells #[.slice (some ⟨w3.heap.size, 0, none⟩) 2 2, .int .i64 1] 40)).grownBy w4 u7.ownBlock → (fun w' => w'.cell? ⟨gb, 0, none⟩ = some (.int .i64 g.n) ∧ w'.cell? ⟨gb, 1, none⟩ = some (.slice g.p g.l.length g.c)) w4) := fun w3 w4 h3 h4 => by
     have hW : Gr WX ((w3.alloc (.cells #[.int .i64 g.n, .int .i64 U] 3)).alloc (.cells #[.slice (some ⟨w3.heap.size, 0, none⟩) 2 2, .int .i64 1] 40)) := (h3.alloc _).alloc _
     have hk := hKeep.out _ hW
     have hlt : gb < ((w3.alloc (.cells #[.int .i64 g.n, .int .i64 U] 3)).alloc (.cells #[.slice (some ⟨w3.heap.size, 0, none⟩) 2 2, .int .i64 1] 40)).heap.size := Nat.lt_of_lt_of_le hsX hW.size
     have hne : some gb ≠ u7.ownBlock := fun e => by have := hub.out _ e.symm; omega
     exact ⟨(World.cell?_of_block (a := ⟨gb, 0, none⟩) (h4.block _ hlt hne)).trans hk.1, (World.cell?_of_block (a := ⟨gb, 1, none⟩) (h4.block _ hlt hne)).trans hk.2⟩
    clear hg2 y0 y1 hcall
    refine wp_region_noPanic ?_
    refine wp_region_held_drew (S := (fun w' => w'.cell? ⟨gb, 0, none⟩ = some (.int .i64 g.n) ∧ w'.cell? ⟨gb, 1, none⟩ = some (.slice g.p g.l.length g.c))) (by kernel_rfl) (hKeep.out _ hgD.out) (fun hHeld => ?_)
    refine wpAnyH_take (i := 0) (oi := ?ois1) (v := ?vs1) ?hops1 ?hss1 ?hfs1 ?hrs1 ?hQs1 ?hys1 (by assumption) ?rests1
    case hops1 => (simp only [List.getElem?_toArray, List.getElem?_cons_zero]; rfl)
    case hss1 => kernel_rfl
    case hfs1 => kernel_rfl
    case hrs1 => kernel_rfl
    case hQs1 => exact fun _ _ _ h => h
    case hys1 => (refine Or.inl ⟨by rfl, ?_⟩; intro w hSw; (try dsimp only at hSw); go_simp <;> with_reducible rfl)
    try simp only [Act.put, List.setIfInBounds_toArray, List.set_cons_zero, List.set_cons_succ]
    refine wpAnyH_take (i := 1) (oi := ?ois2) (v := ?vs2) ?hops2 ?hss2 ?hfs2 ?hrs2 ?hQs2 ?hys2 (by assumption) ?rests2
    case hops2 => (simp only [List.getElem?_toArray, List.getElem?_cons_zero, List.getElem?_cons_succ]; rfl)
    case hss2 => kernel_rfl
    case hfs2 => kernel_rfl
    case hrs2 => kernel_rfl
    case hQs2 => exact fun _ _ _ h => h
    case hys2 => (refine Or.inl ⟨by rfl, ?_⟩; intro w hSw; (try dsimp only at hSw); go_simp <;> with_reducible rfl)
    try simp only [Act.put, List.setIfInBounds_toArray, List.set_cons_zero, List.set_cons_succ]
    refine wpAnyH_take (i := 2) (oi := ?ois3) (v := ?vs3) ?hops3 ?hss3 ?hfs3 ?hrs3 ?hQs3 ?hys3 (by assumption) ?rests3
    case hops3 => (simp only [List.getElem?_toArray, List.getElem?_cons_zero, List.getElem?_cons_succ]; rfl)
    case hss3 => kernel_rfl
    case hfs3 => kernel_rfl
    case hrs3 => kernel_rfl
    case hQs3 => exact fun _ _ _ h => h
    case hys3 => (refine Or.inl ⟨by rfl, ?_⟩; intro w hSw; (try dsimp only at hSw); go_simp <;> with_reducible rfl)
    try simp only [Act.put, List.setIfInBounds_toArray, List.set_cons_zero, List.set_cons_succ]
    refine wpAnyH_take (i := 3) (oi := ?ois4) (v := ?vs4) ?hops4 ?hss4 ?hfs4 ?hrs4 ?hQs4 ?hys4 (by assumption) ?rests4
    case hops4 => (simp only [List.getElem?_toArray, List.getElem?_cons_zero, List.getElem?_cons_succ]; rfl)
    case hss4 => kernel_rfl
    case hfs4 => kernel_rfl
    case hrs4 => kernel_rfl
    case hQs4 => exact fun _ _ _ h => h
    case hys4 => (refine Or.inl ⟨by rfl, ?_⟩; intro w hSw; (try dsimp only at hSw); go_simp <;> with_reducible rfl)
    try simp only [Act.put, List.setIfInBounds_toArray, List.set_cons_zero, List.set_cons_succ]
    refine wpAnyH_take (i := 4) (oi := ?ois5) (v := ?vs5) ?hops5 ?hss5 ?hfs5 ?hrs5 ?hQs5 ?hys5 (by assumption) ?rests5
    case hops5 => (simp only [List.getElem?_toArray, List.getElem?_cons_zero, List.getElem?_cons_succ]; rfl)
    case hss5 => kernel_rfl
    case hfs5 => kernel_rfl
    case hrs5 => kernel_rfl
    case hQs5 => exact fun _ _ _ h => h
    case hys5 => (refine Or.inl ⟨by rfl, ?_⟩; intro w hSw; (try dsimp only at hSw); go_simp <;> with_reducible rfl)
    try simp only [Act.put, List.setIfInBounds_toArray, List.set_cons_zero, List.set_cons_succ]
    refine wpAnyH_take (i := 5) (oi := ?ois6) (v := ?vs6) ?hops6 ?hss6 ?hfs6 ?hrs6 ?hQs6 ?hys6 (by assumption) ?rests6
    case hops6 => (simp only [List.getElem?_toArray, List.getElem?_cons_zero, List.getElem?_cons_succ]; rfl)
    case hss6 => kernel_rfl
    case hfs6 => kernel_rfl
    case hrs6 => kernel_rfl
    case hQs6 => exact fun _ _ _ h => h
    case hys6 => (refine Or.inl ⟨by rfl, ?_⟩; intro w hSw; (try dsimp only at hSw); go_simp <;> with_reducible rfl)
    try simp only [Act.put, List.setIfInBounds_toArray, List.set_cons_zero, List.set_cons_succ]
    refine wpAnyH_ready (rs := [6]) (by kernel_rfl) (by simp) ?_
    refine AllReadyH.cons (o := ?ois7) ?hops7 (fun K hK => ?steps7) ?mores7
    case hops7 => (simp only [List.getElem?_toArray, List.getElem?_cons_zero, List.getElem?_cons_succ]; rfl)
    case mores7 => exact AllReadyH.nil
    go_simp
    (go_at_call 130; (refine Calls.mono (hsum.out _ hgD.out.below) ?_); rintro e w3 ⟨rfl, hq3⟩; have hg3 : Hid (Gr WX w3) := hgD.out.trans hq3; clear hq3)
    first | (go_wp2_with fail) | skip
    refine hK.out _ _ ?_ (fun hHeld => ?_)
    ·(try dsimp only); first | with_reducible exact hKeep.out _ hgD.out | with_reducible exact hKeep.out _ hg3.out | with_reducible exact hKeep.out _ (hg3.out.alloc _) | with_reducible exact hKeep.out _ ((hg3.out.alloc _).alloc _) | exact hk4.out
    clear hK K
    try simp only [Act.put, List.setIfInBounds_toArray, List.set_cons_zero, List.set_cons_succ]
    refine wpAnyH_ready (rs := [7]) (by kernel_rfl) (by simp) ?_
    refine AllReadyH.cons (o := ?ois8) ?hops8 (fun K hK => ?steps8) ?mores8
    case hops8 => (simp only [List.getElem?_toArray, List.getElem?_cons_zero, List.getElem?_cons_succ]; rfl)
    case mores8 => exact AllReadyH.nil
    go_simp
    refine hK.out _ _ ?_ (fun hHeld => ?_)
    ·(try dsimp only); first | with_reducible exact hKeep.out _ hgD.out | with_reducible exact hKeep.out _ hg3.out | with_reducible exact hKeep.out _ (hg3.out.alloc _) | with_reducible exact hKeep.out _ ((hg3.out.alloc _).alloc _) | exact hk4.out
    clear hK K
    try simp only [Act.put, List.setIfInBounds_toArray, List.set_cons_zero, List.set_cons_succ]
    refine wpAnyH_take (i := 8) (oi := ?ois9) (v := ?vs9) ?hops9 ?hss9 ?hfs9 ?hrs9 ?hQs9 ?hys9 (by assumption) ?rests9
    case hops9 => (simp only [List.getElem?_toArray, List.getElem?_cons_zero, List.getElem?_cons_succ]; rfl)
    case hss9 => kernel_rfl
    case hfs9 => kernel_rfl
    case hrs9 => kernel_rfl
    case hQs9 => exact fun _ _ _ h => h
    case hys9 => (refine Or.inl ⟨by rfl, ?_⟩; intro w hSw; (try dsimp only at hSw); go_simp <;> with_reducible rfl)
    try simp only [Act.put, List.setIfInBounds_toArray, List.set_cons_zero, List.set_cons_succ]
    refine wpAnyH_ready (rs := [9]) (by kernel_rfl) (by simp) ?_
    refine AllReadyH.cons (o := ?ois10) ?hops10 (fun K hK => ?steps10) ?mores10
    case hops10 => (simp only [List.getElem?_toArray, List.getElem?_cons_zero, List.getElem?_cons_succ]; rfl)
    case mores10 => exact AllReadyH.nil
    go_simp
    refine hK.out _ _ ?_ (fun hHeld => ?_)
    ·(try dsimp only); first | with_reducible exact hKeep.out _ hgD.out | with_reducible exact hKeep.out _ hg3.out | with_reducible exact hKeep.out _ (hg3.out.alloc _) | with_reducible exact hKeep.out _ ((hg3.out.alloc _).alloc _) | exact hk4.out
    clear hK K
    try simp only [Act.put, List.setIfInBounds_toArray, List.set_cons_zero, List.set_cons_succ]
    refine wpAnyH_ready (rs := [10]) (by kernel_rfl) (by simp) ?_
    refine AllReadyH.cons (o := ?ois11) ?hops11 (fun K hK => ?steps11) ?mores11
    case hops11 => (simp only [List.getElem?_toArray, List.getElem?_cons_zero, List.getElem?_cons_succ]; rfl)
    case mores11 => exact AllReadyH.nil
    (refine step_append_t _ rfl (.tmp 28) (.tmp 37) rfl w1.heap.size u7 L (⟨some ⟨w3.heap.size, 0, none⟩, 2, [g.n, U], 1⟩ : Itm) ⟨w3.heap.size + 1, 0, none⟩ 1 rfl rfl (hoF.out w3 hg3.out).1 (hoF.out w3 hg3.out).2.1 (hoF.out w3 hg3.out).2.2.1 (hoF.out w3 hg3.out).2.2.2.1 (hoF.out w3 hg3.out).2.2.2.2.1 (hoF.out w3 hg3.out).2.2.2.2.2.size ?_; intro v4 w4 hown4 hb4 hgb4; have hk4 : Hid ((fun w' => w'.cell? ⟨gb, 0, none⟩ = some (.int .i64 g.n) ∧ w'.cell? ⟨gb, 1, none⟩ = some (.slice g.p g.l.length g.c)) w4) := hKeep4.out w3 w4 hg3.out hgb4; have hfin : Hid ((L ++ [(⟨some ⟨w3.heap.size, 0, none⟩, 2, [g.n, U], 1⟩ : Itm)]).length ≤ k + 1 ∧ (L ++ [(⟨some ⟨w3.heap.size, 0, none⟩, 2, [g.n, U], 1⟩ : Itm)]).map Itm.z = ((gs.take (k + 1)).map Grp.z).filterMap (sumG v) ∧ OwnT w4 w1.heap.size v4 (L ++ [(⟨some ⟨w3.heap.size, 0, none⟩, 2, [g.n, U], 1⟩ : Itm)]) ∧ Below w1.heap.size w1 w4) := ⟨by have := hS.out.1; simp; omega, by rw [hst.out, if_neg hT0, List.map_append, hS.out.2.1]; rfl, hown4, (hoF.out w3 hg3.out).2.2.2.2.2.trans hb4⟩; clear hown4 hb4 hgb4)
    refine hK.out _ _ ?_ (fun hHeld => ?_)
    ·(try dsimp only); first | with_reducible exact hKeep.out _ hgD.out | with_reducible exact hKeep.out _ hg3.out | with_reducible exact hKeep.out _ (hg3.out.alloc _) | with_reducible exact hKeep.out _ ((hg3.out.alloc _).alloc _) | exact hk4.out
    clear hK K
    try simp only [Act.put, List.setIfInBounds_toArray, List.set_cons_zero, List.set_cons_succ]
    refine wpAnyH_take (i := 11) (oi := ?ois12) (v := ?vs12) ?hops12 ?hss12 ?hfs12 ?hrs12 ?hQs12 ?hys12 (by assumption) ?rests12
    case hops12 => (simp only [List.getElem?_toArray, List.getElem?_cons_zero, List.getElem?_cons_succ]; rfl)
    case hss12 => kernel_rfl
    case hfs12 => kernel_rfl
    case hrs12 => kernel_rfl
    case hQs12 => exact fun _ _ _ h => h
    case hys12 => (refine Or.inl ⟨by rfl, ?_⟩; intro w hSw; (try dsimp only at hSw); go_simp <;> with_reducible rfl)
    try simp only [Act.put, List.setIfInBounds_toArray, List.set_cons_zero, List.set_cons_succ]
    refine wpAnyH_done (by kernel_rfl) ?_ _
    refine NoPanic.normal ?_
    go_wp2
    go_roundw
    case rel => exact ⟨k + 1, L ++ [(⟨some ⟨w3.heap.size, 0, none⟩, 2, [g.n, U], 1⟩ : Itm)], by omega, by go_num, hfin⟩
    case measure => simp [intOf]; omega
  ·have hltz : ¬ (k : Int) < (gs.length : Int) := by omega
   have hke : gs.take k = gs := List.take_of_length_le (by omega)
   obtain ⟨A2, cap2, hv2, hn2, hit, _⟩ := hS.out.2.2.1.items
   have hlL : L.length ≤ 400 := by have := hS.out.1; omega
   have hfin : Hid (L.map Itm.z = sumL (l.map Itm.z) c v ∧ Lv wr A2 cap2 L ∧ Below w.heap.size w wr) := by
    refine ⟨?_, ⟨hit, hn2, by unfold maxLen; omega⟩, hR.out.bel.trans (hS.out.2.2.2.mono hR.out.bel.size)⟩
    have := hS.out.2.1
    rw [hke, hR.out.z, List.take_length] at this
    exact this
   subst hv2
   clear hke hit hn2
   go_wp2
   go_ret
   exact ⟨L, A2, cap2, rfl, hfin.out.1, hfin.out.2.1, hlL, hfin.out.2.2⟩
end Go.Proofs.YtmoicbmhjmdgdaaGreat
