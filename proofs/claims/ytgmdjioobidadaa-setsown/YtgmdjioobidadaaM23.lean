/-
  plain.count.
  plain.sumAt.
-/
import Derived.Test.YtgmdjioobidadaaM22
namespace Go.Proofs.Ytgmdjioobidadaa
open Go.RowKit Go.Sort Go.Maps

theorem cnt_take {gs : List Grp} {k : Nat} (h : k < gs.length) : ((gs.take (k + 1)).map Grp.z).filterMap cntG = ((gs.take k).map Grp.z).filterMap cntG ++ (if timesL (gs[k].l.map Itm.z) = 0 then [] else [([gs[k].n, timesL (gs[k].l.map Itm.z)], 1)]) := by
  rw [List.take_succ_eq_append_getElem h, List.map_append, List.filterMap_append]
  congr 1
  by_cases e : timesL (gs[k].l.map Itm.z) = 0
  · rw [if_pos e]; simp [cntG, Grp.z, e]
  · rw [if_neg e]; simp [cntG, Grp.z, e]
theorem rowNew2 {W : World} {n : Nat} (hn : W.heap.size = n) (a b : Int) (T : TypeId) : RowI (W.alloc (.cells #[.int .i64 a, .int .i64 b] T)) (some ⟨n, 0, none⟩) [a, b] := by
  subst hn
  refine Or.inr ⟨W.heap.size, 0, rfl, by simp, fun j hj i hi => ?_⟩
  obtain rfl : i = 0 := by omega
  have hj' : j = 0 ∨ j = 1 := by simp at hj; omega
  rcases hj' with rfl | rfl
  · exact box1 (w := W) (Gr.refl _) (j := 0) rfl
  · exact box1 (w := W) (Gr.refl _) (j := 1) rfl
/-- A group's items, as a list that lies in memory. -/
theorem GInv.items {w wr W : World} {l : List Itm} {c : Int} {k : Nat} {u : Value} {gs : List Grp} {D : DataW Unit} {A : Option Addr} (h : GInv w wr l c k u gs D) (hr : Items w A l) (hW : Below wr.heap.size wr W) {g : Grp} (hg : g ∈ gs) : Items W g.p g.l := by
  obtain ⟨A2, cp, hv, _, hrow, _⟩ := ((h.gps.each g hg).below hW).row encT_len
  have e : g.p = A2 := by
    have h3 := hv
    unfold Grp.v at h3
    simp at h3
    exact h3.1
  rw [e]
  exact ⟨hrow, fun x hx => ((hr.below h.bel).below hW).each x ((h.sub g hg).2 x hx)⟩

set_option maxRecDepth 100000 in
set_option maxHeartbeats 1000000 in
theorem count_any (l : List Itm) (A : Option Addr) (cap : Nat) (c : Int) (w : World) (hl : l.length ≤ 400) (hr : Items w A l) (hc : ∀ x ∈ l, inB c 0 ((x.r.length : Int) - 1) = true) (hok : ∀ x ∈ l, okR x.r = true ∧ okW x.n = true) :
    Calls Try.prog 50 #[.slice A l.length cap, .int .i64 c] w fun e w' => ∃ (L : List Itm) (C : Option Addr) (k : Nat), e = .returned (.slice C L.length k) ∧ L.map Itm.z = countL (l.map Itm.z) c ∧ Lv w' C k L ∧ L.length ≤ 400 ∧ Below w.heap.size w w' := by
  have hrH : Hid (Items w A l ∧ (∀ x ∈ l, okW x.n = true)) := ⟨hr, fun x hx => (hok x hx).2⟩
  have hG : Hid _ := groups_any l A cap c w hl hr hc (fun x hx => (hok x hx).1)
  clear hr hc hok
  go_enter Try.func50, Try.ntmps50
  go_wp2_with fail
  refine Calls.mono (show Calls _ _ _ _ _ from hG.out) ?_
  rintro e w1 ⟨gs, v, D, rfl, hR0⟩
  clear hG
  have hR : Hid (GInv w w1 l c l.length v gs D) := hR0
  obtain ⟨GA, gcap, hv, _, hrow, _⟩ := hR.out.gps.own.row encP_len
  have hrw : Hid (RowG encP 2 w1 GA gs) := hrow
  subst hv
  clear hR0 hrow
  have hgl : gs.length ≤ 400 := Nat.le_trans hR.out.len hl
  go_wp2
  go_loopw [5, 19] (fun u i wr => ∃ (k : Nat) (L : List Itm), k ≤ gs.length ∧ i = .int .i64 k ∧ Hid (L.length ≤ k ∧ L.map Itm.z = ((gs.take k).map Grp.z).filterMap cntG ∧ OwnT wr w1.heap.size u L ∧ Below w1.heap.size w1 wr)) (fun _ i _ => gs.length - (intOf i).toNat)
  case atStart => exact ⟨0, [], Nat.zero_le _, rfl, Nat.le_refl _, rfl, OwnT.nil _ _, Below.refl _ _⟩
  case round =>
    obtain ⟨k, L, hk, rfl, hS⟩ := hrel
    by_cases hlt : k < gs.length
    · have hltz : (k : Int) < (gs.length : Int) := by omega
      obtain ⟨bb, off, rfl, hb, hcs⟩ := (hrw.out.below hS.out.2.2.2).at hlt
      obtain ⟨g, hg⟩ : ∃ g, gs[k] = g := ⟨_, rfl⟩
      have e0 : wr.cell? ⟨bb, off + k * 2, none⟩ = some (.int .i64 g.n) := by have := hcs k hlt 0 (by omega); rw [hg] at this; simpa [encP] using this
      have e1 : wr.cell? ⟨bb, off + k * 2 + 1, none⟩ = some (.slice g.p g.l.length g.c) := by have := hcs k hlt 1 (by omega); rw [hg] at this; simpa [encP, Grp.v] using this
      have hgm : Hid (g ∈ gs) := by show _ ∈ _; rw [← hg]; exact List.getElem_mem hlt
      have hst : Hid (((gs.take (k + 1)).map Grp.z).filterMap cntG = ((gs.take k).map Grp.z).filterMap cntG ++ (if timesL (g.l.map Itm.z) = 0 then [] else [([g.n, timesL (g.l.map Itm.z)], 1)])) := by show _ = _; rw [cnt_take hlt, hg]
      clear hcs hg
      obtain ⟨WX, hWX⟩ : ∃ WX, (wr.alloc (.cells #[.int .i64 g.n, .slice g.p g.l.length g.c] 81)) = WX := ⟨_, rfl⟩
      have hgX : Hid (Gr wr WX) := by show Gr _ _; rw [← hWX]; exact (Gr.refl _).alloc _
      have y0 : WX.cell? ⟨wr.heap.size, 0, none⟩ = some (.int .i64 g.n) := by rw [← hWX]; exact box1 (Gr.refl _) rfl
      have y1 : WX.cell? ⟨wr.heap.size, 1, none⟩ = some (.slice g.p g.l.length g.c) := by rw [← hWX]; exact box1 (Gr.refl _) rfl
      have hsX : wr.heap.size < WX.heap.size := by rw [← hWX]; simp
      have hbX : Hid (Below w1.heap.size w1 WX) := hS.out.2.2.2.trans (hgX.out.below.mono hS.out.2.2.2.size)
      obtain ⟨T, hT⟩ : ∃ T, timesL (g.l.map Itm.z) = T := ⟨_, rfl⟩
      have hcall0 : Calls Try.prog 63 #[.slice g.p g.l.length g.c] WX fun e w' => e = .returned (.int .i64 T) ∧ Gr WX w' := by
        rw [← hT]
        have h1 := hR.out.sub g hgm.out
        exact times_any g.l g.p g.c WX (by omega) (fun x hx => hrH.out.2 x (h1.2 x hx)) (hR.out.items hrH.out.1 hbX.out hgm.out)
      have hcall : Hid _ := hcall0
      clear hcall0
      rw [hT] at hst
      clear hT
      cases hq : (T != 0)
      · have hT0 : T = 0 := by simpa using hq
        go_wp2_with (go_at_call 63; (refine Calls.mono (show Calls _ _ _ _ _ from hcall.out) ?_); rintro e w2 ⟨rfl, hg2⟩)
        have hfin : Hid (L.length ≤ k + 1 ∧ L.map Itm.z = ((gs.take (k + 1)).map Grp.z).filterMap cntG ∧ OwnT w2 w1.heap.size u5 L ∧ Below w1.heap.size w1 w2) :=
          ⟨by have := hS.out.1; omega, by rw [hst.out, if_pos hT0, List.append_nil]; exact hS.out.2.1, (hS.out.2.2.1.gr hgX.out).gr hg2, hbX.out.trans (hg2.below.mono hbX.out.size)⟩
        go_roundw
        case rel => exact ⟨k + 1, L, by omega, by go_num, hfin⟩
        case measure => simp [intOf]; omega
      · have hT0 : ¬ T = 0 := by simpa using hq
        have hoF : Hid (∀ w2, Gr wr w2 → Below w1.heap.size w1 w2 → OwnT ((w2.alloc (.cells #[.int .i64 g.n, .int .i64 T] 3)).alloc (.cells #[.slice (some ⟨w2.heap.size, 0, none⟩) 2 2, .int .i64 1] 45)) w1.heap.size u5 L ∧ RowG encT 2 ((w2.alloc (.cells #[.int .i64 g.n, .int .i64 T] 3)).alloc (.cells #[.slice (some ⟨w2.heap.size, 0, none⟩) 2 2, .int .i64 1] 45)) (some ⟨w2.heap.size + 1, 0, none⟩) [(⟨some ⟨w2.heap.size, 0, none⟩, 2, [g.n, T], 1⟩ : Itm)] ∧ Apart ((w2.alloc (.cells #[.int .i64 g.n, .int .i64 T] 3)).alloc (.cells #[.slice (some ⟨w2.heap.size, 0, none⟩) 2 2, .int .i64 1] 45)) w1.heap.size u5.ownBlock (⟨some ⟨w2.heap.size, 0, none⟩, 2, [g.n, T], 1⟩ : Itm) ∧ L.length + 1 ≤ maxLen ∧ (L.length + 1) * 32 ≤ 140737488355328 ∧ Below w1.heap.size w1 ((w2.alloc (.cells #[.int .i64 g.n, .int .i64 T] 3)).alloc (.cells #[.slice (some ⟨w2.heap.size, 0, none⟩) 2 2, .int .i64 1] 45))) := fun w2 hg2 hb2 => by
          have hLk := hS.out.1
          have h2 : Gr w2 ((w2.alloc (.cells #[.int .i64 g.n, .int .i64 T] 3)).alloc (.cells #[.slice (some ⟨w2.heap.size, 0, none⟩) 2 2, .int .i64 1] 45)) := ((Gr.refl _).alloc _).alloc _
          refine ⟨(hS.out.2.2.1.gr hg2).gr h2, rowNewT (by simp) (⟨some ⟨w2.heap.size, 0, none⟩, 2, [g.n, T], 1⟩ : Itm) _, ⟨(rowNew2 rfl g.n T _).gr ((Gr.refl _).alloc _), by simp [maxLen], fun h => (by cases h), fun a ha => ⟨?_, ?_, ?_⟩⟩, by unfold maxLen; omega, by omega, hb2.trans (h2.below.mono hb2.size)⟩
          · cases ha; exact hb2.size
          · cases ha; simp; omega
          · cases ha
            intro e
            have h3 := (World.ownsRow.lt hS.out.2.2.1.own w2.heap.size e).2
            have h4 := hg2.size
            omega
        go_wp2_with (first | (go_at_call 63; (refine Calls.mono (show Calls _ _ _ _ _ from hcall.out) ?_); rintro e w2 ⟨rfl, hg2⟩; have y0' : w2.cell? ⟨wr.heap.size, 0, none⟩ = some (.int .i64 g.n) := (hg2.below.cell (p := ⟨wr.heap.size, 0, none⟩) hsX).trans y0; have hbW : Hid (Below w1.heap.size w1 w2 ∧ Gr wr w2) := ⟨hbX.out.trans (hg2.below.mono hbX.out.size), hgX.out.trans hg2⟩; clear hg2; have hoX := hoF.out w2 hbW.out.2 hbW.out.1; have hoH : Hid _ := hoX; clear hoX) | (at_builtin; refine wpList_append_t _ rfl (.tmp 28) (.tmp 34) rfl w1.heap.size u5 L (⟨some ⟨w2.heap.size, 0, none⟩, 2, [g.n, T], 1⟩ : Itm) ⟨w2.heap.size + 1, 0, none⟩ 1 rfl rfl hoH.out.1 hoH.out.2.1 hoH.out.2.2.1 hoH.out.2.2.2.1 hoH.out.2.2.2.2.1 hoH.out.2.2.2.2.2.size ?_; intro v3 w3 hown3 hg3) | fail)
        have hfin : Hid ((L ++ [(⟨some ⟨w2.heap.size, 0, none⟩, 2, [g.n, T], 1⟩ : Itm)]).length ≤ k + 1 ∧ (L ++ [(⟨some ⟨w2.heap.size, 0, none⟩, 2, [g.n, T], 1⟩ : Itm)]).map Itm.z = ((gs.take (k + 1)).map Grp.z).filterMap cntG ∧ OwnT w3 w1.heap.size v3 (L ++ [(⟨some ⟨w2.heap.size, 0, none⟩, 2, [g.n, T], 1⟩ : Itm)]) ∧ Below w1.heap.size w1 w3) :=
          ⟨by have := hS.out.1; simp; omega, by rw [hst.out, if_neg hT0, List.map_append, hS.out.2.1]; rfl, hown3, hoH.out.2.2.2.2.2.trans hg3⟩
        clear hown3 hg3
        go_roundw
        case rel => exact ⟨k + 1, L ++ [(⟨some ⟨w2.heap.size, 0, none⟩, 2, [g.n, T], 1⟩ : Itm)], by omega, by go_num, hfin⟩
        case measure => simp [intOf]; omega
    · have hltz : ¬ (k : Int) < (gs.length : Int) := by omega
      have hke : gs.take k = gs := List.take_of_length_le (by omega)
      obtain ⟨A2, cap2, hv2, hn2, hit, _⟩ := hS.out.2.2.1.items
      have hlL : L.length ≤ 400 := by have := hS.out.1; omega
      have hfin : Hid (L.map Itm.z = countL (l.map Itm.z) c ∧ Lv wr A2 cap2 L ∧ Below w.heap.size w wr) := by
        refine ⟨?_, ⟨hit, hn2, by unfold maxLen; omega⟩, hR.out.bel.trans (hS.out.2.2.2.mono hR.out.bel.size)⟩
        have := hS.out.2.1
        rw [hke, hR.out.z, List.take_length] at this
        exact this
      subst hv2
      clear hke hit hn2
      go_wp2
      go_ret
      exact ⟨L, A2, cap2, rfl, hfin.out.1, hfin.out.2.1, hlL, hfin.out.2.2⟩
end Go.Proofs.Ytgmdjioobidadaa

namespace Go.Proofs.Ytgmdjioobidadaa
open Go.RowKit Go.Sort

theorem gr_drewN (w : World) (n : Nat) : Gr w (w.drewN n) := ⟨n, #[], by rw [grow_empty]⟩
theorem sumAtL_append (v : Int) (a b : List Zit) : sumAtL v (a ++ b) = sumAtL v a + sumAtL v b := by
  induction a with
  | nil => simp [sumAtL]
  | cons x a ih => simp only [List.cons_append, sumAtL, ih]; omega
theorem mul_bound {x y : Int} (hx : -1073741824 ≤ x ∧ x ≤ 1073741824) (hy : -1048576 ≤ y ∧ y ≤ 1048576) : -1125899906842624 ≤ x * y ∧ x * y ≤ 1125899906842624 := by
  have h1 : x.natAbs ≤ 1073741824 := by omega
  have h2 : y.natAbs ≤ 1048576 := by omega
  have h3 : (x * y).natAbs ≤ 1073741824 * 1048576 := by rw [Int.natAbs_mul]; exact Nat.mul_le_mul h1 h2
  omega
theorem at_mul {x : Itm} {v : Int} (h : okR x.r = true ∧ okW x.n = true) : -1125899906842624 ≤ atI x.r v * x.n ∧ atI x.r v * x.n ≤ 1125899906842624 := by
  have h1 := okN_at h.1 (c := v)
  have h2 := h.2
  simp only [okN, okW, inB, Bool.and_eq_true, decide_eq_true_eq] at h1 h2
  exact mul_bound h1 h2
theorem sumAtL_bound {l : List Itm} {v : Int} (h : ∀ x ∈ l, okR x.r = true ∧ okW x.n = true) : -((l.length : Int) * 1125899906842624) ≤ sumAtL v (l.map Itm.z) ∧ sumAtL v (l.map Itm.z) ≤ (l.length : Int) * 1125899906842624 := by
  induction l with
  | nil => simp [sumAtL]
  | cons x l ih =>
    have h1 := ih fun y hy => h y (List.mem_cons_of_mem _ hy)
    have h2 := at_mul (v := v) (h x (List.mem_cons_self ..))
    have e : sumAtL v ((x :: l).map Itm.z) = atI x.r v * x.n + sumAtL v (l.map Itm.z) := rfl
    rw [e]
    generalize atI x.r v * x.n = t at h2 ⊢
    simp only [List.length_cons]
    omega
theorem sumAtL_take {l : List Itm} {k : Nat} (h : k < l.length) (v : Int) : sumAtL v ((l.take (k + 1)).map Itm.z) = sumAtL v ((l.take k).map Itm.z) + atI l[k].r v * l[k].n := by
  rw [List.take_succ_eq_append_getElem h, List.map_append, sumAtL_append]
  simp [sumAtL, Itm.z]

set_option maxRecDepth 100000 in
set_option maxHeartbeats 1000000 in
theorem sumAt_any (l : List Itm) (A : Option Addr) (cap : Nat) (v : Int) (w : World) (hl : l.length ≤ 400) (hw : ∀ x ∈ l, okR x.r = true ∧ okW x.n = true) (hc : ∀ x ∈ l, inB v 0 ((x.r.length : Int) - 1) = true) (hr : Items w A l) :
    Calls Try.prog 64 #[.slice A l.length cap, .int .i64 v] w fun e w' => e = .returned (.int .i64 (sumAtL v (l.map Itm.z))) ∧ Gr w w' := by
  have hrH : Hid (Items w A l) := hr
  have hwH : Hid ((∀ x ∈ l, okR x.r = true ∧ okW x.n = true) ∧ ∀ x ∈ l, inB v 0 ((x.r.length : Int) - 1) = true) := ⟨hw, hc⟩
  clear hr hw hc
  go_enter Try.func64, Try.ntmps64
  go_wp2
  go_loopw [5, 10] (fun u i wr => ∃ k : Nat, k ≤ l.length ∧ i = .int .i64 k ∧ u = .int .i64 (sumAtL v ((l.take k).map Itm.z)) ∧ Hid (Gr w wr)) (fun _ i _ => l.length - (intOf i).toNat)
  case atStart => exact ⟨0, Nat.zero_le _, rfl, rfl, Gr.refl _⟩
  case round =>
    obtain ⟨k, hk, rfl, rfl, hg⟩ := hrel
    by_cases hlt : k < l.length
    · have hltz : (k : Int) < (l.length : Int) := by omega
      have hI : Hid (Items wr A l) := hrH.out.gr hg.out
      obtain ⟨bb, off, rfl, hb, hcs⟩ := hI.out.at hlt
      obtain ⟨x, hx⟩ : ∃ x, l[k] = x := ⟨_, rfl⟩
      obtain ⟨e0, e1⟩ := hcs k hlt
      rw [hx] at e0 e1
      have hxm : x ∈ l := by rw [← hx]; exact List.getElem_mem hlt
      obtain ⟨rb, ro, cn, hp, hrb, hcn, hcl, hcell⟩ := rowI_atI (hI.out.each x hxm).1 (hwH.out.2 x hxm)
      have hst : Hid (sumAtL v ((l.take (k + 1)).map Itm.z) = sumAtL v ((l.take k).map Itm.z) + atI x.r v * x.n) := by show _ = _; rw [sumAtL_take hlt, hx]
      have hbd := sumAtL_bound (l := l.take k) (v := v) (fun y hy => hwH.out.1 y (List.mem_of_mem_take hy))
      have hml := at_mul (v := v) (hwH.out.1 x hxm)
      have hlen : (l.take k).length ≤ 400 := by simp; omega
      obtain ⟨T, hT⟩ : ∃ T, sumAtL v ((l.take k).map Itm.z) = T := ⟨_, rfl⟩
      obtain ⟨nn, hnn⟩ : ∃ nn, atI x.r v = nn := ⟨_, rfl⟩
      rw [hT] at hst hbd ⊢
      rw [hnn] at hcell hst hml
      rw [hp] at e0
      have hw1 : IntKind.i64.wrap (nn * x.n) = nn * x.n := by rw [IntKind.wrap_i64]; omega
      have hw2 : IntKind.i64.wrap (T + nn * x.n) = T + nn * x.n := by rw [IntKind.wrap_i64]; omega
      have hgX : Hid (Gr w (wr.alloc (.cells #[.slice (some ⟨rb, ro, none⟩) x.r.length x.c, .int .i64 x.n] 45))) := hg.out.alloc _
      have y0 : (wr.alloc (.cells #[.slice (some ⟨rb, ro, none⟩) x.r.length x.c, .int .i64 x.n] 45)).cell? ⟨rb, ro + cn, none⟩ = some (.int .i64 nn) := (((Gr.refl _).alloc _).cell (p := ⟨rb, ro + cn, none⟩) hrb).trans hcell
      have hcz : (cn : Int) < (x.r.length : Int) := by omega
      obtain rfl := hcn
      clear hcs hx hxm hnn hp hcell hcl hbd hml hlen hT
      obtain ⟨M, hM⟩ : ∃ M, nn * x.n = M := ⟨_, rfl⟩
      rw [hM] at hw1 hw2 hst
      have hMH : Hid (nn * x.n = M) := hM
      obtain ⟨WX, hWX⟩ : ∃ WX, (wr.alloc (.cells #[.slice (some ⟨rb, ro, none⟩) x.r.length x.c, .int .i64 x.n] 45)) = WX := ⟨_, rfl⟩
      have x0 : WX.cell? ⟨wr.heap.size, 0, none⟩ = some (.slice (some ⟨rb, ro, none⟩) x.r.length x.c) := by rw [← hWX]; exact box1 (Gr.refl _) rfl
      have x1 : WX.cell? ⟨wr.heap.size, 1, none⟩ = some (.int .i64 x.n) := by rw [← hWX]; exact box1 (Gr.refl _) rfl
      rw [hWX] at y0 hgX
      go_wp2
      clear hWX
      go_quiet (fail)
      go_wp2
      go_roundw
      case rel => exact ⟨k + 1, by omega, by go_num, by rw [hst.out], hgX.out.trans (gr_drewN _ _)⟩
      case measure => simp [intOf]; omega
    · have hltz : ¬ (k : Int) < (l.length : Int) := by omega
      have hke : l.take k = l := List.take_of_length_le (by omega)
      rw [hke]
      clear hke
      go_wp2
      go_ret
      exact ⟨rfl, hg.out⟩
end Go.Proofs.Ytgmdjioobidadaa
