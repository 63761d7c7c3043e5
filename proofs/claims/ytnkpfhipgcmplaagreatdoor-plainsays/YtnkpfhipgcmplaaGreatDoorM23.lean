/-
  plain.sum.
  plain.itemsOfOne, plain.minus.
  plain.tell.
-/
import Derived.Test.YtnkpfhipgcmplaaGreatDoorM15
import Derived.Deep.RegionHeld3
import Derived.Deep.Cut
import Derived.Test.YtnkpfhipgcmplaaGreatDoorM18
import Derived.Test.YtnkpfhipgcmplaaGreatDoorM16
import Derived.Test.YtnkpfhipgcmplaaGreatDoorM19
import Derived.Test.YtnkpfhipgcmplaaGreatDoorM22
namespace Go.Proofs.YtnkpfhipgcmplaaGreatDoor
open Go.RowKit Go.Sort Go.Maps

theorem sum_take {gs : List Grp} {k : Nat} (h : k < gs.length) (v : Int) : ((gs.take (k + 1)).map Grp.z).filterMap (sumG v) = ((gs.take k).map Grp.z).filterMap (sumG v) ++ (if timesL (gs[k].l.map Itm.z) = 0 then [] else [([gs[k].n, sumAtL v (gs[k].l.map Itm.z)], 1)]) := by
  rw [List.take_succ_eq_append_getElem h, List.map_append, List.filterMap_append]
  congr 1
  by_cases e : timesL (gs[k].l.map Itm.z) = 0
  · rw [if_pos e]; simp [sumG, Grp.z, e]
  · rw [if_neg e]; simp [sumG, Grp.z, e]

set_option maxRecDepth 100000 in
set_option maxHeartbeats 1000000 in
theorem sumP_any (l : List Itm) (A : Option Addr) (cap : Nat) (c v : Int) (w : World) (hl : l.length ≤ 400) (hr : Items w A l) (hc : ∀ x ∈ l, inB c 0 ((x.r.length : Int) - 1) = true) (hv : ∀ x ∈ l, inB v 0 ((x.r.length : Int) - 1) = true) (hok : ∀ x ∈ l, okR x.r = true ∧ okW x.n = true) :
    Calls Tryz.prog 98 #[.slice A l.length cap, .int .i64 c, .int .i64 v] w fun e w' => ∃ (L : List Itm) (C : Option Addr) (k : Nat), e = .returned (.slice C L.length k) ∧ L.map Itm.z = sumL (l.map Itm.z) c v ∧ Lv w' C k L ∧ L.length ≤ 400 ∧ Below w.heap.size w w' := by
  have hrH : Hid (Items w A l ∧ (∀ x ∈ l, okW x.n = true) ∧ (∀ x ∈ l, okR x.r = true ∧ okW x.n = true) ∧ ∀ x ∈ l, inB v 0 ((x.r.length : Int) - 1) = true) := ⟨hr, fun x hx => (hok x hx).2, hok, hv⟩
  have hG : Hid _ := groups_any l A cap c w hl hr hc (fun x hx => (hok x hx).1)
  clear hr hc hok hv
  go_enter Tryz.func98, Tryz.ntmps98
  go_wp2_with fail
  refine Calls.mono (show Calls _ _ _ _ _ from hG.out) ?_
  rintro e w1 ⟨gs, vv, D, rfl, hR0⟩
  clear hG
  have hR : Hid (GInv w w1 l c l.length vv gs D) := hR0
  obtain ⟨GA, gcap, hvv, _, hrow, _⟩ := hR.out.gps.own.row encP_len
  have hrw : Hid (RowG encP 2 w1 GA gs) := hrow
  subst hvv
  clear hR0 hrow
  have hgl : gs.length ≤ 400 := Nat.le_trans hR.out.len hl
  go_wp2
  go_loopw [7, 20] (fun u i wr => ∃ (k : Nat) (L : List Itm), k ≤ gs.length ∧ i = .int .i64 k ∧ Hid (L.length ≤ k ∧ L.map Itm.z = ((gs.take k).map Grp.z).filterMap (sumG v) ∧ OwnT wr w1.heap.size u L ∧ Below w1.heap.size w1 wr)) (fun _ i _ => gs.length - (intOf i).toNat)
  case atStart => exact ⟨0, [], Nat.zero_le _, rfl, Nat.le_refl _, rfl, OwnT.nil _ _, Below.refl _ _⟩
  case round =>
    obtain ⟨k, L, hk, rfl, hS⟩ := hrel
    by_cases hlt : k < gs.length
    · have hltz : (k : Int) < (gs.length : Int) := by omega
      obtain ⟨bb, off, rfl, hb, hcs⟩ := (hrw.out.below hS.out.2.2.2).at hlt
      obtain ⟨g, hg⟩ : ∃ g, gs[k] = g := ⟨_, rfl⟩
      have e0 : wr.cell? ⟨bb, off + k * 2, none⟩ = some (.int .i64 g.n) := by have := hcs k hlt 0 (by omega); rw [hg] at this; simpa [encP] using this
      have e1 : wr.cell? ⟨bb, off + k * 2 + 1, none⟩ = some (.slice g.p g.l.length g.c) := by have := hcs k hlt 1 (by omega); rw [hg] at this; simpa [encP, Grp.v] using this
      have hgm : Hid (g ∈ gs) := by show _ ∈ _; rw [← hg]; exact List.getElem_mem hlt
      have hst : Hid (((gs.take (k + 1)).map Grp.z).filterMap (sumG v) = ((gs.take k).map Grp.z).filterMap (sumG v) ++ (if timesL (g.l.map Itm.z) = 0 then [] else [([g.n, sumAtL v (g.l.map Itm.z)], 1)])) := by show _ = _; rw [sum_take hlt, hg]
      clear hcs hg
      obtain ⟨WX, hWX⟩ : ∃ WX, (wr.alloc (.cells #[.int .i64 g.n, .slice g.p g.l.length g.c] 128)) = WX := ⟨_, rfl⟩
      have hgX : Hid (Gr wr WX) := by show Gr _ _; rw [← hWX]; exact (Gr.refl _).alloc _
      have y0 : WX.cell? ⟨wr.heap.size, 0, none⟩ = some (.int .i64 g.n) := by rw [← hWX]; exact box1 (Gr.refl _) rfl
      have y1 : WX.cell? ⟨wr.heap.size, 1, none⟩ = some (.slice g.p g.l.length g.c) := by rw [← hWX]; exact box1 (Gr.refl _) rfl
      have hsX : wr.heap.size < WX.heap.size := by rw [← hWX]; simp
      have hbX : Hid (Below w1.heap.size w1 WX) := hS.out.2.2.2.trans (hgX.out.below.mono hS.out.2.2.2.size)
      obtain ⟨T, hT⟩ : ∃ T, timesL (g.l.map Itm.z) = T := ⟨_, rfl⟩
      have hcall0 : Calls Tryz.prog 118 #[.slice g.p g.l.length g.c] WX fun e w' => e = .returned (.int .i64 T) ∧ Gr WX w' := by
        rw [← hT]
        have h1 := hR.out.sub g hgm.out
        exact times_any g.l g.p g.c WX (by omega) (fun x hx => hrH.out.2.1 x (h1.2 x hx)) (hR.out.items hrH.out.1 hbX.out hgm.out)
      have hcall : Hid _ := hcall0
      clear hcall0
      rw [hT] at hst
      clear hT
      cases hq : (T != 0)
      · have hT0 : T = 0 := by simpa using hq
        go_wp2_with (go_at_call 118; (refine Calls.mono (show Calls _ _ _ _ _ from hcall.out) ?_); rintro e w2 ⟨rfl, hg2⟩)
        have hfin : Hid (L.length ≤ k + 1 ∧ L.map Itm.z = ((gs.take (k + 1)).map Grp.z).filterMap (sumG v) ∧ OwnT w2 w1.heap.size u7 L ∧ Below w1.heap.size w1 w2) :=
          ⟨by have := hS.out.1; omega, by rw [hst.out, if_pos hT0, List.append_nil]; exact hS.out.2.1, (hS.out.2.2.1.gr hgX.out).gr hg2, hbX.out.trans (hg2.below.mono hbX.out.size)⟩
        go_roundw
        case rel => exact ⟨k + 1, L, by omega, by go_num, hfin⟩
        case measure => simp [intOf]; omega
      · have hT0 : ¬ T = 0 := by simpa using hq
        obtain ⟨U, hU⟩ : ∃ U, sumAtL v (g.l.map Itm.z) = U := ⟨_, rfl⟩
        rw [hU] at hst
        have hsum : Hid (∀ W, Below WX.heap.size WX W → Calls Tryz.prog 119 #[.slice g.p g.l.length g.c, .int .i64 v] W fun e w' => e = .returned (.int .i64 U) ∧ Gr W w') := fun W hW => by
          rw [← hU]
          have h1 := hR.out.sub g hgm.out
          exact sumAt_any g.l g.p g.c v W (by omega) (fun x hx => hrH.out.2.2.1 x (h1.2 x hx)) (fun x hx => hrH.out.2.2.2 x (h1.2 x hx)) (hR.out.items hrH.out.1 (hbX.out.trans (hW.mono hbX.out.size)) hgm.out)
        have hoF : Hid (∀ w3, Gr WX w3 → OwnT ((w3.alloc (.cells #[.int .i64 g.n, .int .i64 U] 3)).alloc (.cells #[.slice (some ⟨w3.heap.size, 0, none⟩) 2 2, .int .i64 1] 66)) w1.heap.size u7 L ∧ RowG encT 2 ((w3.alloc (.cells #[.int .i64 g.n, .int .i64 U] 3)).alloc (.cells #[.slice (some ⟨w3.heap.size, 0, none⟩) 2 2, .int .i64 1] 66)) (some ⟨w3.heap.size + 1, 0, none⟩) [(⟨some ⟨w3.heap.size, 0, none⟩, 2, [g.n, U], 1⟩ : Itm)] ∧ Apart ((w3.alloc (.cells #[.int .i64 g.n, .int .i64 U] 3)).alloc (.cells #[.slice (some ⟨w3.heap.size, 0, none⟩) 2 2, .int .i64 1] 66)) w1.heap.size u7.ownBlock (⟨some ⟨w3.heap.size, 0, none⟩, 2, [g.n, U], 1⟩ : Itm) ∧ L.length + 1 ≤ maxLen ∧ (L.length + 1) * 32 ≤ 140737488355328 ∧ Below w1.heap.size w1 ((w3.alloc (.cells #[.int .i64 g.n, .int .i64 U] 3)).alloc (.cells #[.slice (some ⟨w3.heap.size, 0, none⟩) 2 2, .int .i64 1] 66))) := fun w3 hg3 => by
          have hLk := hS.out.1
          have hg2 : Gr wr w3 := hgX.out.trans hg3
          have hb2 : Below w1.heap.size w1 w3 := hbX.out.trans (hg3.below.mono hbX.out.size)
          have h2 : Gr w3 ((w3.alloc (.cells #[.int .i64 g.n, .int .i64 U] 3)).alloc (.cells #[.slice (some ⟨w3.heap.size, 0, none⟩) 2 2, .int .i64 1] 66)) := ((Gr.refl _).alloc _).alloc _
          refine ⟨(hS.out.2.2.1.gr hg2).gr h2, rowNewT (by simp) (⟨some ⟨w3.heap.size, 0, none⟩, 2, [g.n, U], 1⟩ : Itm) _, ⟨(rowNew2 rfl g.n U _).gr ((Gr.refl _).alloc _), by simp [maxLen], fun h => (by cases h), fun a ha => ⟨?_, ?_, ?_⟩⟩, by unfold maxLen; omega, by omega, hb2.trans (h2.below.mono hb2.size)⟩
          · cases ha; exact hb2.size
          · cases ha; simp; omega
          · cases ha
            intro e
            have h3 := (World.ownsRow.lt hS.out.2.2.1.own w3.heap.size e).2
            have h4 := hg2.size
            omega
        have hub : Hid (∀ b, u7.ownBlock = some b → b < wr.heap.size) := fun b hb => (World.ownsRow.lt hS.out.2.2.1.own b hb).2
        clear hU
        go_wp2_with (go_at_call 118; (refine Calls.mono (show Calls _ _ _ _ _ from hcall.out) ?_); rintro e w2 ⟨rfl, hg2⟩)
        obtain ⟨gb, hgb⟩ : ∃ gb, wr.heap.size = gb := ⟨_, rfl⟩
        rw [hgb] at y0 y1 hsX hub ⊢
        have hgD : Hid (Gr WX w2.drew) := hg2.trans (Gr.refl _).drew
        have hKeep : Hid (∀ W', Gr WX W' → (fun w' => w'.cell? ⟨gb, 0, none⟩ = some (.int .i64 g.n) ∧ w'.cell? ⟨gb, 1, none⟩ = some (.slice g.p g.l.length g.c)) W') := fun W' h => ⟨(h.below.cell (p := ⟨gb, 0, none⟩) hsX).trans y0, (h.below.cell (p := ⟨gb, 1, none⟩) hsX).trans y1⟩
        have hKeep4 : Hid (∀ w3 w4, Gr WX w3 → ((w3.alloc (.cells #[.int .i64 g.n, .int .i64 U] 3)).alloc (.cells #[.slice (some ⟨w3.heap.size, 0, none⟩) 2 2, .int .i64 1] 66)).grownBy w4 u7.ownBlock → (fun w' => w'.cell? ⟨gb, 0, none⟩ = some (.int .i64 g.n) ∧ w'.cell? ⟨gb, 1, none⟩ = some (.slice g.p g.l.length g.c)) w4) := fun w3 w4 h3 h4 => by
          have hW : Gr WX ((w3.alloc (.cells #[.int .i64 g.n, .int .i64 U] 3)).alloc (.cells #[.slice (some ⟨w3.heap.size, 0, none⟩) 2 2, .int .i64 1] 66)) := (h3.alloc _).alloc _
          have hk := hKeep.out _ hW
          have hlt : gb < ((w3.alloc (.cells #[.int .i64 g.n, .int .i64 U] 3)).alloc (.cells #[.slice (some ⟨w3.heap.size, 0, none⟩) 2 2, .int .i64 1] 66)).heap.size := Nat.lt_of_lt_of_le hsX hW.size
          have hne : some gb ≠ u7.ownBlock := fun e => by have := hub.out _ e.symm; omega
          exact ⟨(World.cell?_of_block (a := ⟨gb, 0, none⟩) (h4.block _ hlt hne)).trans hk.1, (World.cell?_of_block (a := ⟨gb, 1, none⟩) (h4.block _ hlt hne)).trans hk.2⟩
        clear hg2 y0 y1 hcall
        refine wp_region_noPanic ?_
        refine wp_region_held_drew (S := (fun w' => w'.cell? ⟨gb, 0, none⟩ = some (.int .i64 g.n) ∧ w'.cell? ⟨gb, 1, none⟩ = some (.slice g.p g.l.length g.c))) (by kernel_rfl) (hKeep.out _ hgD.out) (fun hHeld => ?_)
        refine wpAnyH_take (i := 0) (oi := ?ois1) (v := ?vs1) ?hops1 ?hss1 ?hfs1 ?hrs1 ?hQs1 ?hys1 (by assumption) ?rests1
        case hops1 => (simp only [List.getElem?_toArray, List.getElem?_cons_zero]; rfl)
        case hss1 => kernel_rfl
        case hfs1 => kernel_rfl
        case hrs1 => kernel_rfl
        case hQs1 => exact fun _ _ _ h => h
        case hys1 => (refine Or.inl ⟨by rfl, ?_⟩; intro w hSw; (try dsimp only at hSw); go_simp <;> with_reducible rfl)
        try simp only [Act.put, List.setIfInBounds_toArray, List.set_cons_zero, List.set_cons_succ]
        refine wpAnyH_take (i := 1) (oi := ?ois2) (v := ?vs2) ?hops2 ?hss2 ?hfs2 ?hrs2 ?hQs2 ?hys2 (by assumption) ?rests2
        case hops2 => (simp only [List.getElem?_toArray, List.getElem?_cons_zero, List.getElem?_cons_succ]; rfl)
        case hss2 => kernel_rfl
        case hfs2 => kernel_rfl
        case hrs2 => kernel_rfl
        case hQs2 => exact fun _ _ _ h => h
        case hys2 => (refine Or.inl ⟨by rfl, ?_⟩; intro w hSw; (try dsimp only at hSw); go_simp <;> with_reducible rfl)
        try simp only [Act.put, List.setIfInBounds_toArray, List.set_cons_zero, List.set_cons_succ]
        refine wpAnyH_take (i := 2) (oi := ?ois3) (v := ?vs3) ?hops3 ?hss3 ?hfs3 ?hrs3 ?hQs3 ?hys3 (by assumption) ?rests3
        case hops3 => (simp only [List.getElem?_toArray, List.getElem?_cons_zero, List.getElem?_cons_succ]; rfl)
        case hss3 => kernel_rfl
        case hfs3 => kernel_rfl
        case hrs3 => kernel_rfl
        case hQs3 => exact fun _ _ _ h => h
        case hys3 => (refine Or.inl ⟨by rfl, ?_⟩; intro w hSw; (try dsimp only at hSw); go_simp <;> with_reducible rfl)
        try simp only [Act.put, List.setIfInBounds_toArray, List.set_cons_zero, List.set_cons_succ]
        refine wpAnyH_take (i := 3) (oi := ?ois4) (v := ?vs4) ?hops4 ?hss4 ?hfs4 ?hrs4 ?hQs4 ?hys4 (by assumption) ?rests4
        case hops4 => (simp only [List.getElem?_toArray, List.getElem?_cons_zero, List.getElem?_cons_succ]; rfl)
        case hss4 => kernel_rfl
        case hfs4 => kernel_rfl
        case hrs4 => kernel_rfl
        case hQs4 => exact fun _ _ _ h => h
        case hys4 => (refine Or.inl ⟨by rfl, ?_⟩; intro w hSw; (try dsimp only at hSw); go_simp <;> with_reducible rfl)
        try simp only [Act.put, List.setIfInBounds_toArray, List.set_cons_zero, List.set_cons_succ]
        refine wpAnyH_take (i := 4) (oi := ?ois5) (v := ?vs5) ?hops5 ?hss5 ?hfs5 ?hrs5 ?hQs5 ?hys5 (by assumption) ?rests5
        case hops5 => (simp only [List.getElem?_toArray, List.getElem?_cons_zero, List.getElem?_cons_succ]; rfl)
        case hss5 => kernel_rfl
        case hfs5 => kernel_rfl
        case hrs5 => kernel_rfl
        case hQs5 => exact fun _ _ _ h => h
        case hys5 => (refine Or.inl ⟨by rfl, ?_⟩; intro w hSw; (try dsimp only at hSw); go_simp <;> with_reducible rfl)
        try simp only [Act.put, List.setIfInBounds_toArray, List.set_cons_zero, List.set_cons_succ]
        refine wpAnyH_take (i := 5) (oi := ?ois6) (v := ?vs6) ?hops6 ?hss6 ?hfs6 ?hrs6 ?hQs6 ?hys6 (by assumption) ?rests6
        case hops6 => (simp only [List.getElem?_toArray, List.getElem?_cons_zero, List.getElem?_cons_succ]; rfl)
        case hss6 => kernel_rfl
        case hfs6 => kernel_rfl
        case hrs6 => kernel_rfl
        case hQs6 => exact fun _ _ _ h => h
        case hys6 => (refine Or.inl ⟨by rfl, ?_⟩; intro w hSw; (try dsimp only at hSw); go_simp <;> with_reducible rfl)
        try simp only [Act.put, List.setIfInBounds_toArray, List.set_cons_zero, List.set_cons_succ]
        refine wpAnyH_ready (rs := [6]) (by kernel_rfl) (by simp) ?_
        refine AllReadyH.cons (o := ?ois7) ?hops7 (fun K hK => ?steps7) ?mores7
        case hops7 => (simp only [List.getElem?_toArray, List.getElem?_cons_zero, List.getElem?_cons_succ]; rfl)
        case mores7 => exact AllReadyH.nil
        go_simp
        (go_at_call 119; (refine Calls.mono (hsum.out _ hgD.out.below) ?_); rintro e w3 ⟨rfl, hq3⟩; have hg3 : Hid (Gr WX w3) := hgD.out.trans hq3; clear hq3)
        first | (go_wp2_with fail) | skip
        refine hK.out _ _ ?_ (fun hHeld => ?_)
        · (try dsimp only); first | with_reducible exact hKeep.out _ hgD.out | with_reducible exact hKeep.out _ hg3.out | with_reducible exact hKeep.out _ (hg3.out.alloc _) | with_reducible exact hKeep.out _ ((hg3.out.alloc _).alloc _) | exact hk4.out
        clear hK K
        try simp only [Act.put, List.setIfInBounds_toArray, List.set_cons_zero, List.set_cons_succ]
        refine wpAnyH_ready (rs := [7]) (by kernel_rfl) (by simp) ?_
        refine AllReadyH.cons (o := ?ois8) ?hops8 (fun K hK => ?steps8) ?mores8
        case hops8 => (simp only [List.getElem?_toArray, List.getElem?_cons_zero, List.getElem?_cons_succ]; rfl)
        case mores8 => exact AllReadyH.nil
        go_simp
        refine hK.out _ _ ?_ (fun hHeld => ?_)
        · (try dsimp only); first | with_reducible exact hKeep.out _ hgD.out | with_reducible exact hKeep.out _ hg3.out | with_reducible exact hKeep.out _ (hg3.out.alloc _) | with_reducible exact hKeep.out _ ((hg3.out.alloc _).alloc _) | exact hk4.out
        clear hK K
        try simp only [Act.put, List.setIfInBounds_toArray, List.set_cons_zero, List.set_cons_succ]
        refine wpAnyH_take (i := 8) (oi := ?ois9) (v := ?vs9) ?hops9 ?hss9 ?hfs9 ?hrs9 ?hQs9 ?hys9 (by assumption) ?rests9
        case hops9 => (simp only [List.getElem?_toArray, List.getElem?_cons_zero, List.getElem?_cons_succ]; rfl)
        case hss9 => kernel_rfl
        case hfs9 => kernel_rfl
        case hrs9 => kernel_rfl
        case hQs9 => exact fun _ _ _ h => h
        case hys9 => (refine Or.inl ⟨by rfl, ?_⟩; intro w hSw; (try dsimp only at hSw); go_simp <;> with_reducible rfl)
        try simp only [Act.put, List.setIfInBounds_toArray, List.set_cons_zero, List.set_cons_succ]
        refine wpAnyH_ready (rs := [9]) (by kernel_rfl) (by simp) ?_
        refine AllReadyH.cons (o := ?ois10) ?hops10 (fun K hK => ?steps10) ?mores10
        case hops10 => (simp only [List.getElem?_toArray, List.getElem?_cons_zero, List.getElem?_cons_succ]; rfl)
        case mores10 => exact AllReadyH.nil
        go_simp
        refine hK.out _ _ ?_ (fun hHeld => ?_)
        · (try dsimp only); first | with_reducible exact hKeep.out _ hgD.out | with_reducible exact hKeep.out _ hg3.out | with_reducible exact hKeep.out _ (hg3.out.alloc _) | with_reducible exact hKeep.out _ ((hg3.out.alloc _).alloc _) | exact hk4.out
        clear hK K
        try simp only [Act.put, List.setIfInBounds_toArray, List.set_cons_zero, List.set_cons_succ]
        refine wpAnyH_ready (rs := [10]) (by kernel_rfl) (by simp) ?_
        refine AllReadyH.cons (o := ?ois11) ?hops11 (fun K hK => ?steps11) ?mores11
        case hops11 => (simp only [List.getElem?_toArray, List.getElem?_cons_zero, List.getElem?_cons_succ]; rfl)
        case mores11 => exact AllReadyH.nil
        (refine step_append_t _ rfl (.tmp 28) (.tmp 37) rfl w1.heap.size u7 L (⟨some ⟨w3.heap.size, 0, none⟩, 2, [g.n, U], 1⟩ : Itm) ⟨w3.heap.size + 1, 0, none⟩ 1 rfl rfl (hoF.out w3 hg3.out).1 (hoF.out w3 hg3.out).2.1 (hoF.out w3 hg3.out).2.2.1 (hoF.out w3 hg3.out).2.2.2.1 (hoF.out w3 hg3.out).2.2.2.2.1 (hoF.out w3 hg3.out).2.2.2.2.2.size ?_; intro v4 w4 hown4 hb4 hgb4; have hk4 : Hid ((fun w' => w'.cell? ⟨gb, 0, none⟩ = some (.int .i64 g.n) ∧ w'.cell? ⟨gb, 1, none⟩ = some (.slice g.p g.l.length g.c)) w4) := hKeep4.out w3 w4 hg3.out hgb4; have hfin : Hid ((L ++ [(⟨some ⟨w3.heap.size, 0, none⟩, 2, [g.n, U], 1⟩ : Itm)]).length ≤ k + 1 ∧ (L ++ [(⟨some ⟨w3.heap.size, 0, none⟩, 2, [g.n, U], 1⟩ : Itm)]).map Itm.z = ((gs.take (k + 1)).map Grp.z).filterMap (sumG v) ∧ OwnT w4 w1.heap.size v4 (L ++ [(⟨some ⟨w3.heap.size, 0, none⟩, 2, [g.n, U], 1⟩ : Itm)]) ∧ Below w1.heap.size w1 w4) := ⟨by have := hS.out.1; simp; omega, by rw [hst.out, if_neg hT0, List.map_append, hS.out.2.1]; rfl, hown4, (hoF.out w3 hg3.out).2.2.2.2.2.trans hb4⟩; clear hown4 hb4 hgb4)
        refine hK.out _ _ ?_ (fun hHeld => ?_)
        · (try dsimp only); first | with_reducible exact hKeep.out _ hgD.out | with_reducible exact hKeep.out _ hg3.out | with_reducible exact hKeep.out _ (hg3.out.alloc _) | with_reducible exact hKeep.out _ ((hg3.out.alloc _).alloc _) | exact hk4.out
        clear hK K
        try simp only [Act.put, List.setIfInBounds_toArray, List.set_cons_zero, List.set_cons_succ]
        refine wpAnyH_take (i := 11) (oi := ?ois12) (v := ?vs12) ?hops12 ?hss12 ?hfs12 ?hrs12 ?hQs12 ?hys12 (by assumption) ?rests12
        case hops12 => (simp only [List.getElem?_toArray, List.getElem?_cons_zero, List.getElem?_cons_succ]; rfl)
        case hss12 => kernel_rfl
        case hfs12 => kernel_rfl
        case hrs12 => kernel_rfl
        case hQs12 => exact fun _ _ _ h => h
        case hys12 => (refine Or.inl ⟨by rfl, ?_⟩; intro w hSw; (try dsimp only at hSw); go_simp <;> with_reducible rfl)
        try simp only [Act.put, List.setIfInBounds_toArray, List.set_cons_zero, List.set_cons_succ]
        refine wpAnyH_done (by kernel_rfl) ?_ _
        refine NoPanic.normal ?_
        go_wp2
        go_roundw
        case rel => exact ⟨k + 1, L ++ [(⟨some ⟨w3.heap.size, 0, none⟩, 2, [g.n, U], 1⟩ : Itm)], by omega, by go_num, hfin⟩
        case measure => simp [intOf]; omega
    · have hltz : ¬ (k : Int) < (gs.length : Int) := by omega
      have hke : gs.take k = gs := List.take_of_length_le (by omega)
      obtain ⟨A2, cap2, hv2, hn2, hit, _⟩ := hS.out.2.2.1.items
      have hlL : L.length ≤ 400 := by have := hS.out.1; omega
      have hfin : Hid (L.map Itm.z = sumL (l.map Itm.z) c v ∧ Lv wr A2 cap2 L ∧ Below w.heap.size w wr) := by
        refine ⟨?_, ⟨hit, hn2, by unfold maxLen; omega⟩, hR.out.bel.trans (hS.out.2.2.2.mono hR.out.bel.size)⟩
        have := hS.out.2.1
        rw [hke, hR.out.z, List.take_length] at this
        exact this
      subst hv2
      clear hke hit hn2
      go_wp2
      go_ret
      exact ⟨L, A2, cap2, rfl, hfin.out.1, hfin.out.2.1, hlL, hfin.out.2.2⟩
end Go.Proofs.YtnkpfhipgcmplaaGreatDoor

namespace Go.Proofs.YtnkpfhipgcmplaaGreatDoor
open Go.RowKit Go.Sort Go.Maps

/-- What a step that takes one set asks of it. -/
structure OneOk (s : Stp) (l : List Itm) : Prop where
  len : l.length ≤ 400
  ok : ∀ x ∈ l, okR x.r = true ∧ okW x.n = true
  k2 : s.k = 2 → inB s.o 1 3 = true ∧ ∀ x ∈ l, inB s.c 0 ((x.r.length : Int) - 1) = true
  k3 : s.k = 3 → s.l.length ≤ 8 ∧ ∀ x ∈ l, ∀ c ∈ s.l, inB c 0 ((x.r.length : Int) - 1) = true
  k8 : s.k = 8 → ∀ x ∈ l, inB s.c 0 ((x.r.length : Int) - 1) = true
  k9 : s.k = 9 → ∀ x ∈ l, inB s.c 0 ((x.r.length : Int) - 1) = true ∧ inB s.v 0 ((x.r.length : Int) - 1) = true

set_option maxRecDepth 100000 in
set_option maxHeartbeats 1000000 in
theorem one_any (s : Stp) (l : List Itm) (A : Option Addr) (cap : Nat) (w : World) (hk : s.k = 2 ∨ s.k = 3 ∨ s.k = 8 ∨ s.k = 7 ∨ s.k = 9) (ho : OneOk s l) (hr : Items w A l) (hs : RowI w s.p s.l) :
    Calls Tryz.prog 76 #[.agg #[.int .i64 s.k, .int .i64 s.a, .int .i64 s.b, .int .i64 s.c, .int .i64 s.o, .int .i64 s.v, .slice s.p s.l.length s.n], .slice A l.length cap] w fun e w' => ∃ (L : List Itm) (C : Option Addr) (k : Nat), e = .returned (.slice C L.length k) ∧ L.map Itm.z = oneF s (l.map Itm.z) ∧ Lv w' C k L ∧ L.length ≤ 400 ∧ Below w.heap.size w w' := by
  have hgX : Hid (Gr w (w.alloc (.cells #[.int .i64 s.k, .int .i64 s.a, .int .i64 s.b, .int .i64 s.c, .int .i64 s.o, .int .i64 s.v, .slice s.p s.l.length s.n] 88))) := (Gr.refl _).alloc _
  have hH : Hid (OneOk s l ∧ Items w A l ∧ RowI w s.p s.l) := ⟨ho, hr, hs⟩
  clear ho hr hs
  rcases hk with hk | hk | hk | hk | hk
  · have hC0 := where_any l A cap s.c s.o s.v (w.alloc (.cells #[.int .i64 2, .int .i64 s.a, .int .i64 s.b, .int .i64 s.c, .int .i64 s.o, .int .i64 s.v, .slice s.p s.l.length s.n] 88)) hH.out.1.len (hH.out.2.1.gr ((Gr.refl _).alloc _)) (hH.out.1.k2 hk).2 (hH.out.1.k2 hk).1
    have hC : Hid _ := hC0
    have hF : Hid (oneF s (l.map Itm.z) = whereL (l.map Itm.z) s.c s.o s.v) := by show _ = _; unfold oneF; rw [if_pos hk]
    clear hC0
    rw [hk]
    clear hk
    go_enter Tryz.func76, Tryz.ntmps76
    go_wp2_with fail
    refine Calls.mono (show Calls _ _ _ _ _ from hC.out) ?_
    rintro e w2 ⟨L, C, k, rfl, h1, h2, h3, h4⟩
    have hfin : Hid (L.map Itm.z = oneF s (l.map Itm.z) ∧ Lv w2 C k L ∧ Below w.heap.size w w2) := ⟨by rw [hF.out]; exact h1, h2, ((Gr.refl _).alloc _).below.trans (h4.mono (by simp))⟩
    clear h1 h2 h4
    go_wp2
    go_ret
    exact ⟨L, C, k, rfl, hfin.out.1, hfin.out.2.1, h3, hfin.out.2.2⟩
  · have hC0 := pick_any l A s.p cap s.n s.l (w.alloc (.cells #[.int .i64 3, .int .i64 s.a, .int .i64 s.b, .int .i64 s.c, .int .i64 s.o, .int .i64 s.v, .slice s.p s.l.length s.n] 88)) hH.out.1.len (hH.out.1.k3 hk).1 (hH.out.2.1.gr ((Gr.refl _).alloc _)) (hH.out.2.2.gr ((Gr.refl _).alloc _)) (hH.out.1.k3 hk).2
    have hC : Hid _ := hC0
    have hF : Hid (oneF s (l.map Itm.z) = pickL (l.map Itm.z) s.l) := by show _ = _; unfold oneF; rw [if_neg (by omega), if_pos hk]
    clear hC0
    rw [hk]
    clear hk
    go_enter Tryz.func76, Tryz.ntmps76
    go_wp2_with fail
    refine Calls.mono (show Calls _ _ _ _ _ from hC.out) ?_
    rintro e w2 ⟨L, C, k, rfl, h1, h2, h3, h4⟩
    have hfin : Hid (L.map Itm.z = oneF s (l.map Itm.z) ∧ Lv w2 C k L ∧ Below w.heap.size w w2) := ⟨by rw [hF.out]; exact h1, h2, ((Gr.refl _).alloc _).below.trans (h4.mono (by simp))⟩
    clear h1 h2 h4
    go_wp2
    go_ret
    exact ⟨L, C, k, rfl, hfin.out.1, hfin.out.2.1, h3, hfin.out.2.2⟩
  · have hC0 := count_any l A cap s.c (w.alloc (.cells #[.int .i64 8, .int .i64 s.a, .int .i64 s.b, .int .i64 s.c, .int .i64 s.o, .int .i64 s.v, .slice s.p s.l.length s.n] 88)) hH.out.1.len (hH.out.2.1.gr ((Gr.refl _).alloc _)) (hH.out.1.k8 hk) hH.out.1.ok
    have hC : Hid _ := hC0
    have hF : Hid (oneF s (l.map Itm.z) = countL (l.map Itm.z) s.c) := by show _ = _; unfold oneF; rw [if_neg (by omega), if_neg (by omega), if_neg (by omega), if_pos hk]
    clear hC0
    rw [hk]
    clear hk
    go_enter Tryz.func76, Tryz.ntmps76
    go_wp2_with fail
    refine Calls.mono (show Calls _ _ _ _ _ from hC.out) ?_
    rintro e w2 ⟨L, C, k, rfl, h1, h2, h3, h4⟩
    have hfin : Hid (L.map Itm.z = oneF s (l.map Itm.z) ∧ Lv w2 C k L ∧ Below w.heap.size w w2) := ⟨by rw [hF.out]; exact h1, h2, ((Gr.refl _).alloc _).below.trans (h4.mono (by simp))⟩
    clear h1 h2 h4
    go_wp2
    go_ret
    exact ⟨L, C, k, rfl, hfin.out.1, hfin.out.2.1, h3, hfin.out.2.2⟩
  · have hC0 := dist_any l A cap (w.alloc (.cells #[.int .i64 7, .int .i64 s.a, .int .i64 s.b, .int .i64 s.c, .int .i64 s.o, .int .i64 s.v, .slice s.p s.l.length s.n] 88)) hH.out.1.len (hH.out.2.1.gr ((Gr.refl _).alloc _))
    have hC : Hid _ := hC0
    have hF : Hid (oneF s (l.map Itm.z) = distL (l.map Itm.z)) := by show _ = _; unfold oneF; rw [if_neg (by omega), if_neg (by omega), if_pos hk]
    clear hC0
    rw [hk]
    clear hk
    go_enter Tryz.func76, Tryz.ntmps76
    go_wp2_with fail
    refine Calls.mono (show Calls _ _ _ _ _ from hC.out) ?_
    rintro e w2 ⟨L, C, k, rfl, h1, h2, h3, h4⟩
    have hfin : Hid (L.map Itm.z = oneF s (l.map Itm.z) ∧ Lv w2 C k L ∧ Below w.heap.size w w2) := ⟨by rw [hF.out]; exact h1, h2, ((Gr.refl _).alloc _).below.trans (h4.mono (by simp))⟩
    clear h1 h2 h4
    go_wp2
    go_ret
    exact ⟨L, C, k, rfl, hfin.out.1, hfin.out.2.1, h3, hfin.out.2.2⟩
  · have hC0 := sumP_any l A cap s.c s.v (w.alloc (.cells #[.int .i64 9, .int .i64 s.a, .int .i64 s.b, .int .i64 s.c, .int .i64 s.o, .int .i64 s.v, .slice s.p s.l.length s.n] 88)) hH.out.1.len (hH.out.2.1.gr ((Gr.refl _).alloc _)) (fun x hx => (hH.out.1.k9 hk x hx).1) (fun x hx => (hH.out.1.k9 hk x hx).2) hH.out.1.ok
    have hC : Hid _ := hC0
    have hF : Hid (oneF s (l.map Itm.z) = sumL (l.map Itm.z) s.c s.v) := by show _ = _; unfold oneF; rw [if_neg (by omega), if_neg (by omega), if_neg (by omega), if_neg (by omega)]
    clear hC0
    rw [hk]
    clear hk
    go_enter Tryz.func76, Tryz.ntmps76
    go_wp2_with fail
    refine Calls.mono (show Calls _ _ _ _ _ from hC.out) ?_
    rintro e w2 ⟨L, C, k, rfl, h1, h2, h3, h4⟩
    have hfin : Hid (L.map Itm.z = oneF s (l.map Itm.z) ∧ Lv w2 C k L ∧ Below w.heap.size w w2) := ⟨by rw [hF.out]; exact h1, h2, ((Gr.refl _).alloc _).below.trans (h4.mono (by simp))⟩
    clear h1 h2 h4
    go_wp2
    go_ret
    exact ⟨L, C, k, rfl, hfin.out.1, hfin.out.2.1, h3, hfin.out.2.2⟩

theorem negL_ok' {b : List Zit} (h : errZ b = 0) : negL b = negP b := by unfold negL; rw [if_pos h]; rfl
set_option maxRecDepth 100000 in
set_option maxHeartbeats 1000000 in
theorem minus_any (a b : List Itm) (A B : Option Addr) (ca cb : Nat) (w : World) (ha : Lv w A ca a) (hb : Lv w B cb b) (he : errZ (b.map Itm.z) = 0) :
    Calls Tryz.prog 75 #[.slice A a.length ca, .slice B b.length cb] w fun e w' => ∃ (L : List Itm) (C : Option Addr) (k : Nat), e = .returned (.tuple #[.slice C L.length k, .int .i64 (minE (a.map Itm.z) (b.map Itm.z))]) ∧ L.map Itm.z = minF (a.map Itm.z) (b.map Itm.z) ∧ Lv w' C k L ∧ Below w.heap.size w w' ∧ NewT w.heap.size C L := by
  have hN0 := negV hb (m := b.map Itm.z) rfl
  have hN : Hid _ := hN0
  have hH : Hid (Lv w A ca a ∧ errZ (b.map Itm.z) = 0) := ⟨ha, he⟩
  clear hN0 ha hb
  rw [he] at hN
  clear he
  go_enter Tryz.func75, Tryz.ntmps75
  go_wp2_with fail
  refine Calls.mono (show Calls _ _ _ _ _ from hN.out) ?_
  rintro e w1 ⟨L1, C1, k1, rfl, h1, h2, h3⟩
  have hA0 := addVn (hH.out.1.below h3) h2 (m := a.map Itm.z) (n := negP (b.map Itm.z)) rfl (by rw [h1, negL_ok' hH.out.2])
  have hA : Hid _ := hA0
  have hB : Hid (Below w.heap.size w w1) := h3
  clear hA0 h1 h2 h3 hN
  go_wp2_with fail
  refine Calls.mono (show Calls _ _ _ _ _ from hA.out) ?_
  rintro e w2 ⟨L, C, k, rfl, h1, h2, h3, h4⟩
  have hNw : Hid (NewT w.heap.size C L) := h4.mono hB.out.size
  have hfin : Hid (addE (a.map Itm.z) (negP (b.map Itm.z)) = minE (a.map Itm.z) (b.map Itm.z) ∧ L.map Itm.z = minF (a.map Itm.z) (b.map Itm.z) ∧ Lv w2 C k L ∧ Below w.heap.size w w2) := by
    have hm : minE (a.map Itm.z) (b.map Itm.z) = addE (a.map Itm.z) (negP (b.map Itm.z)) := by unfold minE; rw [if_pos hH.out.2]
    refine ⟨hm.symm, ?_, h2, hB.out.trans (h3.mono hB.out.size)⟩
    rw [h1]
    unfold minF
    rw [hm]
    by_cases e : addE (a.map Itm.z) (negP (b.map Itm.z)) = 0
    · rw [if_pos e]
    · rw [if_neg e]; unfold addL; rw [if_neg e]
  clear h1 h2 h3 h4 hA
  go_wp2
  go_ret2
  exact ⟨L, C, k, by rw [hfin.out.1]; rfl, hfin.out.2.1, hfin.out.2.2.1, hfin.out.2.2.2, hNw.out⟩
theorem minusV {W : World} {A B : Option Addr} {c d : Nat} {l r : List Itm} (h : Lv W A c l) (h' : Lv W B d r) (he : errZ (r.map Itm.z) = 0) {m n : List Zit} (hm : l.map Itm.z = m) (hn : r.map Itm.z = n) :
    Calls Tryz.prog 75 #[.slice A l.length c, .slice B r.length d] W fun e w' => ∃ (L : List Itm) (C : Option Addr) (k : Nat), e = .returned (.tuple #[.slice C L.length k, .int .i64 (minE m n)]) ∧ L.map Itm.z = minF m n ∧ Lv w' C k L ∧ Below W.heap.size W w' ∧ NewT W.heap.size C L := by
  subst hm hn
  exact minus_any l r A B c d W h h' he
/-- What a join asks of its sets. -/
structure JoinOk (c v : Int) (l r : List Itm) : Prop where
  la : l.length ≤ 400
  lb : r.length ≤ 400
  c : ∀ x ∈ l, inB c 0 ((x.r.length : Int) - 1) = true
  v : ∀ x ∈ r, inB v 0 ((x.r.length : Int) - 1) = true
  oa : ∀ x ∈ l, okR x.r = true ∧ okW x.n = true
  ob : ∀ x ∈ r, okR x.r = true ∧ okW x.n = true
theorem joinV {W : World} {A B : Option Addr} {c d : Nat} {l r : List Itm} {cc v : Int} (h : Lv W A c l) (h' : Lv W B d r) (hJ : JoinOk cc v l r) {m n : List Zit} (hm : l.map Itm.z = m) (hn : r.map Itm.z = n) :
    Calls Tryz.prog 74 #[.slice A l.length c, .slice B r.length d, .int .i64 cc, .int .i64 v] W fun e w' => ∃ (L : List Itm) (C : Option Addr) (k : Nat), e = .returned (.tuple #[.slice C L.length k, .int .i64 (joinE m n cc v)]) ∧ L.map Itm.z = joinF m n cc v ∧ Lv w' C k L ∧ Below W.heap.size W w' ∧ NewT W.heap.size C L := by
  subst hm hn
  exact join_any l r A B c d cc v W hJ.la hJ.lb h h' hJ.c hJ.v hJ.oa hJ.ob
end Go.Proofs.YtnkpfhipgcmplaaGreatDoor

namespace Go.Proofs.YtnkpfhipgcmplaaGreatDoor
open Go.RowKit Go.Sort Go.Maps

/-- The sets of the steps ahead, in memory. -/
structure Sts (w : World) (A : Option Addr) (ss : List Sl) (S : List (List Zit)) : Prop where
  row : RowG encS 1 w A ss
  each : ∀ s ∈ ss, Lv w s.A s.cap s.l
  z : ss.map (fun s => s.l.map Itm.z) = S
theorem Sts.below {w w' : World} {A : Option Addr} {ss : List Sl} {S : List (List Zit)} (h : Sts w A ss S) (q : Below w.heap.size w w') : Sts w' A ss S := ⟨h.row.below q, fun s hs => (h.each s hs).below q, h.z⟩
theorem Sts.gr {w w' : World} {A : Option Addr} {ss : List Sl} {S : List (List Zit)} (h : Sts w A ss S) (q : Gr w w') : Sts w' A ss S := h.below q.below
theorem Sts.at {w : World} {A : Option Addr} {ss : List Sl} {S : List (List Zit)} (h : Sts w A ss S) {i : Int} (h0 : 0 ≤ i) (hi : i.toNat < S.length) : ∃ (b off n : Nat) (x : Sl), A = some ⟨b, off, none⟩ ∧ b < w.heap.size ∧ i = n ∧ n < ss.length ∧ w.cell? ⟨b, off + n, none⟩ = some (.slice x.A x.l.length x.cap) ∧ Lv w x.A x.cap x.l ∧ x.l.map Itm.z = getS S i := by
  have hl : i.toNat < ss.length := by
    have := congrArg List.length h.z
    simp at this
    omega
  obtain ⟨b, off, hA, hb, hc⟩ := h.row.at hl
  refine ⟨b, off, i.toNat, ss[i.toNat], hA, hb, by omega, hl, ?_, h.each _ (List.getElem_mem hl), ?_⟩
  · have := hc i.toNat hl 0 (by omega)
    simpa [encS] using this
  · unfold getS
    rw [← h.z, List.getD_eq_getElem?_getD, List.getElem?_map, List.getElem?_eq_getElem hl]
    rfl
set_option maxRecDepth 100000 in
set_option maxHeartbeats 1000000 in
theorem tell1 (s : Stp) (a b : List Itm) (A B : Option Addr) (ca cb : Nat) (SA : Option Addr) (sc : Nat) (ss : List Sl) (S : List (List Zit)) (w : World) (hk : s.k = 1) (hp : s.a = 0 ∨ s.a = 1) (ha : Lv w A ca a) (hb : Lv w B cb b) :
    Calls Tryz.prog 54 #[.agg #[.int .i64 s.k, .int .i64 s.a, .int .i64 s.b, .int .i64 s.c, .int .i64 s.o, .int .i64 s.v, .slice s.p s.l.length s.n], .agg #[.slice A a.length ca, .slice B b.length cb], .slice SA ss.length sc] w fun e w' => ∃ (L : List Itm) (C : Option Addr) (k : Nat), e = .returned (.tuple #[.slice C L.length k, .int .i64 (tellE s (a.map Itm.z) (b.map Itm.z) S)]) ∧ L.map Itm.z = tellF s (a.map Itm.z) (b.map Itm.z) S ∧ Lv w' C k L ∧ Below w.heap.size w w' ∧ NewT w.heap.size C L := by
  have hH : Hid (Lv w A ca a ∧ Lv w B cb b) := ⟨ha, hb⟩
  clear ha hb
  have hE : Hid (tellE s (a.map Itm.z) (b.map Itm.z) S = normE (tabF s (a.map Itm.z) (b.map Itm.z)) ∧ tellF s (a.map Itm.z) (b.map Itm.z) S = normL (tabF s (a.map Itm.z) (b.map Itm.z))) := ⟨by unfold tellE; rw [if_pos hk], by unfold tellF; rw [if_pos hk]⟩
  rcases hp with hp | hp
  · have hT : Hid (tabF s (a.map Itm.z) (b.map Itm.z) = a.map Itm.z) := by show _ = _; unfold tabF; rw [if_pos hp]
    have hN0 := normVn (hH.out.1.gr (((Gr.refl _).alloc _).alloc _)) (W := ((w.alloc (.cells #[.int .i64 1, .int .i64 0, .int .i64 s.b, .int .i64 s.c, .int .i64 s.o, .int .i64 s.v, .slice s.p s.l.length s.n] 88)).alloc (.cells #[.slice A a.length ca, .slice B b.length cb] 56))) (m := a.map Itm.z) rfl
    have hN : Hid _ := hN0
    clear hN0
    obtain ⟨E, hE2⟩ : ∃ E, tellE s (a.map Itm.z) (b.map Itm.z) S = E := ⟨_, rfl⟩
    have hE3 : Hid (normE (a.map Itm.z) = E) := by show _ = _; rw [← hE2, hE.out.1, hT.out]
    rw [hE2, hk, hp]
    clear hk hp hE2
    go_enter Tryz.func54, Tryz.ntmps54
    go_wp2_with fail
    refine Calls.mono (show Calls _ _ _ _ _ from hN.out) ?_
    rintro e w2 ⟨L, C, k, rfl, h1, h2, h3, h4⟩
    rw [hE3.out]
    have hfin : Hid (L.map Itm.z = tellF s (a.map Itm.z) (b.map Itm.z) S ∧ Lv w2 C k L ∧ Below w.heap.size w w2 ∧ NewT w.heap.size C L) := ⟨by rw [hE.out.2, hT.out]; exact h1, h2, (((Gr.refl w).alloc _).alloc _).below.trans (h3.mono (by simp; omega)), h4.mono (by simp; omega)⟩
    clear h1 h2 h3 h4 hN
    go_wp2
    go_ret2
    exact ⟨L, C, k, rfl, hfin.out.1, hfin.out.2.1, hfin.out.2.2⟩
  · have hT : Hid (tabF s (a.map Itm.z) (b.map Itm.z) = b.map Itm.z) := by show _ = _; unfold tabF; rw [if_neg (by omega)]
    have hN0 := normVn (hH.out.2.gr (((Gr.refl _).alloc _).alloc _)) (W := ((w.alloc (.cells #[.int .i64 1, .int .i64 1, .int .i64 s.b, .int .i64 s.c, .int .i64 s.o, .int .i64 s.v, .slice s.p s.l.length s.n] 88)).alloc (.cells #[.slice A a.length ca, .slice B b.length cb] 56))) (m := b.map Itm.z) rfl
    have hN : Hid _ := hN0
    clear hN0
    obtain ⟨E, hE2⟩ : ∃ E, tellE s (a.map Itm.z) (b.map Itm.z) S = E := ⟨_, rfl⟩
    have hE3 : Hid (normE (b.map Itm.z) = E) := by show _ = _; rw [← hE2, hE.out.1, hT.out]
    rw [hE2, hk, hp]
    clear hk hp hE2
    go_enter Tryz.func54, Tryz.ntmps54
    go_wp2_with fail
    refine Calls.mono (show Calls _ _ _ _ _ from hN.out) ?_
    rintro e w2 ⟨L, C, k, rfl, h1, h2, h3, h4⟩
    rw [hE3.out]
    have hfin : Hid (L.map Itm.z = tellF s (a.map Itm.z) (b.map Itm.z) S ∧ Lv w2 C k L ∧ Below w.heap.size w w2 ∧ NewT w.heap.size C L) := ⟨by rw [hE.out.2, hT.out]; exact h1, h2, (((Gr.refl w).alloc _).alloc _).below.trans (h3.mono (by simp; omega)), h4.mono (by simp; omega)⟩
    clear h1 h2 h3 h4 hN
    go_wp2
    go_ret2
    exact ⟨L, C, k, rfl, hfin.out.1, hfin.out.2.1, hfin.out.2.2⟩
set_option maxRecDepth 100000 in
set_option maxHeartbeats 1000000 in
theorem tell5 (s : Stp) (a b : List Itm) (A B : Option Addr) (ca cb : Nat) (SA : Option Addr) (sc : Nat) (ss : List Sl) (S : List (List Zit)) (w : World) (hk : s.k = 5) (ha0 : 0 ≤ s.a) (ha1 : s.a.toNat < S.length) (hb0 : 0 ≤ s.b) (hb1 : s.b.toNat < S.length) (hS : Sts w SA ss S) :
    Calls Tryz.prog 54 #[.agg #[.int .i64 s.k, .int .i64 s.a, .int .i64 s.b, .int .i64 s.c, .int .i64 s.o, .int .i64 s.v, .slice s.p s.l.length s.n], .agg #[.slice A a.length ca, .slice B b.length cb], .slice SA ss.length sc] w fun e w' => ∃ (L : List Itm) (C : Option Addr) (k : Nat), e = .returned (.tuple #[.slice C L.length k, .int .i64 (tellE s (a.map Itm.z) (b.map Itm.z) S)]) ∧ L.map Itm.z = tellF s (a.map Itm.z) (b.map Itm.z) S ∧ Lv w' C k L ∧ Below w.heap.size w w' ∧ NewT w.heap.size C L := by
  have hE : Hid (tellE s (a.map Itm.z) (b.map Itm.z) S = addE (getS S s.a) (getS S s.b) ∧ tellF s (a.map Itm.z) (b.map Itm.z) S = addL (getS S s.a) (getS S s.b)) := ⟨by unfold tellE; rw [if_neg (by omega), if_neg (by omega), if_pos hk], by unfold tellF; rw [if_neg (by omega), if_neg (by omega), if_pos hk]⟩
  obtain ⟨bb, off, na, x, hA, hbb, hna, hnal, hxc, hxl, hxz⟩ := hS.at ha0 ha1
  obtain ⟨bb', off', nb, y, hA', _, hnb, hnbl, hyc, hyl, hyz⟩ := hS.at hb0 hb1
  subst hA
  cases hA'
  obtain ⟨E, hE2⟩ : ∃ E, tellE s (a.map Itm.z) (b.map Itm.z) S = E := ⟨_, rfl⟩
  have hE3 : Hid (addE (getS S s.a) (getS S s.b) = E) := by show _ = _; rw [← hE2, hE.out.1]
  have hgW : Hid (Gr w ((w.alloc (.cells #[.int .i64 5, .int .i64 (na : Int), .int .i64 (nb : Int), .int .i64 s.c, .int .i64 s.o, .int .i64 s.v, .slice s.p s.l.length s.n] 88)).alloc (.cells #[.slice A a.length ca, .slice B b.length cb] 56))) := ((Gr.refl _).alloc _).alloc _
  obtain ⟨WX, hWX⟩ : ∃ WX, ((w.alloc (.cells #[.int .i64 5, .int .i64 (na : Int), .int .i64 (nb : Int), .int .i64 s.c, .int .i64 s.o, .int .i64 s.v, .slice s.p s.l.length s.n] 88)).alloc (.cells #[.slice A a.length ca, .slice B b.length cb] 56)) = WX := ⟨_, rfl⟩
  have q0 : WX.cell? ⟨w.heap.size, 0, none⟩ = some (.int .i64 5) := by rw [← hWX]; exact box1 (w := w) ((Gr.refl _).alloc _) rfl
  have q1 : WX.cell? ⟨w.heap.size, 1, none⟩ = some (.int .i64 (na : Int)) := by rw [← hWX]; exact box1 (w := w) ((Gr.refl _).alloc _) rfl
  have q2 : WX.cell? ⟨w.heap.size, 2, none⟩ = some (.int .i64 (nb : Int)) := by rw [← hWX]; exact box1 (w := w) ((Gr.refl _).alloc _) rfl
  have hsb : w.heap.size < WX.heap.size := by rw [← hWX]; simp; omega
  rw [hWX] at hgW
  have hC0 := addVn ((hxl.gr hgW.out).gr (Gr.refl _).drew) ((hyl.gr hgW.out).gr (Gr.refl _).drew) hxz hyz (W := WX.drew)
  have hC : Hid _ := hC0
  clear hC0
  have hKeep : Hid (∀ W', Below WX.heap.size WX W' → (fun w' => w'.cell? ⟨w.heap.size, 1, none⟩ = some (.int .i64 (na : Int)) ∧ w'.cell? ⟨w.heap.size, 2, none⟩ = some (.int .i64 (nb : Int)) ∧ w'.cell? ⟨bb, off + na, none⟩ = some (.slice x.A x.l.length x.cap) ∧ w'.cell? ⟨bb, off + nb, none⟩ = some (.slice y.A y.l.length y.cap)) W') := fun W' h => ⟨(h.cell (p := ⟨w.heap.size, 1, none⟩) hsb).trans q1, (h.cell (p := ⟨w.heap.size, 2, none⟩) hsb).trans q2, (h.cell (p := ⟨bb, off + na, none⟩) (Nat.lt_of_lt_of_le hbb hgW.out.size)).trans ((hgW.out.below.cell (p := ⟨bb, off + na, none⟩) hbb).trans hxc), (h.cell (p := ⟨bb, off + nb, none⟩) (Nat.lt_of_lt_of_le hbb hgW.out.size)).trans ((hgW.out.below.cell (p := ⟨bb, off + nb, none⟩) hbb).trans hyc)⟩
  have hbD : Hid (Below WX.heap.size WX WX.drew) := (Below.refl _ _).drew
  have hnaz : (na : Int) < (ss.length : Int) := by omega
  have hnbz : (nb : Int) < (ss.length : Int) := by omega
  rw [hE2, hk, hna, hnb]
  clear hk hE2 hxc hyc hxl hyl hxz hyz hna hnb ha0 ha1 hb0 hb1 hnal hnbl hbb q1 q2 hS
  go_enter Tryz.func54, Tryz.ntmps54
  go_wp2_with fail
  clear hWX
  refine wp_region_noPanic ?_
  refine wp_region_held_drew (S := (fun w' => w'.cell? ⟨w.heap.size, 1, none⟩ = some (.int .i64 (na : Int)) ∧ w'.cell? ⟨w.heap.size, 2, none⟩ = some (.int .i64 (nb : Int)) ∧ w'.cell? ⟨bb, off + na, none⟩ = some (.slice x.A x.l.length x.cap) ∧ w'.cell? ⟨bb, off + nb, none⟩ = some (.slice y.A y.l.length y.cap))) (by kernel_rfl) (hKeep.out _ hbD.out) (fun hHeld => ?_)
  refine wpAnyH_take (i := 0) (oi := ?oitell51) (v := ?vtell51) ?hoptell51 ?hstell51 ?hftell51 ?hrtell51 ?hQtell51 ?hytell51 (by assumption) ?resttell51
  case hoptell51 => (simp only [List.getElem?_toArray, List.getElem?_cons_zero]; rfl)
  case hstell51 => kernel_rfl
  case hftell51 => kernel_rfl
  case hrtell51 => kernel_rfl
  case hQtell51 => exact fun _ _ _ h => h
  case hytell51 => (refine Or.inl ⟨by rfl, ?_⟩; intro w hSw; (try dsimp only at hSw); go_simp <;> with_reducible rfl)
  try simp only [Act.put, List.setIfInBounds_toArray, List.set_cons_zero, List.set_cons_succ]
  refine wpAnyH_take (i := 1) (oi := ?oitell52) (v := ?vtell52) ?hoptell52 ?hstell52 ?hftell52 ?hrtell52 ?hQtell52 ?hytell52 (by assumption) ?resttell52
  case hoptell52 => (simp only [List.getElem?_toArray, List.getElem?_cons_zero, List.getElem?_cons_succ]; rfl)
  case hstell52 => kernel_rfl
  case hftell52 => kernel_rfl
  case hrtell52 => kernel_rfl
  case hQtell52 => exact fun _ _ _ h => h
  case hytell52 => (refine Or.inl ⟨by rfl, ?_⟩; intro w hSw; (try dsimp only at hSw); go_simp <;> with_reducible rfl)
  try simp only [Act.put, List.setIfInBounds_toArray, List.set_cons_zero, List.set_cons_succ]
  refine wpAnyH_take (i := 2) (oi := ?oitell53) (v := ?vtell53) ?hoptell53 ?hstell53 ?hftell53 ?hrtell53 ?hQtell53 ?hytell53 (by assumption) ?resttell53
  case hoptell53 => (simp only [List.getElem?_toArray, List.getElem?_cons_zero, List.getElem?_cons_succ]; rfl)
  case hstell53 => kernel_rfl
  case hftell53 => kernel_rfl
  case hrtell53 => kernel_rfl
  case hQtell53 => exact fun _ _ _ h => h
  case hytell53 => (refine Or.inl ⟨by rfl, ?_⟩; intro w hSw; (try dsimp only at hSw); go_simp <;> with_reducible rfl)
  try simp only [Act.put, List.setIfInBounds_toArray, List.set_cons_zero, List.set_cons_succ]
  refine wpAnyH_take (i := 3) (oi := ?oitell54) (v := ?vtell54) ?hoptell54 ?hstell54 ?hftell54 ?hrtell54 ?hQtell54 ?hytell54 (by assumption) ?resttell54
  case hoptell54 => (simp only [List.getElem?_toArray, List.getElem?_cons_zero, List.getElem?_cons_succ]; rfl)
  case hstell54 => kernel_rfl
  case hftell54 => kernel_rfl
  case hrtell54 => kernel_rfl
  case hQtell54 => exact fun _ _ _ h => h
  case hytell54 => (refine Or.inl ⟨by rfl, ?_⟩; intro w hSw; (try dsimp only at hSw); go_simp <;> with_reducible rfl)
  try simp only [Act.put, List.setIfInBounds_toArray, List.set_cons_zero, List.set_cons_succ]
  refine wpAnyH_take (i := 4) (oi := ?oitell55) (v := ?vtell55) ?hoptell55 ?hstell55 ?hftell55 ?hrtell55 ?hQtell55 ?hytell55 (by assumption) ?resttell55
  case hoptell55 => (simp only [List.getElem?_toArray, List.getElem?_cons_zero, List.getElem?_cons_succ]; rfl)
  case hstell55 => kernel_rfl
  case hftell55 => kernel_rfl
  case hrtell55 => kernel_rfl
  case hQtell55 => exact fun _ _ _ h => h
  case hytell55 => (refine Or.inl ⟨by rfl, ?_⟩; intro w hSw; (try dsimp only at hSw); go_simp <;> with_reducible rfl)
  try simp only [Act.put, List.setIfInBounds_toArray, List.set_cons_zero, List.set_cons_succ]
  refine wpAnyH_take (i := 5) (oi := ?oitell56) (v := ?vtell56) ?hoptell56 ?hstell56 ?hftell56 ?hrtell56 ?hQtell56 ?hytell56 (by assumption) ?resttell56
  case hoptell56 => (simp only [List.getElem?_toArray, List.getElem?_cons_zero, List.getElem?_cons_succ]; rfl)
  case hstell56 => kernel_rfl
  case hftell56 => kernel_rfl
  case hrtell56 => kernel_rfl
  case hQtell56 => exact fun _ _ _ h => h
  case hytell56 => (refine Or.inl ⟨by rfl, ?_⟩; intro w hSw; (try dsimp only at hSw); go_simp <;> with_reducible rfl)
  try simp only [Act.put, List.setIfInBounds_toArray, List.set_cons_zero, List.set_cons_succ]
  refine wpAnyH_take (i := 6) (oi := ?oitell57) (v := ?vtell57) ?hoptell57 ?hstell57 ?hftell57 ?hrtell57 ?hQtell57 ?hytell57 (by assumption) ?resttell57
  case hoptell57 => (simp only [List.getElem?_toArray, List.getElem?_cons_zero, List.getElem?_cons_succ]; rfl)
  case hstell57 => kernel_rfl
  case hftell57 => kernel_rfl
  case hrtell57 => kernel_rfl
  case hQtell57 => exact fun _ _ _ h => h
  case hytell57 => (refine Or.inl ⟨by rfl, ?_⟩; intro w hSw; (try dsimp only at hSw); go_simp <;> with_reducible rfl)
  try simp only [Act.put, List.setIfInBounds_toArray, List.set_cons_zero, List.set_cons_succ]
  refine wpAnyH_take (i := 7) (oi := ?oitell58) (v := ?vtell58) ?hoptell58 ?hstell58 ?hftell58 ?hrtell58 ?hQtell58 ?hytell58 (by assumption) ?resttell58
  case hoptell58 => (simp only [List.getElem?_toArray, List.getElem?_cons_zero, List.getElem?_cons_succ]; rfl)
  case hstell58 => kernel_rfl
  case hftell58 => kernel_rfl
  case hrtell58 => kernel_rfl
  case hQtell58 => exact fun _ _ _ h => h
  case hytell58 => (refine Or.inl ⟨by rfl, ?_⟩; intro w hSw; (try dsimp only at hSw); go_simp <;> with_reducible rfl)
  try simp only [Act.put, List.setIfInBounds_toArray, List.set_cons_zero, List.set_cons_succ]
  refine wpAnyH_take (i := 8) (oi := ?oitell59) (v := ?vtell59) ?hoptell59 ?hstell59 ?hftell59 ?hrtell59 ?hQtell59 ?hytell59 (by assumption) ?resttell59
  case hoptell59 => (simp only [List.getElem?_toArray, List.getElem?_cons_zero, List.getElem?_cons_succ]; rfl)
  case hstell59 => kernel_rfl
  case hftell59 => kernel_rfl
  case hrtell59 => kernel_rfl
  case hQtell59 => exact fun _ _ _ h => h
  case hytell59 => (refine Or.inl ⟨by rfl, ?_⟩; intro w hSw; (try dsimp only at hSw); go_simp <;> with_reducible rfl)
  try simp only [Act.put, List.setIfInBounds_toArray, List.set_cons_zero, List.set_cons_succ]
  refine wpAnyH_take (i := 9) (oi := ?oitell510) (v := ?vtell510) ?hoptell510 ?hstell510 ?hftell510 ?hrtell510 ?hQtell510 ?hytell510 (by assumption) ?resttell510
  case hoptell510 => (simp only [List.getElem?_toArray, List.getElem?_cons_zero, List.getElem?_cons_succ]; rfl)
  case hstell510 => kernel_rfl
  case hftell510 => kernel_rfl
  case hrtell510 => kernel_rfl
  case hQtell510 => exact fun _ _ _ h => h
  case hytell510 => (refine Or.inl ⟨by rfl, ?_⟩; intro w hSw; (try dsimp only at hSw); go_simp <;> with_reducible rfl)
  try simp only [Act.put, List.setIfInBounds_toArray, List.set_cons_zero, List.set_cons_succ]
  refine wpAnyH_ready (rs := [10]) (by kernel_rfl) (by simp) ?_
  refine AllReadyH.cons (o := ?oitell511) ?hoptell511 (fun K hK => ?steptell511) ?moretell511
  case hoptell511 => (simp only [List.getElem?_toArray, List.getElem?_cons_zero, List.getElem?_cons_succ]; rfl)
  case moretell511 => exact AllReadyH.nil
  go_simp
  (go_at_call 8; (refine Calls.mono (show Calls _ _ _ _ _ from hC.out) ?_); rintro e w2 ⟨L, C, k, rfl, h1, h2, h3, h4⟩; rw [hE3.out]; have hb2 : Hid (Below WX.heap.size WX w2) := hbD.out.trans (h3.mono hbD.out.size); have hfin : Hid (L.map Itm.z = tellF s (a.map Itm.z) (b.map Itm.z) S ∧ Lv w2 C k L ∧ Below w.heap.size w w2 ∧ NewT w.heap.size C L) := ⟨by rw [hE.out.2]; exact h1, h2, hgW.out.below.trans (hb2.out.mono hgW.out.size), h4.mono (Nat.le_trans hgW.out.size hbD.out.size)⟩; clear h1 h2 h3 h4)
  first | (go_wp2_with fail) | skip
  refine hK.out _ _ ?_ (fun hHeld => ?_)
  · (try dsimp only); first | with_reducible exact hKeep.out _ hbD.out | with_reducible exact hKeep.out _ hb2.out
  clear hK K
  try simp only [Act.put, List.setIfInBounds_toArray, List.set_cons_zero, List.set_cons_succ]
  refine wpAnyH_take (i := 11) (oi := ?oitell512) (v := ?vtell512) ?hoptell512 ?hstell512 ?hftell512 ?hrtell512 ?hQtell512 ?hytell512 (by assumption) ?resttell512
  case hoptell512 => (simp only [List.getElem?_toArray, List.getElem?_cons_zero, List.getElem?_cons_succ]; rfl)
  case hstell512 => kernel_rfl
  case hftell512 => kernel_rfl
  case hrtell512 => kernel_rfl
  case hQtell512 => exact fun _ _ _ h => h
  case hytell512 => (refine Or.inl ⟨by rfl, ?_⟩; intro w hSw; (try dsimp only at hSw); go_simp <;> with_reducible rfl)
  try simp only [Act.put, List.setIfInBounds_toArray, List.set_cons_zero, List.set_cons_succ]
  refine wpAnyH_take (i := 12) (oi := ?oitell513) (v := ?vtell513) ?hoptell513 ?hstell513 ?hftell513 ?hrtell513 ?hQtell513 ?hytell513 (by assumption) ?resttell513
  case hoptell513 => (simp only [List.getElem?_toArray, List.getElem?_cons_zero, List.getElem?_cons_succ]; rfl)
  case hstell513 => kernel_rfl
  case hftell513 => kernel_rfl
  case hrtell513 => kernel_rfl
  case hQtell513 => exact fun _ _ _ h => h
  case hytell513 => (refine Or.inl ⟨by rfl, ?_⟩; intro w hSw; (try dsimp only at hSw); go_simp <;> with_reducible rfl)
  try simp only [Act.put, List.setIfInBounds_toArray, List.set_cons_zero, List.set_cons_succ]
  refine wpAnyH_take (i := 13) (oi := ?oitell514) (v := ?vtell514) ?hoptell514 ?hstell514 ?hftell514 ?hrtell514 ?hQtell514 ?hytell514 (by assumption) ?resttell514
  case hoptell514 => (simp only [List.getElem?_toArray, List.getElem?_cons_zero, List.getElem?_cons_succ]; rfl)
  case hstell514 => kernel_rfl
  case hftell514 => kernel_rfl
  case hrtell514 => kernel_rfl
  case hQtell514 => exact fun _ _ _ h => h
  case hytell514 => (refine Or.inl ⟨by rfl, ?_⟩; intro w hSw; (try dsimp only at hSw); go_simp <;> with_reducible rfl)
  try simp only [Act.put, List.setIfInBounds_toArray, List.set_cons_zero, List.set_cons_succ]
  refine wpAnyH_take (i := 14) (oi := ?oitell515) (v := ?vtell515) ?hoptell515 ?hstell515 ?hftell515 ?hrtell515 ?hQtell515 ?hytell515 (by assumption) ?resttell515
  case hoptell515 => (simp only [List.getElem?_toArray, List.getElem?_cons_zero, List.getElem?_cons_succ]; rfl)
  case hstell515 => kernel_rfl
  case hftell515 => kernel_rfl
  case hrtell515 => kernel_rfl
  case hQtell515 => exact fun _ _ _ h => h
  case hytell515 => (refine Or.inl ⟨by rfl, ?_⟩; intro w hSw; (try dsimp only at hSw); go_simp <;> with_reducible rfl)
  try simp only [Act.put, List.setIfInBounds_toArray, List.set_cons_zero, List.set_cons_succ]
  refine wpAnyH_done (by kernel_rfl) ?_ _
  refine NoPanic.normal ?_
  go_wp2
  go_ret2
  exact ⟨L, C, k, rfl, hfin.out.1, hfin.out.2.1, hfin.out.2.2⟩
set_option maxRecDepth 100000 in
set_option maxHeartbeats 1000000 in
theorem tell6 (s : Stp) (a b : List Itm) (A B : Option Addr) (ca cb : Nat) (SA : Option Addr) (sc : Nat) (ss : List Sl) (S : List (List Zit)) (w : World) (hk : s.k = 6) (ha0 : 0 ≤ s.a) (ha1 : s.a.toNat < S.length) (hb0 : 0 ≤ s.b) (hb1 : s.b.toNat < S.length) (hS : Sts w SA ss S) (hey : errZ (getS S s.b) = 0) :
    Calls Tryz.prog 54 #[.agg #[.int .i64 s.k, .int .i64 s.a, .int .i64 s.b, .int .i64 s.c, .int .i64 s.o, .int .i64 s.v, .slice s.p s.l.length s.n], .agg #[.slice A a.length ca, .slice B b.length cb], .slice SA ss.length sc] w fun e w' => ∃ (L : List Itm) (C : Option Addr) (k : Nat), e = .returned (.tuple #[.slice C L.length k, .int .i64 (tellE s (a.map Itm.z) (b.map Itm.z) S)]) ∧ L.map Itm.z = tellF s (a.map Itm.z) (b.map Itm.z) S ∧ Lv w' C k L ∧ Below w.heap.size w w' ∧ NewT w.heap.size C L := by
  have hE : Hid (tellE s (a.map Itm.z) (b.map Itm.z) S = minE (getS S s.a) (getS S s.b) ∧ tellF s (a.map Itm.z) (b.map Itm.z) S = minF (getS S s.a) (getS S s.b)) := ⟨by unfold tellE; rw [if_neg (by omega), if_neg (by omega), if_neg (by omega), if_pos hk], by unfold tellF; rw [if_neg (by omega), if_neg (by omega), if_neg (by omega), if_pos hk]⟩
  obtain ⟨bb, off, na, x, hA, hbb, hna, hnal, hxc, hxl, hxz⟩ := hS.at ha0 ha1
  obtain ⟨bb', off', nb, y, hA', _, hnb, hnbl, hyc, hyl, hyz⟩ := hS.at hb0 hb1
  subst hA
  cases hA'
  obtain ⟨E, hE2⟩ : ∃ E, tellE s (a.map Itm.z) (b.map Itm.z) S = E := ⟨_, rfl⟩
  have hE3 : Hid (minE (getS S s.a) (getS S s.b) = E) := by show _ = _; rw [← hE2, hE.out.1]
  have hgW : Hid (Gr w ((w.alloc (.cells #[.int .i64 6, .int .i64 (na : Int), .int .i64 (nb : Int), .int .i64 s.c, .int .i64 s.o, .int .i64 s.v, .slice s.p s.l.length s.n] 88)).alloc (.cells #[.slice A a.length ca, .slice B b.length cb] 56))) := ((Gr.refl _).alloc _).alloc _
  obtain ⟨WX, hWX⟩ : ∃ WX, ((w.alloc (.cells #[.int .i64 6, .int .i64 (na : Int), .int .i64 (nb : Int), .int .i64 s.c, .int .i64 s.o, .int .i64 s.v, .slice s.p s.l.length s.n] 88)).alloc (.cells #[.slice A a.length ca, .slice B b.length cb] 56)) = WX := ⟨_, rfl⟩
  have q0 : WX.cell? ⟨w.heap.size, 0, none⟩ = some (.int .i64 6) := by rw [← hWX]; exact box1 (w := w) ((Gr.refl _).alloc _) rfl
  have q1 : WX.cell? ⟨w.heap.size, 1, none⟩ = some (.int .i64 (na : Int)) := by rw [← hWX]; exact box1 (w := w) ((Gr.refl _).alloc _) rfl
  have q2 : WX.cell? ⟨w.heap.size, 2, none⟩ = some (.int .i64 (nb : Int)) := by rw [← hWX]; exact box1 (w := w) ((Gr.refl _).alloc _) rfl
  have hsb : w.heap.size < WX.heap.size := by rw [← hWX]; simp; omega
  rw [hWX] at hgW
  have hC0 := minusV ((hxl.gr hgW.out).gr (Gr.refl _).drew) ((hyl.gr hgW.out).gr (Gr.refl _).drew) (by rw [hyz]; exact hey) hxz hyz (W := WX.drew)
  have hC : Hid _ := hC0
  clear hC0
  have hKeep : Hid (∀ W', Below WX.heap.size WX W' → (fun w' => w'.cell? ⟨w.heap.size, 1, none⟩ = some (.int .i64 (na : Int)) ∧ w'.cell? ⟨w.heap.size, 2, none⟩ = some (.int .i64 (nb : Int)) ∧ w'.cell? ⟨bb, off + na, none⟩ = some (.slice x.A x.l.length x.cap) ∧ w'.cell? ⟨bb, off + nb, none⟩ = some (.slice y.A y.l.length y.cap)) W') := fun W' h => ⟨(h.cell (p := ⟨w.heap.size, 1, none⟩) hsb).trans q1, (h.cell (p := ⟨w.heap.size, 2, none⟩) hsb).trans q2, (h.cell (p := ⟨bb, off + na, none⟩) (Nat.lt_of_lt_of_le hbb hgW.out.size)).trans ((hgW.out.below.cell (p := ⟨bb, off + na, none⟩) hbb).trans hxc), (h.cell (p := ⟨bb, off + nb, none⟩) (Nat.lt_of_lt_of_le hbb hgW.out.size)).trans ((hgW.out.below.cell (p := ⟨bb, off + nb, none⟩) hbb).trans hyc)⟩
  have hbD : Hid (Below WX.heap.size WX WX.drew) := (Below.refl _ _).drew
  have hnaz : (na : Int) < (ss.length : Int) := by omega
  have hnbz : (nb : Int) < (ss.length : Int) := by omega
  rw [hE2, hk, hna, hnb]
  clear hk hE2 hxc hyc hxl hyl hxz hyz hna hnb ha0 ha1 hb0 hb1 hnal hnbl hbb q1 q2 hS
  go_enter Tryz.func54, Tryz.ntmps54
  go_wp2_with fail
  clear hWX
  refine wp_region_noPanic ?_
  refine wp_region_held_drew (S := (fun w' => w'.cell? ⟨w.heap.size, 1, none⟩ = some (.int .i64 (na : Int)) ∧ w'.cell? ⟨w.heap.size, 2, none⟩ = some (.int .i64 (nb : Int)) ∧ w'.cell? ⟨bb, off + na, none⟩ = some (.slice x.A x.l.length x.cap) ∧ w'.cell? ⟨bb, off + nb, none⟩ = some (.slice y.A y.l.length y.cap))) (by kernel_rfl) (hKeep.out _ hbD.out) (fun hHeld => ?_)
  refine wpAnyH_take (i := 0) (oi := ?oitell61) (v := ?vtell61) ?hoptell61 ?hstell61 ?hftell61 ?hrtell61 ?hQtell61 ?hytell61 (by assumption) ?resttell61
  case hoptell61 => (simp only [List.getElem?_toArray, List.getElem?_cons_zero]; rfl)
  case hstell61 => kernel_rfl
  case hftell61 => kernel_rfl
  case hrtell61 => kernel_rfl
  case hQtell61 => exact fun _ _ _ h => h
  case hytell61 => (refine Or.inl ⟨by rfl, ?_⟩; intro w hSw; (try dsimp only at hSw); go_simp <;> with_reducible rfl)
  try simp only [Act.put, List.setIfInBounds_toArray, List.set_cons_zero, List.set_cons_succ]
  refine wpAnyH_take (i := 1) (oi := ?oitell62) (v := ?vtell62) ?hoptell62 ?hstell62 ?hftell62 ?hrtell62 ?hQtell62 ?hytell62 (by assumption) ?resttell62
  case hoptell62 => (simp only [List.getElem?_toArray, List.getElem?_cons_zero, List.getElem?_cons_succ]; rfl)
  case hstell62 => kernel_rfl
  case hftell62 => kernel_rfl
  case hrtell62 => kernel_rfl
  case hQtell62 => exact fun _ _ _ h => h
  case hytell62 => (refine Or.inl ⟨by rfl, ?_⟩; intro w hSw; (try dsimp only at hSw); go_simp <;> with_reducible rfl)
  try simp only [Act.put, List.setIfInBounds_toArray, List.set_cons_zero, List.set_cons_succ]
  refine wpAnyH_take (i := 2) (oi := ?oitell63) (v := ?vtell63) ?hoptell63 ?hstell63 ?hftell63 ?hrtell63 ?hQtell63 ?hytell63 (by assumption) ?resttell63
  case hoptell63 => (simp only [List.getElem?_toArray, List.getElem?_cons_zero, List.getElem?_cons_succ]; rfl)
  case hstell63 => kernel_rfl
  case hftell63 => kernel_rfl
  case hrtell63 => kernel_rfl
  case hQtell63 => exact fun _ _ _ h => h
  case hytell63 => (refine Or.inl ⟨by rfl, ?_⟩; intro w hSw; (try dsimp only at hSw); go_simp <;> with_reducible rfl)
  try simp only [Act.put, List.setIfInBounds_toArray, List.set_cons_zero, List.set_cons_succ]
  refine wpAnyH_take (i := 3) (oi := ?oitell64) (v := ?vtell64) ?hoptell64 ?hstell64 ?hftell64 ?hrtell64 ?hQtell64 ?hytell64 (by assumption) ?resttell64
  case hoptell64 => (simp only [List.getElem?_toArray, List.getElem?_cons_zero, List.getElem?_cons_succ]; rfl)
  case hstell64 => kernel_rfl
  case hftell64 => kernel_rfl
  case hrtell64 => kernel_rfl
  case hQtell64 => exact fun _ _ _ h => h
  case hytell64 => (refine Or.inl ⟨by rfl, ?_⟩; intro w hSw; (try dsimp only at hSw); go_simp <;> with_reducible rfl)
  try simp only [Act.put, List.setIfInBounds_toArray, List.set_cons_zero, List.set_cons_succ]
  refine wpAnyH_take (i := 4) (oi := ?oitell65) (v := ?vtell65) ?hoptell65 ?hstell65 ?hftell65 ?hrtell65 ?hQtell65 ?hytell65 (by assumption) ?resttell65
  case hoptell65 => (simp only [List.getElem?_toArray, List.getElem?_cons_zero, List.getElem?_cons_succ]; rfl)
  case hstell65 => kernel_rfl
  case hftell65 => kernel_rfl
  case hrtell65 => kernel_rfl
  case hQtell65 => exact fun _ _ _ h => h
  case hytell65 => (refine Or.inl ⟨by rfl, ?_⟩; intro w hSw; (try dsimp only at hSw); go_simp <;> with_reducible rfl)
  try simp only [Act.put, List.setIfInBounds_toArray, List.set_cons_zero, List.set_cons_succ]
  refine wpAnyH_take (i := 5) (oi := ?oitell66) (v := ?vtell66) ?hoptell66 ?hstell66 ?hftell66 ?hrtell66 ?hQtell66 ?hytell66 (by assumption) ?resttell66
  case hoptell66 => (simp only [List.getElem?_toArray, List.getElem?_cons_zero, List.getElem?_cons_succ]; rfl)
  case hstell66 => kernel_rfl
  case hftell66 => kernel_rfl
  case hrtell66 => kernel_rfl
  case hQtell66 => exact fun _ _ _ h => h
  case hytell66 => (refine Or.inl ⟨by rfl, ?_⟩; intro w hSw; (try dsimp only at hSw); go_simp <;> with_reducible rfl)
  try simp only [Act.put, List.setIfInBounds_toArray, List.set_cons_zero, List.set_cons_succ]
  refine wpAnyH_take (i := 6) (oi := ?oitell67) (v := ?vtell67) ?hoptell67 ?hstell67 ?hftell67 ?hrtell67 ?hQtell67 ?hytell67 (by assumption) ?resttell67
  case hoptell67 => (simp only [List.getElem?_toArray, List.getElem?_cons_zero, List.getElem?_cons_succ]; rfl)
  case hstell67 => kernel_rfl
  case hftell67 => kernel_rfl
  case hrtell67 => kernel_rfl
  case hQtell67 => exact fun _ _ _ h => h
  case hytell67 => (refine Or.inl ⟨by rfl, ?_⟩; intro w hSw; (try dsimp only at hSw); go_simp <;> with_reducible rfl)
  try simp only [Act.put, List.setIfInBounds_toArray, List.set_cons_zero, List.set_cons_succ]
  refine wpAnyH_take (i := 7) (oi := ?oitell68) (v := ?vtell68) ?hoptell68 ?hstell68 ?hftell68 ?hrtell68 ?hQtell68 ?hytell68 (by assumption) ?resttell68
  case hoptell68 => (simp only [List.getElem?_toArray, List.getElem?_cons_zero, List.getElem?_cons_succ]; rfl)
  case hstell68 => kernel_rfl
  case hftell68 => kernel_rfl
  case hrtell68 => kernel_rfl
  case hQtell68 => exact fun _ _ _ h => h
  case hytell68 => (refine Or.inl ⟨by rfl, ?_⟩; intro w hSw; (try dsimp only at hSw); go_simp <;> with_reducible rfl)
  try simp only [Act.put, List.setIfInBounds_toArray, List.set_cons_zero, List.set_cons_succ]
  refine wpAnyH_take (i := 8) (oi := ?oitell69) (v := ?vtell69) ?hoptell69 ?hstell69 ?hftell69 ?hrtell69 ?hQtell69 ?hytell69 (by assumption) ?resttell69
  case hoptell69 => (simp only [List.getElem?_toArray, List.getElem?_cons_zero, List.getElem?_cons_succ]; rfl)
  case hstell69 => kernel_rfl
  case hftell69 => kernel_rfl
  case hrtell69 => kernel_rfl
  case hQtell69 => exact fun _ _ _ h => h
  case hytell69 => (refine Or.inl ⟨by rfl, ?_⟩; intro w hSw; (try dsimp only at hSw); go_simp <;> with_reducible rfl)
  try simp only [Act.put, List.setIfInBounds_toArray, List.set_cons_zero, List.set_cons_succ]
  refine wpAnyH_take (i := 9) (oi := ?oitell610) (v := ?vtell610) ?hoptell610 ?hstell610 ?hftell610 ?hrtell610 ?hQtell610 ?hytell610 (by assumption) ?resttell610
  case hoptell610 => (simp only [List.getElem?_toArray, List.getElem?_cons_zero, List.getElem?_cons_succ]; rfl)
  case hstell610 => kernel_rfl
  case hftell610 => kernel_rfl
  case hrtell610 => kernel_rfl
  case hQtell610 => exact fun _ _ _ h => h
  case hytell610 => (refine Or.inl ⟨by rfl, ?_⟩; intro w hSw; (try dsimp only at hSw); go_simp <;> with_reducible rfl)
  try simp only [Act.put, List.setIfInBounds_toArray, List.set_cons_zero, List.set_cons_succ]
  refine wpAnyH_ready (rs := [10]) (by kernel_rfl) (by simp) ?_
  refine AllReadyH.cons (o := ?oitell611) ?hoptell611 (fun K hK => ?steptell611) ?moretell611
  case hoptell611 => (simp only [List.getElem?_toArray, List.getElem?_cons_zero, List.getElem?_cons_succ]; rfl)
  case moretell611 => exact AllReadyH.nil
  go_simp
  (go_at_call 75; (refine Calls.mono (show Calls _ _ _ _ _ from hC.out) ?_); rintro e w2 ⟨L, C, k, rfl, h1, h2, h3, h4⟩; rw [hE3.out]; have hb2 : Hid (Below WX.heap.size WX w2) := hbD.out.trans (h3.mono hbD.out.size); have hfin : Hid (L.map Itm.z = tellF s (a.map Itm.z) (b.map Itm.z) S ∧ Lv w2 C k L ∧ Below w.heap.size w w2 ∧ NewT w.heap.size C L) := ⟨by rw [hE.out.2]; exact h1, h2, hgW.out.below.trans (hb2.out.mono hgW.out.size), h4.mono (Nat.le_trans hgW.out.size hbD.out.size)⟩; clear h1 h2 h3 h4)
  first | (go_wp2_with fail) | skip
  refine hK.out _ _ ?_ (fun hHeld => ?_)
  · (try dsimp only); first | with_reducible exact hKeep.out _ hbD.out | with_reducible exact hKeep.out _ hb2.out
  clear hK K
  try simp only [Act.put, List.setIfInBounds_toArray, List.set_cons_zero, List.set_cons_succ]
  refine wpAnyH_take (i := 11) (oi := ?oitell612) (v := ?vtell612) ?hoptell612 ?hstell612 ?hftell612 ?hrtell612 ?hQtell612 ?hytell612 (by assumption) ?resttell612
  case hoptell612 => (simp only [List.getElem?_toArray, List.getElem?_cons_zero, List.getElem?_cons_succ]; rfl)
  case hstell612 => kernel_rfl
  case hftell612 => kernel_rfl
  case hrtell612 => kernel_rfl
  case hQtell612 => exact fun _ _ _ h => h
  case hytell612 => (refine Or.inl ⟨by rfl, ?_⟩; intro w hSw; (try dsimp only at hSw); go_simp <;> with_reducible rfl)
  try simp only [Act.put, List.setIfInBounds_toArray, List.set_cons_zero, List.set_cons_succ]
  refine wpAnyH_take (i := 12) (oi := ?oitell613) (v := ?vtell613) ?hoptell613 ?hstell613 ?hftell613 ?hrtell613 ?hQtell613 ?hytell613 (by assumption) ?resttell613
  case hoptell613 => (simp only [List.getElem?_toArray, List.getElem?_cons_zero, List.getElem?_cons_succ]; rfl)
  case hstell613 => kernel_rfl
  case hftell613 => kernel_rfl
  case hrtell613 => kernel_rfl
  case hQtell613 => exact fun _ _ _ h => h
  case hytell613 => (refine Or.inl ⟨by rfl, ?_⟩; intro w hSw; (try dsimp only at hSw); go_simp <;> with_reducible rfl)
  try simp only [Act.put, List.setIfInBounds_toArray, List.set_cons_zero, List.set_cons_succ]
  refine wpAnyH_take (i := 13) (oi := ?oitell614) (v := ?vtell614) ?hoptell614 ?hstell614 ?hftell614 ?hrtell614 ?hQtell614 ?hytell614 (by assumption) ?resttell614
  case hoptell614 => (simp only [List.getElem?_toArray, List.getElem?_cons_zero, List.getElem?_cons_succ]; rfl)
  case hstell614 => kernel_rfl
  case hftell614 => kernel_rfl
  case hrtell614 => kernel_rfl
  case hQtell614 => exact fun _ _ _ h => h
  case hytell614 => (refine Or.inl ⟨by rfl, ?_⟩; intro w hSw; (try dsimp only at hSw); go_simp <;> with_reducible rfl)
  try simp only [Act.put, List.setIfInBounds_toArray, List.set_cons_zero, List.set_cons_succ]
  refine wpAnyH_take (i := 14) (oi := ?oitell615) (v := ?vtell615) ?hoptell615 ?hstell615 ?hftell615 ?hrtell615 ?hQtell615 ?hytell615 (by assumption) ?resttell615
  case hoptell615 => (simp only [List.getElem?_toArray, List.getElem?_cons_zero, List.getElem?_cons_succ]; rfl)
  case hstell615 => kernel_rfl
  case hftell615 => kernel_rfl
  case hrtell615 => kernel_rfl
  case hQtell615 => exact fun _ _ _ h => h
  case hytell615 => (refine Or.inl ⟨by rfl, ?_⟩; intro w hSw; (try dsimp only at hSw); go_simp <;> with_reducible rfl)
  try simp only [Act.put, List.setIfInBounds_toArray, List.set_cons_zero, List.set_cons_succ]
  refine wpAnyH_done (by kernel_rfl) ?_ _
  refine NoPanic.normal ?_
  go_wp2
  go_ret2
  exact ⟨L, C, k, rfl, hfin.out.1, hfin.out.2.1, hfin.out.2.2⟩
set_option maxRecDepth 100000 in
set_option maxHeartbeats 1000000 in
theorem tell4 (s : Stp) (a b : List Itm) (A B : Option Addr) (ca cb : Nat) (SA : Option Addr) (sc : Nat) (ss : List Sl) (S : List (List Zit)) (w : World) (hk : s.k = 4) (ha0 : 0 ≤ s.a) (ha1 : s.a.toNat < S.length) (hb0 : 0 ≤ s.b) (hb1 : s.b.toNat < S.length) (hS : Sts w SA ss S) (hJo : ∀ l r : List Itm, l.map Itm.z = getS S s.a → r.map Itm.z = getS S s.b → JoinOk s.c s.v l r) :
    Calls Tryz.prog 54 #[.agg #[.int .i64 s.k, .int .i64 s.a, .int .i64 s.b, .int .i64 s.c, .int .i64 s.o, .int .i64 s.v, .slice s.p s.l.length s.n], .agg #[.slice A a.length ca, .slice B b.length cb], .slice SA ss.length sc] w fun e w' => ∃ (L : List Itm) (C : Option Addr) (k : Nat), e = .returned (.tuple #[.slice C L.length k, .int .i64 (tellE s (a.map Itm.z) (b.map Itm.z) S)]) ∧ L.map Itm.z = tellF s (a.map Itm.z) (b.map Itm.z) S ∧ Lv w' C k L ∧ Below w.heap.size w w' ∧ NewT w.heap.size C L := by
  have hE : Hid (tellE s (a.map Itm.z) (b.map Itm.z) S = joinE (getS S s.a) (getS S s.b) s.c s.v ∧ tellF s (a.map Itm.z) (b.map Itm.z) S = joinF (getS S s.a) (getS S s.b) s.c s.v) := ⟨by unfold tellE; rw [if_neg (by omega), if_pos hk], by unfold tellF; rw [if_neg (by omega), if_pos hk]⟩
  obtain ⟨bb, off, na, x, hA, hbb, hna, hnal, hxc, hxl, hxz⟩ := hS.at ha0 ha1
  obtain ⟨bb', off', nb, y, hA', _, hnb, hnbl, hyc, hyl, hyz⟩ := hS.at hb0 hb1
  subst hA
  cases hA'
  obtain ⟨E, hE2⟩ : ∃ E, tellE s (a.map Itm.z) (b.map Itm.z) S = E := ⟨_, rfl⟩
  have hE3 : Hid (joinE (getS S s.a) (getS S s.b) s.c s.v = E) := by show _ = _; rw [← hE2, hE.out.1]
  have hgW : Hid (Gr w ((w.alloc (.cells #[.int .i64 4, .int .i64 (na : Int), .int .i64 (nb : Int), .int .i64 s.c, .int .i64 s.o, .int .i64 s.v, .slice s.p s.l.length s.n] 88)).alloc (.cells #[.slice A a.length ca, .slice B b.length cb] 56))) := ((Gr.refl _).alloc _).alloc _
  obtain ⟨WX, hWX⟩ : ∃ WX, ((w.alloc (.cells #[.int .i64 4, .int .i64 (na : Int), .int .i64 (nb : Int), .int .i64 s.c, .int .i64 s.o, .int .i64 s.v, .slice s.p s.l.length s.n] 88)).alloc (.cells #[.slice A a.length ca, .slice B b.length cb] 56)) = WX := ⟨_, rfl⟩
  have q0 : WX.cell? ⟨w.heap.size, 0, none⟩ = some (.int .i64 4) := by rw [← hWX]; exact box1 (w := w) ((Gr.refl _).alloc _) rfl
  have q1 : WX.cell? ⟨w.heap.size, 1, none⟩ = some (.int .i64 (na : Int)) := by rw [← hWX]; exact box1 (w := w) ((Gr.refl _).alloc _) rfl
  have q2 : WX.cell? ⟨w.heap.size, 2, none⟩ = some (.int .i64 (nb : Int)) := by rw [← hWX]; exact box1 (w := w) ((Gr.refl _).alloc _) rfl
  have q3 : WX.cell? ⟨w.heap.size, 3, none⟩ = some (.int .i64 s.c) := by rw [← hWX]; exact box1 (w := w) ((Gr.refl _).alloc _) rfl
  have q5 : WX.cell? ⟨w.heap.size, 5, none⟩ = some (.int .i64 s.v) := by rw [← hWX]; exact box1 (w := w) ((Gr.refl _).alloc _) rfl
  have hsb : w.heap.size < WX.heap.size := by rw [← hWX]; simp; omega
  rw [hWX] at hgW
  have hC0 := joinV ((hxl.gr hgW.out).gr (Gr.refl _).drew) ((hyl.gr hgW.out).gr (Gr.refl _).drew) (hJo x.l y.l hxz hyz) hxz hyz (W := WX.drew)
  have hC : Hid _ := hC0
  clear hC0
  have hKeep : Hid (∀ W', Below WX.heap.size WX W' → (fun w' => w'.cell? ⟨w.heap.size, 1, none⟩ = some (.int .i64 (na : Int)) ∧ w'.cell? ⟨w.heap.size, 2, none⟩ = some (.int .i64 (nb : Int)) ∧ w'.cell? ⟨bb, off + na, none⟩ = some (.slice x.A x.l.length x.cap) ∧ w'.cell? ⟨bb, off + nb, none⟩ = some (.slice y.A y.l.length y.cap) ∧ w'.cell? ⟨w.heap.size, 3, none⟩ = some (.int .i64 s.c) ∧ w'.cell? ⟨w.heap.size, 5, none⟩ = some (.int .i64 s.v)) W') := fun W' h => ⟨(h.cell (p := ⟨w.heap.size, 1, none⟩) hsb).trans q1, (h.cell (p := ⟨w.heap.size, 2, none⟩) hsb).trans q2, (h.cell (p := ⟨bb, off + na, none⟩) (Nat.lt_of_lt_of_le hbb hgW.out.size)).trans ((hgW.out.below.cell (p := ⟨bb, off + na, none⟩) hbb).trans hxc), (h.cell (p := ⟨bb, off + nb, none⟩) (Nat.lt_of_lt_of_le hbb hgW.out.size)).trans ((hgW.out.below.cell (p := ⟨bb, off + nb, none⟩) hbb).trans hyc), (h.cell (p := ⟨w.heap.size, 3, none⟩) hsb).trans q3, (h.cell (p := ⟨w.heap.size, 5, none⟩) hsb).trans q5⟩
  have hbD : Hid (Below WX.heap.size WX WX.drew) := (Below.refl _ _).drew
  have hnaz : (na : Int) < (ss.length : Int) := by omega
  have hnbz : (nb : Int) < (ss.length : Int) := by omega
  rw [hE2, hk, hna, hnb]
  clear hk hE2 hxc hyc hxl hyl hxz hyz hna hnb ha0 ha1 hb0 hb1 hnal hnbl hbb q1 q2 q3 q5 hS
  go_enter Tryz.func54, Tryz.ntmps54
  go_wp2_with fail
  clear hWX
  refine wp_region_noPanic ?_
  refine wp_region_held_drew (S := (fun w' => w'.cell? ⟨w.heap.size, 1, none⟩ = some (.int .i64 (na : Int)) ∧ w'.cell? ⟨w.heap.size, 2, none⟩ = some (.int .i64 (nb : Int)) ∧ w'.cell? ⟨bb, off + na, none⟩ = some (.slice x.A x.l.length x.cap) ∧ w'.cell? ⟨bb, off + nb, none⟩ = some (.slice y.A y.l.length y.cap) ∧ w'.cell? ⟨w.heap.size, 3, none⟩ = some (.int .i64 s.c) ∧ w'.cell? ⟨w.heap.size, 5, none⟩ = some (.int .i64 s.v))) (by kernel_rfl) (hKeep.out _ hbD.out) (fun hHeld => ?_)
  refine wpAnyH_take (i := 0) (oi := ?oitell41) (v := ?vtell41) ?hoptell41 ?hstell41 ?hftell41 ?hrtell41 ?hQtell41 ?hytell41 (by assumption) ?resttell41
  case hoptell41 => (simp only [List.getElem?_toArray, List.getElem?_cons_zero]; rfl)
  case hstell41 => kernel_rfl
  case hftell41 => kernel_rfl
  case hrtell41 => kernel_rfl
  case hQtell41 => exact fun _ _ _ h => h
  case hytell41 => (refine Or.inl ⟨by rfl, ?_⟩; intro w hSw; (try dsimp only at hSw); go_simp <;> with_reducible rfl)
  try simp only [Act.put, List.setIfInBounds_toArray, List.set_cons_zero, List.set_cons_succ]
  refine wpAnyH_take (i := 1) (oi := ?oitell42) (v := ?vtell42) ?hoptell42 ?hstell42 ?hftell42 ?hrtell42 ?hQtell42 ?hytell42 (by assumption) ?resttell42
  case hoptell42 => (simp only [List.getElem?_toArray, List.getElem?_cons_zero, List.getElem?_cons_succ]; rfl)
  case hstell42 => kernel_rfl
  case hftell42 => kernel_rfl
  case hrtell42 => kernel_rfl
  case hQtell42 => exact fun _ _ _ h => h
  case hytell42 => (refine Or.inl ⟨by rfl, ?_⟩; intro w hSw; (try dsimp only at hSw); go_simp <;> with_reducible rfl)
  try simp only [Act.put, List.setIfInBounds_toArray, List.set_cons_zero, List.set_cons_succ]
  refine wpAnyH_take (i := 2) (oi := ?oitell43) (v := ?vtell43) ?hoptell43 ?hstell43 ?hftell43 ?hrtell43 ?hQtell43 ?hytell43 (by assumption) ?resttell43
  case hoptell43 => (simp only [List.getElem?_toArray, List.getElem?_cons_zero, List.getElem?_cons_succ]; rfl)
  case hstell43 => kernel_rfl
  case hftell43 => kernel_rfl
  case hrtell43 => kernel_rfl
  case hQtell43 => exact fun _ _ _ h => h
  case hytell43 => (refine Or.inl ⟨by rfl, ?_⟩; intro w hSw; (try dsimp only at hSw); go_simp <;> with_reducible rfl)
  try simp only [Act.put, List.setIfInBounds_toArray, List.set_cons_zero, List.set_cons_succ]
  refine wpAnyH_take (i := 3) (oi := ?oitell44) (v := ?vtell44) ?hoptell44 ?hstell44 ?hftell44 ?hrtell44 ?hQtell44 ?hytell44 (by assumption) ?resttell44
  case hoptell44 => (simp only [List.getElem?_toArray, List.getElem?_cons_zero, List.getElem?_cons_succ]; rfl)
  case hstell44 => kernel_rfl
  case hftell44 => kernel_rfl
  case hrtell44 => kernel_rfl
  case hQtell44 => exact fun _ _ _ h => h
  case hytell44 => (refine Or.inl ⟨by rfl, ?_⟩; intro w hSw; (try dsimp only at hSw); go_simp <;> with_reducible rfl)
  try simp only [Act.put, List.setIfInBounds_toArray, List.set_cons_zero, List.set_cons_succ]
  refine wpAnyH_take (i := 4) (oi := ?oitell45) (v := ?vtell45) ?hoptell45 ?hstell45 ?hftell45 ?hrtell45 ?hQtell45 ?hytell45 (by assumption) ?resttell45
  case hoptell45 => (simp only [List.getElem?_toArray, List.getElem?_cons_zero, List.getElem?_cons_succ]; rfl)
  case hstell45 => kernel_rfl
  case hftell45 => kernel_rfl
  case hrtell45 => kernel_rfl
  case hQtell45 => exact fun _ _ _ h => h
  case hytell45 => (refine Or.inl ⟨by rfl, ?_⟩; intro w hSw; (try dsimp only at hSw); go_simp <;> with_reducible rfl)
  try simp only [Act.put, List.setIfInBounds_toArray, List.set_cons_zero, List.set_cons_succ]
  refine wpAnyH_take (i := 5) (oi := ?oitell46) (v := ?vtell46) ?hoptell46 ?hstell46 ?hftell46 ?hrtell46 ?hQtell46 ?hytell46 (by assumption) ?resttell46
  case hoptell46 => (simp only [List.getElem?_toArray, List.getElem?_cons_zero, List.getElem?_cons_succ]; rfl)
  case hstell46 => kernel_rfl
  case hftell46 => kernel_rfl
  case hrtell46 => kernel_rfl
  case hQtell46 => exact fun _ _ _ h => h
  case hytell46 => (refine Or.inl ⟨by rfl, ?_⟩; intro w hSw; (try dsimp only at hSw); go_simp <;> with_reducible rfl)
  try simp only [Act.put, List.setIfInBounds_toArray, List.set_cons_zero, List.set_cons_succ]
  refine wpAnyH_take (i := 6) (oi := ?oitell47) (v := ?vtell47) ?hoptell47 ?hstell47 ?hftell47 ?hrtell47 ?hQtell47 ?hytell47 (by assumption) ?resttell47
  case hoptell47 => (simp only [List.getElem?_toArray, List.getElem?_cons_zero, List.getElem?_cons_succ]; rfl)
  case hstell47 => kernel_rfl
  case hftell47 => kernel_rfl
  case hrtell47 => kernel_rfl
  case hQtell47 => exact fun _ _ _ h => h
  case hytell47 => (refine Or.inl ⟨by rfl, ?_⟩; intro w hSw; (try dsimp only at hSw); go_simp <;> with_reducible rfl)
  try simp only [Act.put, List.setIfInBounds_toArray, List.set_cons_zero, List.set_cons_succ]
  refine wpAnyH_take (i := 7) (oi := ?oitell48) (v := ?vtell48) ?hoptell48 ?hstell48 ?hftell48 ?hrtell48 ?hQtell48 ?hytell48 (by assumption) ?resttell48
  case hoptell48 => (simp only [List.getElem?_toArray, List.getElem?_cons_zero, List.getElem?_cons_succ]; rfl)
  case hstell48 => kernel_rfl
  case hftell48 => kernel_rfl
  case hrtell48 => kernel_rfl
  case hQtell48 => exact fun _ _ _ h => h
  case hytell48 => (refine Or.inl ⟨by rfl, ?_⟩; intro w hSw; (try dsimp only at hSw); go_simp <;> with_reducible rfl)
  try simp only [Act.put, List.setIfInBounds_toArray, List.set_cons_zero, List.set_cons_succ]
  refine wpAnyH_take (i := 8) (oi := ?oitell49) (v := ?vtell49) ?hoptell49 ?hstell49 ?hftell49 ?hrtell49 ?hQtell49 ?hytell49 (by assumption) ?resttell49
  case hoptell49 => (simp only [List.getElem?_toArray, List.getElem?_cons_zero, List.getElem?_cons_succ]; rfl)
  case hstell49 => kernel_rfl
  case hftell49 => kernel_rfl
  case hrtell49 => kernel_rfl
  case hQtell49 => exact fun _ _ _ h => h
  case hytell49 => (refine Or.inl ⟨by rfl, ?_⟩; intro w hSw; (try dsimp only at hSw); go_simp <;> with_reducible rfl)
  try simp only [Act.put, List.setIfInBounds_toArray, List.set_cons_zero, List.set_cons_succ]
  refine wpAnyH_take (i := 9) (oi := ?oitell410) (v := ?vtell410) ?hoptell410 ?hstell410 ?hftell410 ?hrtell410 ?hQtell410 ?hytell410 (by assumption) ?resttell410
  case hoptell410 => (simp only [List.getElem?_toArray, List.getElem?_cons_zero, List.getElem?_cons_succ]; rfl)
  case hstell410 => kernel_rfl
  case hftell410 => kernel_rfl
  case hrtell410 => kernel_rfl
  case hQtell410 => exact fun _ _ _ h => h
  case hytell410 => (refine Or.inl ⟨by rfl, ?_⟩; intro w hSw; (try dsimp only at hSw); go_simp <;> with_reducible rfl)
  try simp only [Act.put, List.setIfInBounds_toArray, List.set_cons_zero, List.set_cons_succ]
  refine wpAnyH_take (i := 10) (oi := ?oitell411) (v := ?vtell411) ?hoptell411 ?hstell411 ?hftell411 ?hrtell411 ?hQtell411 ?hytell411 (by assumption) ?resttell411
  case hoptell411 => (simp only [List.getElem?_toArray, List.getElem?_cons_zero, List.getElem?_cons_succ]; rfl)
  case hstell411 => kernel_rfl
  case hftell411 => kernel_rfl
  case hrtell411 => kernel_rfl
  case hQtell411 => exact fun _ _ _ h => h
  case hytell411 => (refine Or.inl ⟨by rfl, ?_⟩; intro w hSw; (try dsimp only at hSw); go_simp <;> with_reducible rfl)
  try simp only [Act.put, List.setIfInBounds_toArray, List.set_cons_zero, List.set_cons_succ]
  refine wpAnyH_take (i := 11) (oi := ?oitell412) (v := ?vtell412) ?hoptell412 ?hstell412 ?hftell412 ?hrtell412 ?hQtell412 ?hytell412 (by assumption) ?resttell412
  case hoptell412 => (simp only [List.getElem?_toArray, List.getElem?_cons_zero, List.getElem?_cons_succ]; rfl)
  case hstell412 => kernel_rfl
  case hftell412 => kernel_rfl
  case hrtell412 => kernel_rfl
  case hQtell412 => exact fun _ _ _ h => h
  case hytell412 => (refine Or.inl ⟨by rfl, ?_⟩; intro w hSw; (try dsimp only at hSw); go_simp <;> with_reducible rfl)
  try simp only [Act.put, List.setIfInBounds_toArray, List.set_cons_zero, List.set_cons_succ]
  refine wpAnyH_take (i := 12) (oi := ?oitell413) (v := ?vtell413) ?hoptell413 ?hstell413 ?hftell413 ?hrtell413 ?hQtell413 ?hytell413 (by assumption) ?resttell413
  case hoptell413 => (simp only [List.getElem?_toArray, List.getElem?_cons_zero, List.getElem?_cons_succ]; rfl)
  case hstell413 => kernel_rfl
  case hftell413 => kernel_rfl
  case hrtell413 => kernel_rfl
  case hQtell413 => exact fun _ _ _ h => h
  case hytell413 => (refine Or.inl ⟨by rfl, ?_⟩; intro w hSw; (try dsimp only at hSw); go_simp <;> with_reducible rfl)
  try simp only [Act.put, List.setIfInBounds_toArray, List.set_cons_zero, List.set_cons_succ]
  refine wpAnyH_take (i := 13) (oi := ?oitell414) (v := ?vtell414) ?hoptell414 ?hstell414 ?hftell414 ?hrtell414 ?hQtell414 ?hytell414 (by assumption) ?resttell414
  case hoptell414 => (simp only [List.getElem?_toArray, List.getElem?_cons_zero, List.getElem?_cons_succ]; rfl)
  case hstell414 => kernel_rfl
  case hftell414 => kernel_rfl
  case hrtell414 => kernel_rfl
  case hQtell414 => exact fun _ _ _ h => h
  case hytell414 => (refine Or.inl ⟨by rfl, ?_⟩; intro w hSw; (try dsimp only at hSw); go_simp <;> with_reducible rfl)
  try simp only [Act.put, List.setIfInBounds_toArray, List.set_cons_zero, List.set_cons_succ]
  refine wpAnyH_ready (rs := [14]) (by kernel_rfl) (by simp) ?_
  refine AllReadyH.cons (o := ?oitell415) ?hoptell415 (fun K hK => ?steptell415) ?moretell415
  case hoptell415 => (simp only [List.getElem?_toArray, List.getElem?_cons_zero, List.getElem?_cons_succ]; rfl)
  case moretell415 => exact AllReadyH.nil
  go_simp
  (go_at_call 74; (refine Calls.mono (show Calls _ _ _ _ _ from hC.out) ?_); rintro e w2 ⟨L, C, k, rfl, h1, h2, h3, h4⟩; rw [hE3.out]; have hb2 : Hid (Below WX.heap.size WX w2) := hbD.out.trans (h3.mono hbD.out.size); have hfin : Hid (L.map Itm.z = tellF s (a.map Itm.z) (b.map Itm.z) S ∧ Lv w2 C k L ∧ Below w.heap.size w w2 ∧ NewT w.heap.size C L) := ⟨by rw [hE.out.2]; exact h1, h2, hgW.out.below.trans (hb2.out.mono hgW.out.size), h4.mono (Nat.le_trans hgW.out.size hbD.out.size)⟩; clear h1 h2 h3 h4)
  first | (go_wp2_with fail) | skip
  refine hK.out _ _ ?_ (fun hHeld => ?_)
  · (try dsimp only); first | with_reducible exact hKeep.out _ hbD.out | with_reducible exact hKeep.out _ hb2.out
  clear hK K
  try simp only [Act.put, List.setIfInBounds_toArray, List.set_cons_zero, List.set_cons_succ]
  refine wpAnyH_take (i := 15) (oi := ?oitell416) (v := ?vtell416) ?hoptell416 ?hstell416 ?hftell416 ?hrtell416 ?hQtell416 ?hytell416 (by assumption) ?resttell416
  case hoptell416 => (simp only [List.getElem?_toArray, List.getElem?_cons_zero, List.getElem?_cons_succ]; rfl)
  case hstell416 => kernel_rfl
  case hftell416 => kernel_rfl
  case hrtell416 => kernel_rfl
  case hQtell416 => exact fun _ _ _ h => h
  case hytell416 => (refine Or.inl ⟨by rfl, ?_⟩; intro w hSw; (try dsimp only at hSw); go_simp <;> with_reducible rfl)
  try simp only [Act.put, List.setIfInBounds_toArray, List.set_cons_zero, List.set_cons_succ]
  refine wpAnyH_take (i := 16) (oi := ?oitell417) (v := ?vtell417) ?hoptell417 ?hstell417 ?hftell417 ?hrtell417 ?hQtell417 ?hytell417 (by assumption) ?resttell417
  case hoptell417 => (simp only [List.getElem?_toArray, List.getElem?_cons_zero, List.getElem?_cons_succ]; rfl)
  case hstell417 => kernel_rfl
  case hftell417 => kernel_rfl
  case hrtell417 => kernel_rfl
  case hQtell417 => exact fun _ _ _ h => h
  case hytell417 => (refine Or.inl ⟨by rfl, ?_⟩; intro w hSw; (try dsimp only at hSw); go_simp <;> with_reducible rfl)
  try simp only [Act.put, List.setIfInBounds_toArray, List.set_cons_zero, List.set_cons_succ]
  refine wpAnyH_take (i := 17) (oi := ?oitell418) (v := ?vtell418) ?hoptell418 ?hstell418 ?hftell418 ?hrtell418 ?hQtell418 ?hytell418 (by assumption) ?resttell418
  case hoptell418 => (simp only [List.getElem?_toArray, List.getElem?_cons_zero, List.getElem?_cons_succ]; rfl)
  case hstell418 => kernel_rfl
  case hftell418 => kernel_rfl
  case hrtell418 => kernel_rfl
  case hQtell418 => exact fun _ _ _ h => h
  case hytell418 => (refine Or.inl ⟨by rfl, ?_⟩; intro w hSw; (try dsimp only at hSw); go_simp <;> with_reducible rfl)
  try simp only [Act.put, List.setIfInBounds_toArray, List.set_cons_zero, List.set_cons_succ]
  refine wpAnyH_take (i := 18) (oi := ?oitell419) (v := ?vtell419) ?hoptell419 ?hstell419 ?hftell419 ?hrtell419 ?hQtell419 ?hytell419 (by assumption) ?resttell419
  case hoptell419 => (simp only [List.getElem?_toArray, List.getElem?_cons_zero, List.getElem?_cons_succ]; rfl)
  case hstell419 => kernel_rfl
  case hftell419 => kernel_rfl
  case hrtell419 => kernel_rfl
  case hQtell419 => exact fun _ _ _ h => h
  case hytell419 => (refine Or.inl ⟨by rfl, ?_⟩; intro w hSw; (try dsimp only at hSw); go_simp <;> with_reducible rfl)
  try simp only [Act.put, List.setIfInBounds_toArray, List.set_cons_zero, List.set_cons_succ]
  refine wpAnyH_done (by kernel_rfl) ?_ _
  refine NoPanic.normal ?_
  go_wp2
  go_ret2
  exact ⟨L, C, k, rfl, hfin.out.1, hfin.out.2.1, hfin.out.2.2⟩
set_option maxRecDepth 100000 in
set_option maxHeartbeats 1000000 in
theorem tellOne (s : Stp) (a b : List Itm) (A B : Option Addr) (ca cb : Nat) (SA : Option Addr) (sc : Nat) (ss : List Sl) (S : List (List Zit)) (w : World) (kz : Int) (hkz : s.k = kz) (hk : kz = 2 ∨ kz = 3 ∨ kz = 8 ∨ kz = 7 ∨ kz = 9) (ha0 : 0 ≤ s.a) (ha1 : s.a.toNat < S.length) (hS : Sts w SA ss S) (hs : RowI w s.p s.l) (hO : ∀ l : List Itm, l.map Itm.z = getS S s.a → OneOk s l) :
    Calls Tryz.prog 54 #[.agg #[.int .i64 s.k, .int .i64 s.a, .int .i64 s.b, .int .i64 s.c, .int .i64 s.o, .int .i64 s.v, .slice s.p s.l.length s.n], .agg #[.slice A a.length ca, .slice B b.length cb], .slice SA ss.length sc] w fun e w' => ∃ (L : List Itm) (C : Option Addr) (k : Nat), e = .returned (.tuple #[.slice C L.length k, .int .i64 (tellE s (a.map Itm.z) (b.map Itm.z) S)]) ∧ L.map Itm.z = tellF s (a.map Itm.z) (b.map Itm.z) S ∧ Lv w' C k L ∧ Below w.heap.size w w' ∧ NewT w.heap.size C L := by
  have hE : Hid (tellE s (a.map Itm.z) (b.map Itm.z) S = normE (oneF s (getS S s.a)) ∧ tellF s (a.map Itm.z) (b.map Itm.z) S = normL (oneF s (getS S s.a))) := ⟨by unfold tellE; rw [if_neg (by omega), if_neg (by omega), if_neg (by omega), if_neg (by omega)], by unfold tellF; rw [if_neg (by omega), if_neg (by omega), if_neg (by omega), if_neg (by omega)]⟩
  obtain ⟨bb, off, na, x, hA, hbb, hna, hnal, hxc, hxl, hxz⟩ := hS.at ha0 ha1
  subst hA
  obtain ⟨E, hE2⟩ : ∃ E, tellE s (a.map Itm.z) (b.map Itm.z) S = E := ⟨_, rfl⟩
  have hE3 : Hid (normE (oneF s (getS S s.a)) = E) := by show _ = _; rw [← hE2, hE.out.1]
  have hgW : Hid (Gr w ((w.alloc (.cells #[.int .i64 kz, .int .i64 (na : Int), .int .i64 s.b, .int .i64 s.c, .int .i64 s.o, .int .i64 s.v, .slice s.p s.l.length s.n] 88)).alloc (.cells #[.slice A a.length ca, .slice B b.length cb] 56))) := ((Gr.refl _).alloc _).alloc _
  obtain ⟨WX, hWX⟩ : ∃ WX, ((w.alloc (.cells #[.int .i64 kz, .int .i64 (na : Int), .int .i64 s.b, .int .i64 s.c, .int .i64 s.o, .int .i64 s.v, .slice s.p s.l.length s.n] 88)).alloc (.cells #[.slice A a.length ca, .slice B b.length cb] 56)) = WX := ⟨_, rfl⟩
  have q0 : WX.cell? ⟨w.heap.size, 0, none⟩ = some (.int .i64 kz) := by rw [← hWX]; exact box1 (w := w) ((Gr.refl _).alloc _) rfl
  have q1 : WX.cell? ⟨w.heap.size, 1, none⟩ = some (.int .i64 (na : Int)) := by rw [← hWX]; exact box1 (w := w) ((Gr.refl _).alloc _) rfl
  have q2 : WX.cell? ⟨w.heap.size, 2, none⟩ = some (.int .i64 s.b) := by rw [← hWX]; exact box1 (w := w) ((Gr.refl _).alloc _) rfl
  have q3 : WX.cell? ⟨w.heap.size, 3, none⟩ = some (.int .i64 s.c) := by rw [← hWX]; exact box1 (w := w) ((Gr.refl _).alloc _) rfl
  have q4 : WX.cell? ⟨w.heap.size, 4, none⟩ = some (.int .i64 s.o) := by rw [← hWX]; exact box1 (w := w) ((Gr.refl _).alloc _) rfl
  have q5 : WX.cell? ⟨w.heap.size, 5, none⟩ = some (.int .i64 s.v) := by rw [← hWX]; exact box1 (w := w) ((Gr.refl _).alloc _) rfl
  have q6 : WX.cell? ⟨w.heap.size, 6, none⟩ = some (.slice s.p s.l.length s.n) := by rw [← hWX]; exact box1 (w := w) ((Gr.refl _).alloc _) rfl
  have hsb : w.heap.size < WX.heap.size := by rw [← hWX]; simp; omega
  rw [hWX] at hgW
  have hk2 : s.k = 2 ∨ s.k = 3 ∨ s.k = 8 ∨ s.k = 7 ∨ s.k = 9 := by omega
  have hC0 := one_any s x.l x.A x.cap WX.drew hk2 (hO x.l hxz) ((hxl.items.gr hgW.out).gr (Gr.refl _).drew) ((hs.gr hgW.out).gr (Gr.refl _).drew)
  rw [hkz, hna] at hC0
  have hC : Hid _ := hC0
  clear hC0
  have hxzH : Hid (x.l.map Itm.z = getS S s.a) := hxz
  have hKeep : Hid (∀ W', Below WX.heap.size WX W' → (fun w' => w'.cell? ⟨w.heap.size, 0, none⟩ = some (.int .i64 kz) ∧ w'.cell? ⟨w.heap.size, 1, none⟩ = some (.int .i64 (na : Int)) ∧ w'.cell? ⟨w.heap.size, 2, none⟩ = some (.int .i64 s.b) ∧ w'.cell? ⟨w.heap.size, 3, none⟩ = some (.int .i64 s.c) ∧ w'.cell? ⟨w.heap.size, 4, none⟩ = some (.int .i64 s.o) ∧ w'.cell? ⟨w.heap.size, 5, none⟩ = some (.int .i64 s.v) ∧ w'.cell? ⟨w.heap.size, 6, none⟩ = some (.slice s.p s.l.length s.n) ∧ w'.cell? ⟨bb, off + na, none⟩ = some (.slice x.A x.l.length x.cap)) W') := fun W' h => ⟨(h.cell (p := ⟨w.heap.size, 0, none⟩) hsb).trans q0, (h.cell (p := ⟨w.heap.size, 1, none⟩) hsb).trans q1, (h.cell (p := ⟨w.heap.size, 2, none⟩) hsb).trans q2, (h.cell (p := ⟨w.heap.size, 3, none⟩) hsb).trans q3, (h.cell (p := ⟨w.heap.size, 4, none⟩) hsb).trans q4, (h.cell (p := ⟨w.heap.size, 5, none⟩) hsb).trans q5, (h.cell (p := ⟨w.heap.size, 6, none⟩) hsb).trans q6, (h.cell (p := ⟨bb, off + na, none⟩) (Nat.lt_of_lt_of_le hbb hgW.out.size)).trans ((hgW.out.below.cell (p := ⟨bb, off + na, none⟩) hbb).trans hxc)⟩
  have hbD : Hid (Below WX.heap.size WX WX.drew) := (Below.refl _ _).drew
  have hnaz : (na : Int) < (ss.length : Int) := by omega
  have kz1 : (kz == 1) = false := by rcases hk with h | h | h | h | h <;> rw [h] <;> rfl
  have kz4 : (kz == 4) = false := by rcases hk with h | h | h | h | h <;> rw [h] <;> rfl
  have kz5 : (kz == 5) = false := by rcases hk with h | h | h | h | h <;> rw [h] <;> rfl
  have kz6 : (kz == 6) = false := by rcases hk with h | h | h | h | h <;> rw [h] <;> rfl
  rw [hE2, hkz, hna]
  clear hk hk2 hE2 hxc hxl hxz hna ha0 ha1 hnal hbb q1 q2 q3 q4 q5 q6 hS hs hO hkz
  go_enter Tryz.func54, Tryz.ntmps54
  go_wp2_with fail
  clear hWX q0
  refine wp_region_noPanic ?_
  refine wp_region_held_drew (S := (fun w' => w'.cell? ⟨w.heap.size, 0, none⟩ = some (.int .i64 kz) ∧ w'.cell? ⟨w.heap.size, 1, none⟩ = some (.int .i64 (na : Int)) ∧ w'.cell? ⟨w.heap.size, 2, none⟩ = some (.int .i64 s.b) ∧ w'.cell? ⟨w.heap.size, 3, none⟩ = some (.int .i64 s.c) ∧ w'.cell? ⟨w.heap.size, 4, none⟩ = some (.int .i64 s.o) ∧ w'.cell? ⟨w.heap.size, 5, none⟩ = some (.int .i64 s.v) ∧ w'.cell? ⟨w.heap.size, 6, none⟩ = some (.slice s.p s.l.length s.n) ∧ w'.cell? ⟨bb, off + na, none⟩ = some (.slice x.A x.l.length x.cap))) (by kernel_rfl) (hKeep.out _ hbD.out) (fun hHeld => ?_)
  refine wpAnyH_take (i := 0) (oi := ?oitellOne1) (v := ?vtellOne1) ?hoptellOne1 ?hstellOne1 ?hftellOne1 ?hrtellOne1 ?hQtellOne1 ?hytellOne1 (by assumption) ?resttellOne1
  case hoptellOne1 => (simp only [List.getElem?_toArray, List.getElem?_cons_zero]; rfl)
  case hstellOne1 => kernel_rfl
  case hftellOne1 => kernel_rfl
  case hrtellOne1 => kernel_rfl
  case hQtellOne1 => exact fun _ _ _ h => h
  case hytellOne1 => (refine Or.inl ⟨by rfl, ?_⟩; intro w hSw; (try dsimp only at hSw); go_simp <;> with_reducible rfl)
  try simp only [Act.put, List.setIfInBounds_toArray, List.set_cons_zero, List.set_cons_succ]
  refine wpAnyH_take (i := 1) (oi := ?oitellOne2) (v := ?vtellOne2) ?hoptellOne2 ?hstellOne2 ?hftellOne2 ?hrtellOne2 ?hQtellOne2 ?hytellOne2 (by assumption) ?resttellOne2
  case hoptellOne2 => (simp only [List.getElem?_toArray, List.getElem?_cons_zero, List.getElem?_cons_succ]; rfl)
  case hstellOne2 => kernel_rfl
  case hftellOne2 => kernel_rfl
  case hrtellOne2 => kernel_rfl
  case hQtellOne2 => exact fun _ _ _ h => h
  case hytellOne2 => (refine Or.inl ⟨by rfl, ?_⟩; intro w hSw; (try dsimp only at hSw); go_simp <;> with_reducible rfl)
  try simp only [Act.put, List.setIfInBounds_toArray, List.set_cons_zero, List.set_cons_succ]
  refine wpAnyH_take (i := 2) (oi := ?oitellOne3) (v := ?vtellOne3) ?hoptellOne3 ?hstellOne3 ?hftellOne3 ?hrtellOne3 ?hQtellOne3 ?hytellOne3 (by assumption) ?resttellOne3
  case hoptellOne3 => (simp only [List.getElem?_toArray, List.getElem?_cons_zero, List.getElem?_cons_succ]; rfl)
  case hstellOne3 => kernel_rfl
  case hftellOne3 => kernel_rfl
  case hrtellOne3 => kernel_rfl
  case hQtellOne3 => exact fun _ _ _ h => h
  case hytellOne3 => (refine Or.inl ⟨by rfl, ?_⟩; intro w hSw; (try dsimp only at hSw); go_simp <;> with_reducible rfl)
  try simp only [Act.put, List.setIfInBounds_toArray, List.set_cons_zero, List.set_cons_succ]
  refine wpAnyH_take (i := 3) (oi := ?oitellOne4) (v := ?vtellOne4) ?hoptellOne4 ?hstellOne4 ?hftellOne4 ?hrtellOne4 ?hQtellOne4 ?hytellOne4 (by assumption) ?resttellOne4
  case hoptellOne4 => (simp only [List.getElem?_toArray, List.getElem?_cons_zero, List.getElem?_cons_succ]; rfl)
  case hstellOne4 => kernel_rfl
  case hftellOne4 => kernel_rfl
  case hrtellOne4 => kernel_rfl
  case hQtellOne4 => exact fun _ _ _ h => h
  case hytellOne4 => (refine Or.inl ⟨by rfl, ?_⟩; intro w hSw; (try dsimp only at hSw); go_simp <;> with_reducible rfl)
  try simp only [Act.put, List.setIfInBounds_toArray, List.set_cons_zero, List.set_cons_succ]
  refine wpAnyH_take (i := 4) (oi := ?oitellOne5) (v := ?vtellOne5) ?hoptellOne5 ?hstellOne5 ?hftellOne5 ?hrtellOne5 ?hQtellOne5 ?hytellOne5 (by assumption) ?resttellOne5
  case hoptellOne5 => (simp only [List.getElem?_toArray, List.getElem?_cons_zero, List.getElem?_cons_succ]; rfl)
  case hstellOne5 => kernel_rfl
  case hftellOne5 => kernel_rfl
  case hrtellOne5 => kernel_rfl
  case hQtellOne5 => exact fun _ _ _ h => h
  case hytellOne5 => (refine Or.inl ⟨by rfl, ?_⟩; intro w hSw; (try dsimp only at hSw); go_simp <;> with_reducible rfl)
  try simp only [Act.put, List.setIfInBounds_toArray, List.set_cons_zero, List.set_cons_succ]
  refine wpAnyH_take (i := 5) (oi := ?oitellOne6) (v := ?vtellOne6) ?hoptellOne6 ?hstellOne6 ?hftellOne6 ?hrtellOne6 ?hQtellOne6 ?hytellOne6 (by assumption) ?resttellOne6
  case hoptellOne6 => (simp only [List.getElem?_toArray, List.getElem?_cons_zero, List.getElem?_cons_succ]; rfl)
  case hstellOne6 => kernel_rfl
  case hftellOne6 => kernel_rfl
  case hrtellOne6 => kernel_rfl
  case hQtellOne6 => exact fun _ _ _ h => h
  case hytellOne6 => (refine Or.inl ⟨by rfl, ?_⟩; intro w hSw; (try dsimp only at hSw); go_simp <;> with_reducible rfl)
  try simp only [Act.put, List.setIfInBounds_toArray, List.set_cons_zero, List.set_cons_succ]
  refine wpAnyH_ready (rs := [6]) (by kernel_rfl) (by simp) ?_
  refine AllReadyH.cons (o := ?oitellOne7) ?hoptellOne7 (fun K hK => ?steptellOne7) ?moretellOne7
  case hoptellOne7 => (simp only [List.getElem?_toArray, List.getElem?_cons_zero, List.getElem?_cons_succ]; rfl)
  case moretellOne7 => exact AllReadyH.nil
  go_simp
  (go_at_call 76; (refine Calls.mono (show Calls _ _ _ _ _ from hC.out) ?_); rintro e w1 ⟨L1, C1, k1, rfl, g1, g2, g3, g4⟩; have hb1 : Hid (Below WX.heap.size WX w1) := hbD.out.trans (g4.mono hbD.out.size); have hN0 := normVn g2 (m := oneF s (getS S s.a)) (by rw [g1, hxzH.out]); have hN : Hid _ := hN0; clear hN0 g1 g2 g3 g4)
  first | (go_wp2_with fail) | skip
  refine hK.out _ _ ?_ (fun hHeld => ?_)
  · (try dsimp only); first | with_reducible exact hKeep.out _ hbD.out | with_reducible exact hKeep.out _ hb2.out | with_reducible exact hKeep.out _ hb1.out
  clear hK K
  try simp only [Act.put, List.setIfInBounds_toArray, List.set_cons_zero, List.set_cons_succ]
  refine wpAnyH_ready (rs := [7]) (by kernel_rfl) (by simp) ?_
  refine AllReadyH.cons (o := ?oitellOne8) ?hoptellOne8 (fun K hK => ?steptellOne8) ?moretellOne8
  case hoptellOne8 => (simp only [List.getElem?_toArray, List.getElem?_cons_zero, List.getElem?_cons_succ]; rfl)
  case moretellOne8 => exact AllReadyH.nil
  go_simp
  (go_at_call 6; (refine Calls.mono (show Calls _ _ _ _ _ from hN.out) ?_); rintro e w2 ⟨L, C, k, rfl, h1, h2, h3, h4⟩; rw [hE3.out]; have hb2 : Hid (Below WX.heap.size WX w2) := hb1.out.trans (h3.mono hb1.out.size); have hfin : Hid (L.map Itm.z = tellF s (a.map Itm.z) (b.map Itm.z) S ∧ Lv w2 C k L ∧ Below w.heap.size w w2 ∧ NewT w.heap.size C L) := ⟨by rw [hE.out.2]; exact h1, h2, hgW.out.below.trans (hb2.out.mono hgW.out.size), h4.mono (Nat.le_trans hgW.out.size hb1.out.size)⟩; clear h1 h2 h3 h4)
  first | (go_wp2_with fail) | skip
  refine hK.out _ _ ?_ (fun hHeld => ?_)
  · (try dsimp only); first | with_reducible exact hKeep.out _ hbD.out | with_reducible exact hKeep.out _ hb2.out | with_reducible exact hKeep.out _ hb1.out
  clear hK K
  try simp only [Act.put, List.setIfInBounds_toArray, List.set_cons_zero, List.set_cons_succ]
  refine wpAnyH_take (i := 8) (oi := ?oitellOne9) (v := ?vtellOne9) ?hoptellOne9 ?hstellOne9 ?hftellOne9 ?hrtellOne9 ?hQtellOne9 ?hytellOne9 (by assumption) ?resttellOne9
  case hoptellOne9 => (simp only [List.getElem?_toArray, List.getElem?_cons_zero, List.getElem?_cons_succ]; rfl)
  case hstellOne9 => kernel_rfl
  case hftellOne9 => kernel_rfl
  case hrtellOne9 => kernel_rfl
  case hQtellOne9 => exact fun _ _ _ h => h
  case hytellOne9 => (refine Or.inl ⟨by rfl, ?_⟩; intro w hSw; (try dsimp only at hSw); go_simp <;> with_reducible rfl)
  try simp only [Act.put, List.setIfInBounds_toArray, List.set_cons_zero, List.set_cons_succ]
  refine wpAnyH_take (i := 9) (oi := ?oitellOne10) (v := ?vtellOne10) ?hoptellOne10 ?hstellOne10 ?hftellOne10 ?hrtellOne10 ?hQtellOne10 ?hytellOne10 (by assumption) ?resttellOne10
  case hoptellOne10 => (simp only [List.getElem?_toArray, List.getElem?_cons_zero, List.getElem?_cons_succ]; rfl)
  case hstellOne10 => kernel_rfl
  case hftellOne10 => kernel_rfl
  case hrtellOne10 => kernel_rfl
  case hQtellOne10 => exact fun _ _ _ h => h
  case hytellOne10 => (refine Or.inl ⟨by rfl, ?_⟩; intro w hSw; (try dsimp only at hSw); go_simp <;> with_reducible rfl)
  try simp only [Act.put, List.setIfInBounds_toArray, List.set_cons_zero, List.set_cons_succ]
  refine wpAnyH_take (i := 10) (oi := ?oitellOne11) (v := ?vtellOne11) ?hoptellOne11 ?hstellOne11 ?hftellOne11 ?hrtellOne11 ?hQtellOne11 ?hytellOne11 (by assumption) ?resttellOne11
  case hoptellOne11 => (simp only [List.getElem?_toArray, List.getElem?_cons_zero, List.getElem?_cons_succ]; rfl)
  case hstellOne11 => kernel_rfl
  case hftellOne11 => kernel_rfl
  case hrtellOne11 => kernel_rfl
  case hQtellOne11 => exact fun _ _ _ h => h
  case hytellOne11 => (refine Or.inl ⟨by rfl, ?_⟩; intro w hSw; (try dsimp only at hSw); go_simp <;> with_reducible rfl)
  try simp only [Act.put, List.setIfInBounds_toArray, List.set_cons_zero, List.set_cons_succ]
  refine wpAnyH_take (i := 11) (oi := ?oitellOne12) (v := ?vtellOne12) ?hoptellOne12 ?hstellOne12 ?hftellOne12 ?hrtellOne12 ?hQtellOne12 ?hytellOne12 (by assumption) ?resttellOne12
  case hoptellOne12 => (simp only [List.getElem?_toArray, List.getElem?_cons_zero, List.getElem?_cons_succ]; rfl)
  case hstellOne12 => kernel_rfl
  case hftellOne12 => kernel_rfl
  case hrtellOne12 => kernel_rfl
  case hQtellOne12 => exact fun _ _ _ h => h
  case hytellOne12 => (refine Or.inl ⟨by rfl, ?_⟩; intro w hSw; (try dsimp only at hSw); go_simp <;> with_reducible rfl)
  try simp only [Act.put, List.setIfInBounds_toArray, List.set_cons_zero, List.set_cons_succ]
  refine wpAnyH_done (by kernel_rfl) ?_ _
  refine NoPanic.normal ?_
  go_wp2
  go_ret2
  exact ⟨L, C, k, rfl, hfin.out.1, hfin.out.2.1, hfin.out.2.2⟩
end Go.Proofs.YtnkpfhipgcmplaaGreatDoor
