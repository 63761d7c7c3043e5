/-
  viewref.Minus: a list with its N turned.
  A step in a block of its own; viewref.made of distinct.
  viewref.made of where.
-/
import Derived.Test.YtoanlaedkpkpnaaGreatDoorM10
import Derived.Deep.RegionHeld3
import Derived.Test.YtoanlaedkpkpnaaGreatDoorM23
import Derived.Test.YtoanlaedkpkpnaaGreatDoorM12
namespace Go.Proofs.YtoanlaedkpkpnaaGreatDoor
open Go.RowKit Go.Sort Go.Maps

theorem neg_take {l : List Itm} {k : Nat} (h : k < l.length) : negP ((l.take (k + 1)).map Itm.z) = negP ((l.take k).map Itm.z) ++ [(l[k].r, -l[k].n)] := by
  unfold negP
  rw [List.take_succ_eq_append_getElem h, List.map_append, List.map_append]
  rfl
set_option maxRecDepth 100000 in
set_option maxHeartbeats 2000000 in
theorem rminusX (l : List Itm) (A : Option Addr) (c : Nat) (w : World) (hl : l.length ≤ 400) (hw : ∀ x ∈ l, okW x.n = true) (hr : Items w A l) :
    Calls Tryz.prog 23 #[.slice A l.length c] w fun e w' => ∃ (L : List Itm) (C : Option Addr) (k : Nat), e = .returned (.slice C L.length k) ∧ L.map Itm.z = negP (l.map Itm.z) ∧ Lv w' C k L ∧ Below w.heap.size w w' ∧ ∀ y ∈ L, ∃ x ∈ l, y = ⟨x.p, x.c, x.r, -x.n⟩ := by
  have mixed : Tryz.prog.follows .mixedOrders = true := by kernel_rfl
  have hrH : Hid (Items w A l ∧ ∀ x ∈ l, okW x.n = true) := ⟨hr, hw⟩
  clear hr hw
  go_enter Tryz.func23, Tryz.ntmps23
  go_wp2
  go_loopw [3, 4] (fun u i wr => ∃ (k : Nat) (L : List Itm), k ≤ l.length ∧ i = .int .i64 k ∧ Hid (L.length = k ∧ L.map Itm.z = negP ((l.take k).map Itm.z) ∧ (∀ y ∈ L, ∃ x ∈ l, y = ⟨x.p, x.c, x.r, -x.n⟩) ∧ OwnG encT 2 59 wr w.heap.size u L ∧ Below w.heap.size w wr)) (fun _ i _ => l.length - (intOf i).toNat)
  case atStart => exact ⟨0, [], Nat.zero_le _, rfl, rfl, rfl, fun x hx => (by cases hx), OwnG.nil _ _ _ _ _, Below.refl _ _⟩
  case round =>
    obtain ⟨k, L, hk, rfl, hR⟩ := hrel
    by_cases hlt : k < l.length
    · have hltz : (k : Int) < (l.length : Int) := by omega
      have hI : Hid (Items wr A l) := hrH.out.1.below hR.out.2.2.2.2
      obtain ⟨bb, off, rfl, hb, hcs⟩ := hI.out.at hlt
      obtain ⟨x, hx⟩ : ∃ x, l[k] = x := ⟨_, rfl⟩
      obtain ⟨e0, e1⟩ := hcs k hlt
      rw [hx] at e0 e1
      have hst : Hid (negP ((l.take (k + 1)).map Itm.z) = negP ((l.take k).map Itm.z) ++ [(x.r, -x.n)]) := by show _ = _; rw [neg_take hlt, hx]
      have hxm : x ∈ l := by rw [← hx]; exact List.getElem_mem hlt
      have hxH : Hid (x ∈ l) := hxm
      have hxw := hrH.out.2 x hxm
      have hwr : wrap64 (-x.n) = -x.n := by
        simp only [okW, inB, Bool.and_eq_true, decide_eq_true_eq] at hxw
        unfold wrap64; omega
      have hwr2 : IntKind.i64.wrap (-x.n) = -x.n := by
        simp only [okW, inB, Bool.and_eq_true, decide_eq_true_eq] at hxw
        rw [IntKind.wrap_i64]; omega
      clear hcs hx hxm hxw
      have hgD : Hid (Gr wr wr.drew) := (Gr.refl _).drew
      have hKeep : Hid (∀ W', Gr wr W' → (fun w' => w'.cell? ⟨bb, off + k * 2, none⟩ = some (.slice x.p x.r.length x.c) ∧ w'.cell? ⟨bb, off + k * 2 + 1, none⟩ = some (.int .i64 x.n)) W') := fun W' h => ⟨(h.cell (p := ⟨bb, off + k * 2, none⟩) hb).trans e0, (h.cell (p := ⟨bb, off + k * 2 + 1, none⟩) hb).trans e1⟩
      have hoX : Hid (OwnG encT 2 59 (wr.drew.alloc (.cells #[.slice x.p x.r.length x.c, .int .i64 (-x.n)] 59)) w.heap.size u3 L ∧ RowG encT 2 (wr.drew.alloc (.cells #[.slice x.p x.r.length x.c, .int .i64 (-x.n)] 59)) (some ⟨wr.drew.heap.size, 0, none⟩) [(⟨x.p, x.c, x.r, -x.n⟩ : Itm)] ∧ L.length + 1 ≤ maxLen ∧ (L.length + 1) * 32 ≤ 140737488355328 ∧ Below w.heap.size w (wr.drew.alloc (.cells #[.slice x.p x.r.length x.c, .int .i64 (-x.n)] 59))) := by
        have hLk := hR.out.1
        have hg : Gr wr (wr.drew.alloc (.cells #[.slice x.p x.r.length x.c, .int .i64 (-x.n)] 59)) := hgD.out.alloc _
        exact ⟨hR.out.2.2.2.1.gr hg, rowNewT rfl (⟨x.p, x.c, x.r, -x.n⟩ : Itm) _, by unfold maxLen; omega, by omega, hR.out.2.2.2.2.trans (hg.below.mono hR.out.2.2.2.2.size)⟩
      have hKeep2 : Hid (∀ W', (wr.drew.alloc (.cells #[.slice x.p x.r.length x.c, .int .i64 (-x.n)] 59)).grownBy W' u3.ownBlock → (fun w' => w'.cell? ⟨bb, off + k * 2, none⟩ = some (.slice x.p x.r.length x.c) ∧ w'.cell? ⟨bb, off + k * 2 + 1, none⟩ = some (.int .i64 x.n)) W') := fun W' h => by
        have hb2 : Below w.heap.size w W' := hoX.out.2.2.2.2.trans (hoX.out.1.grown_below h hoX.out.2.2.2.2.size)
        obtain ⟨b0, o0, h0, hlt0, hc0⟩ := hrH.out.1.at hlt
        cases h0
        have h1 := hb2.cell (p := ⟨bb, off + k * 2, none⟩) hlt0
        have h2 := hR.out.2.2.2.2.cell (p := ⟨bb, off + k * 2, none⟩) hlt0
        have h3 := hb2.cell (p := ⟨bb, off + k * 2 + 1, none⟩) hlt0
        have h4 := hR.out.2.2.2.2.cell (p := ⟨bb, off + k * 2 + 1, none⟩) hlt0
        exact ⟨(h1.trans h2.symm).trans e0, (h3.trans h4.symm).trans e1⟩
      go_wp2
      refine wp_region_noPanic ?_
      refine wp_region_held_drew (S := (fun w' => w'.cell? ⟨bb, off + k * 2, none⟩ = some (.slice x.p x.r.length x.c) ∧ w'.cell? ⟨bb, off + k * 2 + 1, none⟩ = some (.int .i64 x.n))) (by kernel_rfl) (hKeep.out _ hgD.out) (fun hHeld => ?_)
      refine wpAnyH_take (i := 0) (oi := ?ois1) (v := ?vs1) ?hops1 ?hss1 ?hfs1 ?hrs1 ?hQs1 ?hys1 (by assumption) ?rests1
      case hops1 => (simp only [List.getElem?_toArray, List.getElem?_cons_zero]; rfl)
      case hss1 => kernel_rfl
      case hfs1 => kernel_rfl
      case hrs1 => kernel_rfl
      case hQs1 => exact fun _ _ _ h => h
      case hys1 => (refine Or.inl ⟨by rfl, ?_⟩; intro w hSw; (try dsimp only at hSw); go_simp <;> with_reducible rfl)
      try simp only [Act.put, List.setIfInBounds_toArray, List.set_cons_zero, List.set_cons_succ]
      refine wpAnyH_take (i := 1) (oi := ?ois2) (v := ?vs2) ?hops2 ?hss2 ?hfs2 ?hrs2 ?hQs2 ?hys2 (by assumption) ?rests2
      case hops2 => (simp only [List.getElem?_toArray, List.getElem?_cons_zero, List.getElem?_cons_succ]; rfl)
      case hss2 => kernel_rfl
      case hfs2 => kernel_rfl
      case hrs2 => kernel_rfl
      case hQs2 => exact fun _ _ _ h => h
      case hys2 => (refine Or.inl ⟨by rfl, ?_⟩; intro w hSw; (try dsimp only at hSw); go_simp <;> with_reducible rfl)
      try simp only [Act.put, List.setIfInBounds_toArray, List.set_cons_zero, List.set_cons_succ]
      refine wpAnyH_take (i := 2) (oi := ?ois3) (v := ?vs3) ?hops3 ?hss3 ?hfs3 ?hrs3 ?hQs3 ?hys3 (by assumption) ?rests3
      case hops3 => (simp only [List.getElem?_toArray, List.getElem?_cons_zero, List.getElem?_cons_succ]; rfl)
      case hss3 => kernel_rfl
      case hfs3 => kernel_rfl
      case hrs3 => kernel_rfl
      case hQs3 => exact fun _ _ _ h => h
      case hys3 => (refine Or.inl ⟨by rfl, ?_⟩; intro w hSw; (try dsimp only at hSw); go_simp <;> with_reducible rfl)
      try simp only [Act.put, List.setIfInBounds_toArray, List.set_cons_zero, List.set_cons_succ]
      refine wpAnyH_take (i := 3) (oi := ?ois4) (v := ?vs4) ?hops4 ?hss4 ?hfs4 ?hrs4 ?hQs4 ?hys4 (by assumption) ?rests4
      case hops4 => (simp only [List.getElem?_toArray, List.getElem?_cons_zero, List.getElem?_cons_succ]; rfl)
      case hss4 => kernel_rfl
      case hfs4 => kernel_rfl
      case hrs4 => kernel_rfl
      case hQs4 => exact fun _ _ _ h => h
      case hys4 => (refine Or.inl ⟨by rfl, ?_⟩; intro w hSw; (try dsimp only at hSw); go_simp <;> with_reducible rfl)
      try simp only [Act.put, List.setIfInBounds_toArray, List.set_cons_zero, List.set_cons_succ]
      refine wpAnyH_take (i := 4) (oi := ?ois5) (v := ?vs5) ?hops5 ?hss5 ?hfs5 ?hrs5 ?hQs5 ?hys5 (by assumption) ?rests5
      case hops5 => (simp only [List.getElem?_toArray, List.getElem?_cons_zero, List.getElem?_cons_succ]; rfl)
      case hss5 => kernel_rfl
      case hfs5 => kernel_rfl
      case hrs5 => kernel_rfl
      case hQs5 => exact fun _ _ _ h => h
      case hys5 => (refine Or.inl ⟨by rfl, ?_⟩; intro w hSw; (try dsimp only at hSw); go_simp <;> with_reducible rfl)
      try simp only [Act.put, List.setIfInBounds_toArray, List.set_cons_zero, List.set_cons_succ]
      refine wpAnyH_take (i := 5) (oi := ?ois6) (v := ?vs6) ?hops6 ?hss6 ?hfs6 ?hrs6 ?hQs6 ?hys6 (by assumption) ?rests6
      case hops6 => (simp only [List.getElem?_toArray, List.getElem?_cons_zero, List.getElem?_cons_succ]; rfl)
      case hss6 => kernel_rfl
      case hfs6 => kernel_rfl
      case hrs6 => kernel_rfl
      case hQs6 => exact fun _ _ _ h => h
      case hys6 => (refine Or.inl ⟨by rfl, ?_⟩; intro w hSw; (try dsimp only at hSw); go_simp <;> with_reducible rfl)
      try simp only [Act.put, List.setIfInBounds_toArray, List.set_cons_zero, List.set_cons_succ]
      refine wpAnyH_take (i := 6) (oi := ?ois7) (v := ?vs7) ?hops7 ?hss7 ?hfs7 ?hrs7 ?hQs7 ?hys7 (by assumption) ?rests7
      case hops7 => (simp only [List.getElem?_toArray, List.getElem?_cons_zero, List.getElem?_cons_succ]; rfl)
      case hss7 => kernel_rfl
      case hfs7 => kernel_rfl
      case hrs7 => kernel_rfl
      case hQs7 => exact fun _ _ _ h => h
      case hys7 => (refine Or.inl ⟨by rfl, ?_⟩; intro w hSw; (try dsimp only at hSw); go_simp <;> with_reducible rfl)
      try simp only [Act.put, List.setIfInBounds_toArray, List.set_cons_zero, List.set_cons_succ]
      refine wpAnyH_take (i := 7) (oi := ?ois8) (v := ?vs8) ?hops8 ?hss8 ?hfs8 ?hrs8 ?hQs8 ?hys8 (by assumption) ?rests8
      case hops8 => (simp only [List.getElem?_toArray, List.getElem?_cons_zero, List.getElem?_cons_succ]; rfl)
      case hss8 => kernel_rfl
      case hfs8 => kernel_rfl
      case hrs8 => kernel_rfl
      case hQs8 => exact fun _ _ _ h => h
      case hys8 => (refine Or.inl ⟨by rfl, ?_⟩; intro w hSw; (try dsimp only at hSw); go_simp <;> with_reducible rfl)
      try simp only [Act.put, List.setIfInBounds_toArray, List.set_cons_zero, List.set_cons_succ]
      refine wpAnyH_take (i := 8) (oi := ?ois9) (v := ?vs9) ?hops9 ?hss9 ?hfs9 ?hrs9 ?hQs9 ?hys9 (by assumption) ?rests9
      case hops9 => (simp only [List.getElem?_toArray, List.getElem?_cons_zero, List.getElem?_cons_succ]; rfl)
      case hss9 => kernel_rfl
      case hfs9 => kernel_rfl
      case hrs9 => kernel_rfl
      case hQs9 => exact fun _ _ _ h => h
      case hys9 => (refine Or.inl ⟨by rfl, ?_⟩; intro w hSw; (try dsimp only at hSw); go_simp <;> with_reducible rfl)
      try simp only [Act.put, List.setIfInBounds_toArray, List.set_cons_zero, List.set_cons_succ]
      refine wpAnyH_take (i := 9) (oi := ?ois10) (v := ?vs10) ?hops10 ?hss10 ?hfs10 ?hrs10 ?hQs10 ?hys10 (by assumption) ?rests10
      case hops10 => (simp only [List.getElem?_toArray, List.getElem?_cons_zero, List.getElem?_cons_succ]; rfl)
      case hss10 => kernel_rfl
      case hfs10 => kernel_rfl
      case hrs10 => kernel_rfl
      case hQs10 => exact fun _ _ _ h => h
      case hys10 => (refine Or.inl ⟨by rfl, ?_⟩; intro w hSw; (try dsimp only at hSw); go_simp <;> with_reducible rfl)
      try simp only [Act.put, List.setIfInBounds_toArray, List.set_cons_zero, List.set_cons_succ]
      refine wpAnyH_take (i := 10) (oi := ?ois11) (v := ?vs11) ?hops11 ?hss11 ?hfs11 ?hrs11 ?hQs11 ?hys11 (by assumption) ?rests11
      case hops11 => (simp only [List.getElem?_toArray, List.getElem?_cons_zero, List.getElem?_cons_succ]; rfl)
      case hss11 => kernel_rfl
      case hfs11 => kernel_rfl
      case hrs11 => kernel_rfl
      case hQs11 => exact fun _ _ _ h => h
      case hys11 => (refine Or.inl ⟨by rfl, ?_⟩; intro w hSw; (try dsimp only at hSw); go_simp <;> with_reducible rfl)
      try simp only [Act.put, List.setIfInBounds_toArray, List.set_cons_zero, List.set_cons_succ]
      refine wpAnyH_take (i := 11) (oi := ?ois12) (v := ?vs12) ?hops12 ?hss12 ?hfs12 ?hrs12 ?hQs12 ?hys12 (by assumption) ?rests12
      case hops12 => (simp only [List.getElem?_toArray, List.getElem?_cons_zero, List.getElem?_cons_succ]; rfl)
      case hss12 => kernel_rfl
      case hfs12 => kernel_rfl
      case hrs12 => kernel_rfl
      case hQs12 => exact fun _ _ _ h => h
      case hys12 => (refine Or.inl ⟨by rfl, ?_⟩; intro w hSw; (try dsimp only at hSw); go_simp <;> with_reducible rfl)
      try simp only [Act.put, List.setIfInBounds_toArray, List.set_cons_zero, List.set_cons_succ]
      refine wpAnyH_take (i := 12) (oi := ?ois13) (v := ?vs13) ?hops13 ?hss13 ?hfs13 ?hrs13 ?hQs13 ?hys13 (by assumption) ?rests13
      case hops13 => (simp only [List.getElem?_toArray, List.getElem?_cons_zero, List.getElem?_cons_succ]; rfl)
      case hss13 => kernel_rfl
      case hfs13 => kernel_rfl
      case hrs13 => kernel_rfl
      case hQs13 => exact fun _ _ _ h => h
      case hys13 => (refine Or.inl ⟨by rfl, ?_⟩; intro w hSw; (try dsimp only at hSw); go_simp <;> with_reducible rfl)
      try simp only [Act.put, List.setIfInBounds_toArray, List.set_cons_zero, List.set_cons_succ]
      refine wpAnyH_ready (rs := [13]) (by kernel_rfl) (by simp) ?_
      refine AllReadyH.cons (o := ?ois14) ?hops14 (fun K hK => ?steps14) ?mores14
      case hops14 => (simp only [List.getElem?_toArray, List.getElem?_cons_zero, List.getElem?_cons_succ]; rfl)
      case mores14 => exact AllReadyH.nil
      go_simp
      refine hK.out _ _ ?_ (fun hHeld => ?_)
      · (try dsimp only); first | with_reducible exact hKeep.out _ hgD.out | exact hKeep.out _ (hgD.out.alloc _) | with_reducible exact hKeep.out _ (hgD.out.alloc _) | exact hk4.out
      clear hK K
      try simp only [Act.put, List.setIfInBounds_toArray, List.set_cons_zero, List.set_cons_succ]
      refine wpAnyH_ready (rs := [14]) (by kernel_rfl) (by simp) ?_
      refine AllReadyH.cons (o := ?ois15) ?hops15 (fun K hK => ?steps15) ?mores15
      case hops15 => (simp only [List.getElem?_toArray, List.getElem?_cons_zero, List.getElem?_cons_succ]; rfl)
      case mores15 => exact AllReadyH.nil
      (refine step_append_l _ rfl (.tmp 11) (.tmp 24) rfl w.heap.size u3 L (⟨x.p, x.c, x.r, -x.n⟩ : Itm) ⟨wr.drew.heap.size, 0, none⟩ 1 rfl rfl hoX.out.1 hoX.out.2.1 hoX.out.2.2.1 hoX.out.2.2.2.1 hoX.out.2.2.2.2.size ?_; intro v4 w4 hown4 hgb4 _; have hk4 : Hid ((fun w' => w'.cell? ⟨bb, off + k * 2, none⟩ = some (.slice x.p x.r.length x.c) ∧ w'.cell? ⟨bb, off + k * 2 + 1, none⟩ = some (.int .i64 x.n)) w4) := hKeep2.out w4 hgb4; have hfin : Hid ((L ++ [(⟨x.p, x.c, x.r, -x.n⟩ : Itm)]).length = k + 1 ∧ (L ++ [(⟨x.p, x.c, x.r, -x.n⟩ : Itm)]).map Itm.z = negP ((l.take (k + 1)).map Itm.z) ∧ (∀ y ∈ L ++ [(⟨x.p, x.c, x.r, -x.n⟩ : Itm)], ∃ x ∈ l, y = ⟨x.p, x.c, x.r, -x.n⟩) ∧ OwnG encT 2 59 w4 w.heap.size v4 (L ++ [(⟨x.p, x.c, x.r, -x.n⟩ : Itm)]) ∧ Below w.heap.size w w4) := ⟨by have := hR.out.1; simp; omega, by rw [hst.out, List.map_append, hR.out.2.1]; rfl, fun y hy => (by rcases List.mem_append.1 hy with h | h; exact hR.out.2.2.1 y h; exact ⟨x, hxH.out, List.mem_singleton.1 h⟩), hown4, hoX.out.2.2.2.2.trans (hoX.out.1.grown_below hgb4 hoX.out.2.2.2.2.size)⟩; clear hown4 hgb4)
      refine hK.out _ _ ?_ (fun hHeld => ?_)
      · (try dsimp only); first | with_reducible exact hKeep.out _ hgD.out | exact hKeep.out _ (hgD.out.alloc _) | with_reducible exact hKeep.out _ (hgD.out.alloc _) | exact hk4.out
      clear hK K
      try simp only [Act.put, List.setIfInBounds_toArray, List.set_cons_zero, List.set_cons_succ]
      refine wpAnyH_take (i := 15) (oi := ?ois16) (v := ?vs16) ?hops16 ?hss16 ?hfs16 ?hrs16 ?hQs16 ?hys16 (by assumption) ?rests16
      case hops16 => (simp only [List.getElem?_toArray, List.getElem?_cons_zero, List.getElem?_cons_succ]; rfl)
      case hss16 => kernel_rfl
      case hfs16 => kernel_rfl
      case hrs16 => kernel_rfl
      case hQs16 => exact fun _ _ _ h => h
      case hys16 => (refine Or.inl ⟨by rfl, ?_⟩; intro w hSw; (try dsimp only at hSw); go_simp <;> with_reducible rfl)
      try simp only [Act.put, List.setIfInBounds_toArray, List.set_cons_zero, List.set_cons_succ]
      refine wpAnyH_done (by kernel_rfl) ?_ _
      refine NoPanic.normal ?_
      go_wp2
      go_roundw
      case rel => exact ⟨k + 1, L ++ [(⟨x.p, x.c, x.r, -x.n⟩ : Itm)], by omega, by go_num, hfin⟩
      case measure => simp [intOf]; omega
    · have hltz : ¬ (k : Int) < (l.length : Int) := by omega
      have hke : l.take k = l := List.take_of_length_le (by omega)
      obtain ⟨A2, cap2, hv2, hn1, hit, hcp, _, _⟩ := OwnG.full encT_len hR.out.2.2.2.1
      have hfin : Hid (L.map Itm.z = negP (l.map Itm.z) ∧ Lv wr A2 cap2 L ∧ Below w.heap.size w wr ∧ ∀ y ∈ L, ∃ x ∈ l, y = ⟨x.p, x.c, x.r, -x.n⟩) := by
        refine ⟨by have := hR.out.2.1; rw [hke] at this; exact this, ⟨⟨hit, fun y hy => ?_⟩, NilC.mk hn1 hcp, by have := hR.out.1; unfold maxLen; omega⟩, hR.out.2.2.2.2, hR.out.2.2.1⟩
        obtain ⟨x, hx, rfl⟩ := hR.out.2.2.1 y hy
        exact (hrH.out.1.below hR.out.2.2.2.2).each x hx
      subst hv2
      clear hke hit hn1 hcp
      go_wp2
      go_ret
      exact ⟨L, A2, cap2, rfl, hfin.out⟩
theorem rminus_any (l : List Itm) (A : Option Addr) (c : Nat) (w : World) (hl : l.length ≤ 400) (hw : ∀ x ∈ l, okW x.n = true) (hr : Items w A l) :
    Calls Tryz.prog 23 #[.slice A l.length c] w fun e w' => ∃ (L : List Itm) (C : Option Addr) (k : Nat), e = .returned (.slice C L.length k) ∧ L.map Itm.z = negP (l.map Itm.z) ∧ Lv w' C k L ∧ Below w.heap.size w w' :=
  (rminusX l A c w hl hw hr).mono fun _ _ ⟨L, C, k, h1, h2, h3, h4, _⟩ => ⟨L, C, k, h1, h2, h3, h4⟩
end Go.Proofs.YtoanlaedkpkpnaaGreatDoor

namespace Go.Proofs.YtoanlaedkpkpnaaGreatDoor
open Go.RowKit Go.Sort

structure StAt (w : World) (X : Nat) (s : Stp) : Prop where
  lt : X < w.heap.size
  c0 : w.cell? ⟨X, 0, none⟩ = some (.int .i64 s.k)
  c3 : w.cell? ⟨X, 3, none⟩ = some (.int .i64 s.c)
  c4 : w.cell? ⟨X, 4, none⟩ = some (.int .i64 s.o)
  c5 : w.cell? ⟨X, 5, none⟩ = some (.int .i64 s.v)
  c6 : w.cell? ⟨X, 6, none⟩ = some (.slice s.p s.l.length s.n)
theorem StAt.below {w w' : World} {X : Nat} {s : Stp} (h : StAt w X s) (k : Below w.heap.size w w') : StAt w' X s :=
  ⟨Nat.lt_of_lt_of_le h.lt k.size, (k.cell (p := ⟨X, 0, none⟩) h.lt).trans h.c0, (k.cell (p := ⟨X, 3, none⟩) h.lt).trans h.c3, (k.cell (p := ⟨X, 4, none⟩) h.lt).trans h.c4, (k.cell (p := ⟨X, 5, none⟩) h.lt).trans h.c5, (k.cell (p := ⟨X, 6, none⟩) h.lt).trans h.c6⟩
theorem StAt.new (w : World) (s : Stp) : StAt (w.alloc (.cells #[.int .i64 s.k, .int .i64 s.a, .int .i64 s.b, .int .i64 s.c, .int .i64 s.o, .int .i64 s.v, .slice s.p s.l.length s.n] 64)) w.heap.size s :=
  ⟨by simp, box1 (w := w) (Gr.refl _) rfl, box1 (w := w) (Gr.refl _) rfl, box1 (w := w) (Gr.refl _) rfl, box1 (w := w) (Gr.refl _) rfl, box1 (w := w) (Gr.refl _) rfl⟩
theorem once_nil : onceL [] = [] := List.eq_nil_of_length_eq_zero (by have := onceL_len []; simpa using this)
theorem onceN (w : World) : Calls Tryz.prog 51 #[.slice none 0 0] w fun e w' => ∃ C cp, e = .returned (.slice C 0 cp) ∧ Below w.heap.size w w' := by
  refine (once_any [] none 0 w (Or.inl rfl) (fun _ => rfl) (by simp)).mono ?_
  rintro e w' ⟨C, cp, rfl, _, h⟩
  exact ⟨C, cp, by rw [once_nil]; rfl, h⟩

set_option maxRecDepth 100000 in
set_option maxHeartbeats 1000000 in
theorem made7 (s : Stp) (a b : List Itm) (A B : Option Addr) (ca cb : Nat) (w : World) (hk : s.k = 7) (hl : a.length ≤ 400) (ha : Items w A a) :
    Calls Tryz.prog 37 #[.agg #[.int .i64 s.k, .int .i64 s.a, .int .i64 s.b, .int .i64 s.c, .int .i64 s.o, .int .i64 s.v, .slice s.p s.l.length s.n], .slice A a.length ca, .slice B b.length cb] w fun e w' => ∃ (L : List Itm) (C : Option Addr) (k : Nat), e = .returned (.slice C L.length k) ∧ L.map Itm.z = distL (a.map Itm.z) ∧ Items w' C L ∧ Below w.heap.size w w' := by
  have hS0 := StAt.new w s
  have hg0 : Gr w (w.alloc (.cells #[.int .i64 s.k, .int .i64 s.a, .int .i64 s.b, .int .i64 s.c, .int .i64 s.o, .int .i64 s.v, .slice s.p s.l.length s.n] 64)) := (Gr.refl w).alloc _
  obtain ⟨w1, hw1⟩ : ∃ w1, w.alloc (.cells #[.int .i64 s.k, .int .i64 s.a, .int .i64 s.b, .int .i64 s.c, .int .i64 s.o, .int .i64 s.v, .slice s.p s.l.length s.n] 64) = w1 := ⟨_, rfl⟩
  rw [hw1] at hS0 hg0
  obtain ⟨X, hX⟩ : ∃ X, w.heap.size = X := ⟨_, rfl⟩
  have hH : Hid (StAt w1 X s ∧ Gr w w1 ∧ Items w1 A a ∧ s.k = 7 ∧ w.heap.size = X) := ⟨hX ▸ hS0, hg0, ha.gr hg0, hk, hX⟩
  clear hS0 hg0 ha hk
  go_enter Tryz.func37, Tryz.ntmps37
  go_wp2
  try rw [hw1]
  try rw [hX]
  clear hw1 hX
  go_loopw [7, 8, 9] (fun u v i wr => ∃ (k : Nat) (L : List Itm), k ≤ a.length ∧ i = .int .i64 k ∧ v = .slice none 0 0 ∧ Hid (L.length ≤ k ∧ L.map Itm.z = distL ((a.take k).map Itm.z) ∧ (∀ y ∈ L, ∃ x ∈ a, y = ⟨x.p, x.c, x.r, 1⟩) ∧ OwnG encT 2 59 wr w1.heap.size u L ∧ Below w1.heap.size w1 wr)) (fun _ _ i _ => a.length - (intOf i).toNat)
  case atStart => exact ⟨0, [], Nat.zero_le _, rfl, rfl, Nat.le_refl _, rfl, fun x hx => (by cases hx), OwnG.nil _ _ _ _ _, Below.refl _ _⟩
  case round =>
    obtain ⟨k, L, hk, rfl, rfl, hR⟩ := hrel
    have hSt : Hid (StAt wr X s) := hH.out.1.below hR.out.2.2.2.2
    by_cases hlt : k < a.length
    · have hltz : (k : Int) < (a.length : Int) := by omega
      have hI : Hid (Items wr A a) := hH.out.2.2.1.below hR.out.2.2.2.2
      obtain ⟨bb, off, rfl, hb, hcs⟩ := hI.out.at hlt
      obtain ⟨x, hx⟩ : ∃ x, a[k] = x := ⟨_, rfl⟩
      obtain ⟨e0, e1⟩ := hcs k hlt
      rw [hx] at e0 e1
      have hst : Hid (distL ((a.take (k + 1)).map Itm.z) = distL ((a.take k).map Itm.z) ++ (if 0 < x.n then [(x.r, 1)] else [])) := by show _ = _; rw [dist_take hlt, hx]
      have hxH : Hid (x ∈ a) := by show _ ∈ _; rw [← hx]; exact List.getElem_mem hlt
      have hgX : Hid (Gr wr (wr.alloc (.cells #[.slice x.p x.r.length x.c, .int .i64 x.n] 59))) := (Gr.refl _).alloc _
      have k0 : (wr.alloc (.cells #[.slice x.p x.r.length x.c, .int .i64 x.n] 59)).cell? ⟨X, 0, none⟩ = some (.int .i64 7) := by rw [hgX.out.cell (p := ⟨X, 0, none⟩) hSt.out.lt, hSt.out.c0, hH.out.2.2.2.1]
      clear hcs hx
      by_cases hn : 0 < x.n
      · have hoX : Hid (OwnG encT 2 59 ((wr.alloc (.cells #[.slice x.p x.r.length x.c, .int .i64 x.n] 59)).alloc (.cells #[.slice x.p x.r.length x.c, .int .i64 1] 59)) w1.heap.size u7 L ∧ RowG encT 2 ((wr.alloc (.cells #[.slice x.p x.r.length x.c, .int .i64 x.n] 59)).alloc (.cells #[.slice x.p x.r.length x.c, .int .i64 1] 59)) (some ⟨wr.heap.size + 1, 0, none⟩) [(⟨x.p, x.c, x.r, 1⟩ : Itm)] ∧ L.length + [(⟨x.p, x.c, x.r, 1⟩ : Itm)].length ≤ maxLen ∧ (L.length + [(⟨x.p, x.c, x.r, 1⟩ : Itm)].length) * 32 ≤ 140737488355328 ∧ Below w1.heap.size w1 ((wr.alloc (.cells #[.slice x.p x.r.length x.c, .int .i64 x.n] 59)).alloc (.cells #[.slice x.p x.r.length x.c, .int .i64 1] 59))) := by
          have hLk := hR.out.1
          exact ⟨hR.out.2.2.2.1.gr (hgX.out.alloc _), rowNewT (by simp) ⟨x.p, x.c, x.r, 1⟩ _, by unfold maxLen; simp; omega, by simp; omega, hR.out.2.2.2.2.trans ((hgX.out.alloc _).below.mono hR.out.2.2.2.2.size)⟩
        go_wp2_with (at_builtin; refine wpList_append_ts _ rfl _ _ rfl w1.heap.size u7 L [(⟨x.p, x.c, x.r, 1⟩ : Itm)] (some ⟨wr.heap.size + 1, 0, none⟩) 1 rfl rfl hoX.out.1 hoX.out.2.1 (fun h => by cases h) hoX.out.2.2.1 hoX.out.2.2.2.1 hoX.out.2.2.2.2.size ?_; intro v3 w3 hown3 hg3)
        have hfin : Hid ((L ++ [(⟨x.p, x.c, x.r, 1⟩ : Itm)]).length ≤ k + 1 ∧ (L ++ [(⟨x.p, x.c, x.r, 1⟩ : Itm)]).map Itm.z = distL ((a.take (k + 1)).map Itm.z) ∧ (∀ y ∈ L ++ [(⟨x.p, x.c, x.r, 1⟩ : Itm)], ∃ x ∈ a, y = ⟨x.p, x.c, x.r, 1⟩) ∧ OwnG encT 2 59 w3 w1.heap.size v3 (L ++ [(⟨x.p, x.c, x.r, 1⟩ : Itm)]) ∧ Below w1.heap.size w1 w3) := by
          refine ⟨by have := hR.out.1; simp; omega, by rw [hst.out, if_pos hn, List.map_append, hR.out.2.1]; rfl, fun y hy => ?_, hown3, hoX.out.2.2.2.2.trans (hoX.out.1.grown_below hg3 hoX.out.2.2.2.2.size)⟩
          rcases List.mem_append.1 hy with h | h
          · exact hR.out.2.2.1 y h
          · exact ⟨x, hxH.out, List.mem_singleton.1 h⟩
        clear hown3 hg3
        go_wp2
        go_roundw
        case rel => exact ⟨k + 1, L ++ [(⟨x.p, x.c, x.r, 1⟩ : Itm)], by omega, by go_num, rfl, hfin⟩
        case measure => simp [intOf]; omega
      · have hfin : Hid (L.length ≤ k + 1 ∧ L.map Itm.z = distL ((a.take (k + 1)).map Itm.z) ∧ (∀ y ∈ L, ∃ x ∈ a, y = ⟨x.p, x.c, x.r, 1⟩) ∧ OwnG encT 2 59 (wr.alloc (.cells #[.slice x.p x.r.length x.c, .int .i64 x.n] 59)) w1.heap.size u7 L ∧ Below w1.heap.size w1 (wr.alloc (.cells #[.slice x.p x.r.length x.c, .int .i64 x.n] 59))) :=
          ⟨by have := hR.out.1; omega, by rw [hst.out, if_neg hn, List.append_nil]; exact hR.out.2.1, hR.out.2.2.1, hR.out.2.2.2.1.gr hgX.out, hR.out.2.2.2.2.trans (hgX.out.below.mono hR.out.2.2.2.2.size)⟩
        go_wp2
        go_roundw
        case rel => exact ⟨k + 1, L, by omega, by go_num, rfl, hfin⟩
        case measure => simp [intOf]; omega
    · have hltz : ¬ (k : Int) < (a.length : Int) := by omega
      have hke : a.take k = a := List.take_of_length_le (by omega)
      have k0 : wr.cell? ⟨X, 0, none⟩ = some (.int .i64 7) := by rw [hSt.out.c0, hH.out.2.2.2.1]
      have hfin : Hid (L.map Itm.z = distL (a.map Itm.z) ∧ ∃ A2 cap2, u7 = .slice A2 L.length cap2 ∧ Items wr A2 L ∧ Below w.heap.size w wr) := by
        obtain ⟨A2, cap2, hv2, _, hit, _, _, _⟩ := OwnG.full encT_len hR.out.2.2.2.1
        refine ⟨by have := hR.out.2.1; rw [hke] at this; exact this, A2, cap2, hv2, ⟨hit, fun y hy => ?_⟩, hH.out.2.1.below.trans (hR.out.2.2.2.2.mono hH.out.2.1.below.size)⟩
        obtain ⟨x, hx, rfl⟩ := hR.out.2.2.1 y hy
        exact (hH.out.2.2.1.below hR.out.2.2.2.2).each x hx
      have ho0 := onceN wr
      have hoH : Hid _ := ho0
      clear hke ho0
      go_wp2_with fail
      refine Calls.mono (show Calls _ _ _ _ _ from hoH.out) ?_
      rintro e w4 ⟨C, cp, rfl, hb4⟩
      clear hoH
      have hfin2 : Hid (L.map Itm.z = distL (a.map Itm.z) ∧ ∃ A2 cap2, u7 = .slice A2 L.length cap2 ∧ Items w4 A2 L ∧ Below w.heap.size w w4) := by
        obtain ⟨h1, A2, cap2, h2, h3, h4⟩ := hfin.out
        exact ⟨h1, A2, cap2, h2, h3.below hb4, h4.trans (hb4.mono h4.size)⟩
      clear hb4
      go_wp2
      obtain ⟨uu, huu⟩ : ∃ uu, u7 = uu := ⟨_, rfl⟩
      rw [huu] at hfin2
      go_loopw [7, 15] (fun u i wq => u = uu ∧ i = .int .i64 0 ∧ wq = w4) (fun _ _ _ => 0)
      case atStart => exact ⟨huu, rfl, rfl⟩
      case round =>
        obtain ⟨rfl, rfl, rfl⟩ := hrel
        obtain ⟨h1, A2, cap2, rfl, h3, h4⟩ := hfin2.out
        have hfin3 : Hid (L.map Itm.z = distL (a.map Itm.z) ∧ _ ∧ _) := ⟨h1, h3, h4⟩
        clear h1 h3 h4
        go_wp2
        go_ret
        exact ⟨L, A2, cap2, rfl, hfin3.out.1, hfin3.out.2.1, hfin3.out.2.2⟩
end Go.Proofs.YtoanlaedkpkpnaaGreatDoor

namespace Go.Proofs.YtoanlaedkpkpnaaGreatDoor
open Go.RowKit Go.Sort

set_option maxRecDepth 100000 in
set_option maxHeartbeats 1000000 in
theorem made21 (s : Stp) (a b : List Itm) (A B : Option Addr) (ca cb : Nat) (w : World) (hk : s.k = 2) (hl : a.length ≤ 400) (ha : Items w A a) (ho : s.o = 1) (hc : ∀ x ∈ a, inB s.c 0 ((x.r.length : Int) - 1) = true) :
    Calls Tryz.prog 37 #[.agg #[.int .i64 s.k, .int .i64 s.a, .int .i64 s.b, .int .i64 s.c, .int .i64 s.o, .int .i64 s.v, .slice s.p s.l.length s.n], .slice A a.length ca, .slice B b.length cb] w fun e w' => ∃ (L : List Itm) (C : Option Addr) (k : Nat), e = .returned (.slice C L.length k) ∧ L.map Itm.z = whereL (a.map Itm.z) s.c 1 s.v ∧ Items w' C L ∧ Below w.heap.size w w' := by
  have hS0 := StAt.new w s
  have hg0 : Gr w (w.alloc (.cells #[.int .i64 s.k, .int .i64 s.a, .int .i64 s.b, .int .i64 s.c, .int .i64 s.o, .int .i64 s.v, .slice s.p s.l.length s.n] 64)) := (Gr.refl w).alloc _
  obtain ⟨w1, hw1⟩ : ∃ w1, w.alloc (.cells #[.int .i64 s.k, .int .i64 s.a, .int .i64 s.b, .int .i64 s.c, .int .i64 s.o, .int .i64 s.v, .slice s.p s.l.length s.n] 64) = w1 := ⟨_, rfl⟩
  rw [hw1] at hS0 hg0
  obtain ⟨X, hX⟩ : ∃ X, w.heap.size = X := ⟨_, rfl⟩
  have hH : Hid (StAt w1 X s ∧ Gr w w1 ∧ Items w1 A a ∧ s.k = 2 ∧ w.heap.size = X ∧ s.o = 1 ∧ ∀ x ∈ a, inB s.c 0 ((x.r.length : Int) - 1) = true) := ⟨hX ▸ hS0, hg0, ha.gr hg0, hk, hX, ho, hc⟩
  clear hS0 hg0 ha hk ho hc
  go_enter Tryz.func37, Tryz.ntmps37
  go_wp2
  try rw [hw1]
  try rw [hX]
  clear hw1 hX
  go_loopw [7, 8, 9] (fun u v i wr => ∃ (k : Nat) (L : List Itm), k ≤ a.length ∧ i = .int .i64 k ∧ v = .slice none 0 0 ∧ Hid (L.length ≤ k ∧ L.map Itm.z = whereL ((a.take k).map Itm.z) s.c 1 s.v ∧ (∀ y ∈ L, y ∈ a) ∧ OwnG encT 2 59 wr w1.heap.size u L ∧ Below w1.heap.size w1 wr)) (fun _ _ i _ => a.length - (intOf i).toNat)
  case atStart => exact ⟨0, [], Nat.zero_le _, rfl, rfl, Nat.le_refl _, rfl, fun x hx => (by cases hx), OwnG.nil _ _ _ _ _, Below.refl _ _⟩
  case round =>
    obtain ⟨k, L, hk, rfl, rfl, hR⟩ := hrel
    have hSt : Hid (StAt wr X s) := hH.out.1.below hR.out.2.2.2.2
    by_cases hlt : k < a.length
    · have hltz : (k : Int) < (a.length : Int) := by omega
      have hI : Hid (Items wr A a) := hH.out.2.2.1.below hR.out.2.2.2.2
      obtain ⟨bb, off, rfl, hb, hcs⟩ := hI.out.at hlt
      obtain ⟨x, hx⟩ : ∃ x, a[k] = x := ⟨_, rfl⟩
      obtain ⟨e0, e1⟩ := hcs k hlt
      rw [hx] at e0 e1
      have hxm : x ∈ a := by rw [← hx]; exact List.getElem_mem hlt
      obtain ⟨rb, ro, cn, hp, hrb, hcn, hcl, hcell⟩ := rowI_atI (hI.out.each x hxm).1 (hH.out.2.2.2.2.2.2 x hxm)
      have hst : Hid (whereL ((a.take (k + 1)).map Itm.z) s.c 1 s.v = whereL ((a.take k).map Itm.z) s.c 1 s.v ++ (if toB (atI x.r s.c) 1 s.v = true then [x.z] else [])) := by show _ = _; rw [where_take hlt, hx]
      have hxH : Hid (x ∈ a) := hxm
      obtain ⟨nn, hnn⟩ : ∃ nn, atI x.r s.c = nn := ⟨_, rfl⟩
      rw [hnn] at hcell hst
      rw [hp] at e0
      have hgX : Hid (Gr wr (wr.alloc (.cells #[.slice (some ⟨rb, ro, none⟩) x.r.length x.c, .int .i64 x.n] 59))) := (Gr.refl _).alloc _
      have y0 : (wr.alloc (.cells #[.slice (some ⟨rb, ro, none⟩) x.r.length x.c, .int .i64 x.n] 59)).cell? ⟨rb, ro + cn, none⟩ = some (.int .i64 nn) := (hgX.out.cell (p := ⟨rb, ro + cn, none⟩) hrb).trans hcell
      have k0 : (wr.alloc (.cells #[.slice (some ⟨rb, ro, none⟩) x.r.length x.c, .int .i64 x.n] 59)).cell? ⟨X, 0, none⟩ = some (.int .i64 2) := by rw [hgX.out.cell (p := ⟨X, 0, none⟩) hSt.out.lt, hSt.out.c0, hH.out.2.2.2.1]
      have k3 : (wr.alloc (.cells #[.slice (some ⟨rb, ro, none⟩) x.r.length x.c, .int .i64 x.n] 59)).cell? ⟨X, 3, none⟩ = some (.int .i64 (cn : Int)) := by rw [hgX.out.cell (p := ⟨X, 3, none⟩) hSt.out.lt, hSt.out.c3, hcn]
      have k4 : (wr.alloc (.cells #[.slice (some ⟨rb, ro, none⟩) x.r.length x.c, .int .i64 x.n] 59)).cell? ⟨X, 4, none⟩ = some (.int .i64 1) := by rw [hgX.out.cell (p := ⟨X, 4, none⟩) hSt.out.lt, hSt.out.c4, hH.out.2.2.2.2.2.1]
      have k5 : (wr.alloc (.cells #[.slice (some ⟨rb, ro, none⟩) x.r.length x.c, .int .i64 x.n] 59)).cell? ⟨X, 5, none⟩ = some (.int .i64 s.v) := by rw [hgX.out.cell (p := ⟨X, 5, none⟩) hSt.out.lt, hSt.out.c5]
      have hcz : (cn : Int) < (x.r.length : Int) := by omega
      have hpH : Hid (x.p = some ⟨rb, ro, none⟩) := hp
      clear hcs hx hxm hnn hp hcell hcl hcn
      obtain ⟨tt, htt⟩ : ∃ tt, toB nn 1 s.v = tt := ⟨_, rfl⟩
      have httH : Hid (toB nn 1 s.v = tt) := htt
      clear htt
      cases tt
      · have hno : ¬ nn < s.v := by simpa [toB] using httH.out
        have hfin : Hid (L.length ≤ k + 1 ∧ L.map Itm.z = whereL ((a.take (k + 1)).map Itm.z) s.c 1 s.v ∧ (∀ y ∈ L, y ∈ a) ∧ OwnG encT 2 59 (wr.alloc (.cells #[.slice (some ⟨rb, ro, none⟩) x.r.length x.c, .int .i64 x.n] 59)) w1.heap.size u7 L ∧ Below w1.heap.size w1 (wr.alloc (.cells #[.slice (some ⟨rb, ro, none⟩) x.r.length x.c, .int .i64 x.n] 59))) :=
          ⟨by have := hR.out.1; omega, by rw [hst.out, httH.out]; simpa using hR.out.2.1, hR.out.2.2.1, hR.out.2.2.2.1.gr hgX.out, hR.out.2.2.2.2.trans (hgX.out.below.mono hR.out.2.2.2.2.size)⟩
        go_wp2
        go_roundw
        case rel => exact ⟨k + 1, L, by omega, by go_num, rfl, hfin⟩
        case measure => simp [intOf]; omega
      · have hyes : nn < s.v := by simpa [toB] using httH.out
        have hoX : Hid (OwnG encT 2 59 ((wr.alloc (.cells #[.slice (some ⟨rb, ro, none⟩) x.r.length x.c, .int .i64 x.n] 59)).alloc (.cells #[.slice (some ⟨rb, ro, none⟩) x.r.length x.c, .int .i64 x.n] 59)) w1.heap.size u7 L ∧ RowG encT 2 ((wr.alloc (.cells #[.slice (some ⟨rb, ro, none⟩) x.r.length x.c, .int .i64 x.n] 59)).alloc (.cells #[.slice (some ⟨rb, ro, none⟩) x.r.length x.c, .int .i64 x.n] 59)) (some ⟨wr.heap.size + 1, 0, none⟩) [x] ∧ L.length + [x].length ≤ maxLen ∧ (L.length + [x].length) * 32 ≤ 140737488355328 ∧ Below w1.heap.size w1 ((wr.alloc (.cells #[.slice (some ⟨rb, ro, none⟩) x.r.length x.c, .int .i64 x.n] 59)).alloc (.cells #[.slice (some ⟨rb, ro, none⟩) x.r.length x.c, .int .i64 x.n] 59))) := by
          have hLk := hR.out.1
          have h1 : [x].length = 1 := rfl
          refine ⟨hR.out.2.2.2.1.gr (hgX.out.alloc _), ?_, by unfold maxLen; omega, by omega, hR.out.2.2.2.2.trans ((hgX.out.alloc _).below.mono hR.out.2.2.2.2.size)⟩
          rw [← hpH.out]
          exact rowNewT (by simp) x _
        go_wp2_with (at_builtin; refine wpList_append_ts _ rfl _ _ rfl w1.heap.size u7 L [x] (some ⟨wr.heap.size + 1, 0, none⟩) 1 rfl rfl hoX.out.1 hoX.out.2.1 (fun h => by cases h) hoX.out.2.2.1 hoX.out.2.2.2.1 hoX.out.2.2.2.2.size ?_; intro v3 w3 hown3 hg3)
        have hfin : Hid ((L ++ [x]).length ≤ k + 1 ∧ (L ++ [x]).map Itm.z = whereL ((a.take (k + 1)).map Itm.z) s.c 1 s.v ∧ (∀ y ∈ L ++ [x], y ∈ a) ∧ OwnG encT 2 59 w3 w1.heap.size v3 (L ++ [x]) ∧ Below w1.heap.size w1 w3) := by
          refine ⟨by have := hR.out.1; simp; omega, by rw [hst.out, httH.out, List.map_append, hR.out.2.1]; rfl, fun y hy => ?_, hown3, hoX.out.2.2.2.2.trans (hoX.out.1.grown_below hg3 hoX.out.2.2.2.2.size)⟩
          rcases List.mem_append.1 hy with h | h
          · exact hR.out.2.2.1 y h
          · rw [List.mem_singleton.1 h]; exact hxH.out
        clear hown3 hg3
        go_wp2
        go_roundw
        case rel => exact ⟨k + 1, L ++ [x], by omega, by go_num, rfl, hfin⟩
        case measure => simp [intOf]; omega
    · have hltz : ¬ (k : Int) < (a.length : Int) := by omega
      have hke : a.take k = a := List.take_of_length_le (by omega)
      have k0 : wr.cell? ⟨X, 0, none⟩ = some (.int .i64 2) := by rw [hSt.out.c0, hH.out.2.2.2.1]
      have hfin : Hid (L.map Itm.z = whereL (a.map Itm.z) s.c 1 s.v ∧ ∃ A2 cap2, u7 = .slice A2 L.length cap2 ∧ Items wr A2 L ∧ Below w.heap.size w wr) := by
        obtain ⟨A2, cap2, hv2, _, hit, _, _, _⟩ := OwnG.full encT_len hR.out.2.2.2.1
        refine ⟨by have := hR.out.2.1; rw [hke] at this; exact this, A2, cap2, hv2, ⟨hit, fun y hy => ?_⟩, hH.out.2.1.below.trans (hR.out.2.2.2.2.mono hH.out.2.1.below.size)⟩
        exact (hH.out.2.2.1.below hR.out.2.2.2.2).each y (hR.out.2.2.1 y hy)
      clear hke
      go_wp2_with fail
      refine Calls.mono (show Calls _ _ _ _ _ from onceN wr) ?_
      rintro e w4 ⟨C4, cp4, rfl, hb4⟩
      have hfin2 : Hid (L.map Itm.z = whereL (a.map Itm.z) s.c 1 s.v ∧ ∃ A2 cap2, u7 = .slice A2 L.length cap2 ∧ Items w4 A2 L ∧ Below w.heap.size w w4) := by
        obtain ⟨h1, A2, cap2, h2, h3, h4⟩ := hfin.out
        exact ⟨h1, A2, cap2, h2, h3.below hb4, h4.trans (hb4.mono h4.size)⟩
      clear hb4
      go_wp2
      obtain ⟨uu, huu⟩ : ∃ uu, u7 = uu := ⟨_, rfl⟩
      rw [huu] at hfin2
      go_loopw [7, 15] (fun u i wq => u = uu ∧ i = .int .i64 0 ∧ wq = w4) (fun _ _ _ => 0)
      case atStart => exact ⟨huu, rfl, rfl⟩
      case round =>
        obtain ⟨rfl, rfl, rfl⟩ := hrel
        obtain ⟨h1, A2, cap2, rfl, h3, h4⟩ := hfin2.out
        have hfin3 : Hid (L.map Itm.z = whereL (a.map Itm.z) s.c 1 s.v ∧ _ ∧ _) := ⟨h1, h3, h4⟩
        clear h1 h3 h4
        go_wp2
        go_ret
        exact ⟨L, A2, cap2, rfl, hfin3.out.1, hfin3.out.2.1, hfin3.out.2.2⟩
end Go.Proofs.YtoanlaedkpkpnaaGreatDoor
