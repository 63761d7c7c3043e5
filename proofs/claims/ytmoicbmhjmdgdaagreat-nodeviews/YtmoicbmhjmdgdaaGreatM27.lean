/-
  plain.pick.
  plain.distinct.
  The pairs of a join, in the order in which they are told; plain.rowOfBoth.
-/
import Derived.Test.YtmoicbmhjmdgdaaGreatM24
import Derived.Test.YtmoicbmhjmdgdaaGreatM26
namespace Go.Proofs.YtmoicbmhjmdgdaaGreat
open Go.RowKit Go.Sort

theorem pick_take {l : List Itm} {k : Nat} (h : k < l.length) (cols : List Int) : pickL ((l.take (k + 1)).map Itm.z) cols = pickL ((l.take k).map Itm.z) cols ++ [(pickR cols l[k].r, l[k].n)] := by
 rw [List.take_succ_eq_append_getElem h, List.map_append]
 unfold pickL
 rw [List.map_append]
 rfl
theorem pickR_take {cols : List Int} {m : Nat} (h : m < cols.length) (r : List Int) : pickR (cols.take (m + 1)) r = pickR (cols.take m) r ++ [atI r cols[m]] := by
 unfold pickR
 rw [List.take_succ_eq_append_getElem h, List.map_append]
 rfl

set_option maxRecDepth 100000 in
set_option maxHeartbeats 1000000 in
theorem pick_any (l : List Itm) (A B : Option Addr) (cap cb : Nat) (cols : List Int) (w : World) (hl : l.length ≤ 400) (hcl : cols.length ≤ 8) (hr : Items w A l) (hrc : RowI w B cols) (hc : ∀ x ∈ l, ∀ c ∈ cols, inB c 0 ((x.r.length : Int) - 1) = true) :
  Calls Tryz.prog 95 #[.slice A l.length cap, .slice B cols.length cb] w fun e w' => ∃ (L : List Itm) (C : Option Addr) (k : Nat), e = .returned (.slice C L.length k) ∧ L.map Itm.z = pickL (l.map Itm.z) cols ∧ Lv w' C k L ∧ L.length ≤ 400 ∧ Below w.heap.size w w' := by
 have hrH : Hid (Items w A l ∧ RowI w B cols) := ⟨hr, hrc⟩
 have hcH : Hid (∀ x ∈ l, ∀ c ∈ cols, inB c 0 ((x.r.length : Int) - 1) = true) := hc
 clear hr hc hrc
 go_enter Tryz.func95, Tryz.ntmps95
 go_wp2
 go_loopw [5, 13] (fun u i wr => ∃ (k : Nat) (L : List Itm), k ≤ l.length ∧ i = .int .i64 k ∧ Hid (L.length = k ∧ L.map Itm.z = pickL ((l.take k).map Itm.z) cols ∧ OwnT wr w.heap.size u L ∧ Below w.heap.size w wr)) (fun _ i _ => l.length - (intOf i).toNat)
 case atStart => exact ⟨0, [], Nat.zero_le _, rfl, rfl, rfl, OwnT.nil _ _, Below.refl _ _⟩
 case round =>
  obtain ⟨k, L, hk, rfl, hR⟩ := hrel
  by_cases hlt : k < l.length
  ·have hltz : (k : Int) < (l.length : Int) := by omega
   have hI : Hid (Items wr A l ∧ RowI wr B cols) := ⟨hrH.out.1.below hR.out.2.2.2, hrH.out.2.below hR.out.2.2.2⟩
   obtain ⟨bb, off, rfl, hb, hcs⟩ := hI.out.1.at hlt
   obtain ⟨x, hx⟩ : ∃ x, l[k] = x := ⟨_, rfl⟩
   obtain ⟨e0, e1⟩ := hcs k hlt
   rw [hx] at e0 e1
   have hxm : Hid (x ∈ l) := by show _ ∈ _; rw [← hx]; exact List.getElem_mem hlt
   have hst : Hid (pickL ((l.take (k + 1)).map Itm.z) cols = pickL ((l.take k).map Itm.z) cols ++ [(pickR cols x.r, x.n)]) := by show _ = _; rw [pick_take hlt, hx]
   have hgX : Hid (Gr wr (wr.alloc (.cells #[.slice x.p x.r.length x.c, .int .i64 x.n] 40))) := (Gr.refl _).alloc _
   obtain ⟨wX, hwX⟩ : ∃ wX, (wr.alloc (.cells #[.slice x.p x.r.length x.c, .int .i64 x.n] 40)) = wX := ⟨_, rfl⟩
   have y0 : wX.cell? ⟨wr.heap.size, 0, none⟩ = some (.slice x.p x.r.length x.c) := by rw [← hwX]; exact box1 (Gr.refl _) rfl
   have y1 : wX.cell? ⟨wr.heap.size, 1, none⟩ = some (.int .i64 x.n) := by rw [← hwX]; exact box1 (Gr.refl _) rfl
   have hsX : wr.heap.size < wX.heap.size := by rw [← hwX]; simp
   rw [hwX] at hgX
   clear hcs hx
   go_wp2
   clear hwX
   obtain ⟨xb, hxb⟩ : ∃ xb, wr.heap.size = xb := ⟨_, rfl⟩
   have hRx : Hid (RowI wX x.p x.r ∧ RowI wX B cols ∧ xb = wr.heap.size) := ⟨(hI.out.1.each x hxm.out).1.gr hgX.out, hI.out.2.gr hgX.out, hxb.symm⟩
   rw [hxb] at y0 y1 hsX ⊢
   clear hxb e0 e1 hb
   have hO : Hid (OwnT wX w.heap.size u5 L ∧ Below w.heap.size w wX ∧ L.length = k ∧ L.map Itm.z = pickL ((l.take k).map Itm.z) cols) := ⟨hR.out.2.2.1.gr hgX.out, hR.out.2.2.2.trans (hgX.out.below.mono hR.out.2.2.2.size), hR.out.1, hR.out.2.1⟩
   have hcx : Hid (∀ c ∈ cols, inB c 0 ((x.r.length : Int) - 1) = true) := hcH.out x hxm.out
   clear hR hgX hI
   go_loopw [8, 19] (fun u i wi => ∃ m : Nat, m ≤ cols.length ∧ i = .int .i64 m ∧ Hid (OwnI wi wX.heap.size u (pickR (cols.take m) x.r) ∧ Below wX.heap.size wX wi)) (fun _ i _ => cols.length - (intOf i).toNat)
   case atStart => exact ⟨0, Nat.zero_le _, rfl, OwnG.nil _ _ _ _ _, Below.refl _ _⟩
   case round =>
    obtain ⟨m, hm, rfl, hS⟩ := hrel
    have z0 : wr.cell? ⟨xb, 0, none⟩ = some (.slice x.p x.r.length x.c) := (hS.out.2.cell (p := ⟨xb, 0, none⟩) hsX).trans y0
    have z1 : wr.cell? ⟨xb, 1, none⟩ = some (.int .i64 x.n) := (hS.out.2.cell (p := ⟨xb, 1, none⟩) hsX).trans y1
    have hlenP : (pickR (cols.take m) x.r).length ≤ 8 := by unfold pickR; simp; omega
    by_cases hlt2 : m < cols.length
    ·have hltz2 : (m : Int) < (cols.length : Int) := by omega
     have hRw : Hid (RowI wr x.p x.r ∧ RowI wr B cols) := ⟨hRx.out.1.below hS.out.2, hRx.out.2.1.below hS.out.2⟩
     obtain ⟨b2, off2, rfl, hb2, hc2⟩ := hRw.out.2.at hlt2
     obtain ⟨c, hcc⟩ : ∃ c, cols[m] = c := ⟨_, rfl⟩
     have e2 : wr.cell? ⟨b2, off2 + m, none⟩ = some (.int .i64 c) := by
      have := hc2 m hlt2 0 (by omega)
      rw [hcc] at this
      simpa [encI] using this
     have hst2 : Hid (pickR (cols.take (m + 1)) x.r = pickR (cols.take m) x.r ++ [atI x.r c]) := by show _ = _; rw [pickR_take hlt2, hcc]
     obtain ⟨rb, ro, cn, hp, hrb, hcn, hcl2, hcell⟩ := rowI_atI hRw.out.1 (hcx.out c (by rw [← hcc]; exact List.getElem_mem hlt2))
     obtain ⟨nn, hnn⟩ : ∃ nn, atI x.r c = nn := ⟨_, rfl⟩
     rw [hnn] at hcell hst2
     rw [hp] at z0
     have hcz : (cn : Int) < (x.r.length : Int) := by omega
     obtain rfl := hcn
     clear hc2 hcc hp hnn hcl2
     have hoX : Hid (OwnI (wr.alloc (.cells #[.int .i64 nn] 3)) wX.heap.size u8 (pickR (cols.take m) x.r) ∧ RowI (wr.alloc (.cells #[.int .i64 nn] 3)) (some ⟨wr.heap.size, 0, none⟩) [nn] ∧ (pickR (cols.take m) x.r).length + [nn].length ≤ maxLen ∧ ((pickR (cols.take m) x.r).length + [nn].length) * 8 ≤ 140737488355328 ∧ Below wX.heap.size wX (wr.alloc (.cells #[.int .i64 nn] 3))) :=
      ⟨hS.out.1.gr ((Gr.refl _).alloc _), rowNewI rfl nn _, by unfold maxLen; simp; omega, by simp; omega, hS.out.2.alloc hS.out.2.size _⟩
     go_wp2_with (at_builtin; refine wpList_append_i _ rfl (.tmp 23) (.tmp 29) rfl wX.heap.size u8 (pickR (cols.take m) x.r) [nn] (some ⟨wr.heap.size, 0, none⟩) 1 rfl rfl hoX.out.1 hoX.out.2.1 (fun h => by cases h) hoX.out.2.2.1 hoX.out.2.2.2.1 hoX.out.2.2.2.2.size ?_; intro v3 w3 hown3 hg3)
     have hfin : Hid (OwnI w3 wX.heap.size v3 (pickR (cols.take (m + 1)) x.r) ∧ Below wX.heap.size wX w3) := ⟨by rw [hst2.out]; exact hown3, hoX.out.2.2.2.2.trans (hoX.out.1.grown_below hg3 hoX.out.2.2.2.2.size)⟩
     clear hown3 hg3
     go_roundw
     case rel => exact ⟨m + 1, by omega, by go_num, hfin.out⟩
     case measure => simp [intOf]; omega
    ·have hltz2 : ¬ (m : Int) < (cols.length : Int) := by omega
     have hke : cols.take m = cols := List.take_of_length_le (by omega)
     rw [hke] at hS hlenP
     obtain ⟨C, cc, hv2, hn2, hit, hpl⟩ := hS.out.1.row encI_len
     obtain ⟨PR, hPR⟩ : ∃ PR, pickR cols x.r = PR := ⟨_, rfl⟩
     rw [hPR] at hst hS hv2 hit hlenP
     subst hv2
     have hbW : Hid (Below w.heap.size w wr ∧ w.heap.size ≤ wX.heap.size) := ⟨hO.out.2.1.trans (hS.out.2.mono hO.out.2.1.size), hO.out.2.1.size⟩
     have hoX : Hid (OwnT (wr.alloc (.cells #[.slice C PR.length cc, .int .i64 x.n] 40)) w.heap.size u5 L ∧ RowG encT 2 (wr.alloc (.cells #[.slice C PR.length cc, .int .i64 x.n] 40)) (some ⟨wr.heap.size, 0, none⟩) [⟨C, cc, PR, x.n⟩] ∧ Apart (wr.alloc (.cells #[.slice C PR.length cc, .int .i64 x.n] 40)) w.heap.size u5.ownBlock ⟨C, cc, PR, x.n⟩ ∧ L.length + 1 ≤ maxLen ∧ (L.length + 1) * 32 ≤ 140737488355328 ∧ Below w.heap.size w (wr.alloc (.cells #[.slice C PR.length cc, .int .i64 x.n] 40))) := by
      have hLk := hO.out.2.2.1
      refine ⟨(hO.out.1.below hS.out.2).gr ((Gr.refl _).alloc _), rowNewT rfl ⟨C, cc, PR, x.n⟩ _, ⟨hit.gr ((Gr.refl _).alloc _), Nat.le_trans hlenP (by decide), hn2, fun a ha => ⟨?_, ?_, ?_⟩⟩, by unfold maxLen; omega, by omega, hbW.out.1.alloc hbW.out.1.size _⟩
      ·have h1 := (hpl a ha).1
       have h2 := hbW.out.2
       omega
      ·have h1 := (hpl a ha).2
       simp; omega
      ·intro e
       have h1 := (World.ownsRow.lt hO.out.1.own a.block e).2
       have h2 := (hpl a ha).1
       omega
     clear hke hit hn2 hpl hPR
     go_wp2_with (at_builtin; refine wpList_append_t _ rfl _ _ rfl w.heap.size u5 L ⟨C, cc, PR, x.n⟩ ⟨wr.heap.size, 0, none⟩ 1 rfl rfl hoX.out.1 hoX.out.2.1 hoX.out.2.2.1 hoX.out.2.2.2.1 hoX.out.2.2.2.2.1 hoX.out.2.2.2.2.2.size ?_; intro v3 w3 hown3 hg3)
     have hfin : Hid ((L ++ [(⟨C, cc, PR, x.n⟩ : Itm)]).length = k + 1 ∧ (L ++ [(⟨C, cc, PR, x.n⟩ : Itm)]).map Itm.z = pickL ((l.take (k + 1)).map Itm.z) cols ∧ OwnT w3 w.heap.size v3 (L ++ [⟨C, cc, PR, x.n⟩]) ∧ Below w.heap.size w w3) :=
      ⟨by have := hO.out.2.2.1; simp; omega, by rw [hst.out, List.map_append, hO.out.2.2.2]; rfl, hown3, hoX.out.2.2.2.2.2.trans hg3⟩
     clear hown3 hg3
     go_roundw
     case rel => exact ⟨k + 1, L ++ [(⟨C, cc, PR, x.n⟩ : Itm)], by omega, by go_num, hfin⟩
     case measure => simp [intOf]; omega
  ·have hltz : ¬ (k : Int) < (l.length : Int) := by omega
   have hke : l.take k = l := List.take_of_length_le (by omega)
   obtain ⟨A2, cap2, hv2, hn2, hit, _⟩ := hR.out.2.2.1.items
   have hlL : L.length ≤ 400 := by have := hR.out.1; omega
   have hfin : Hid (L.map Itm.z = pickL (l.map Itm.z) cols ∧ Lv wr A2 cap2 L ∧ Below w.heap.size w wr) := ⟨by have := hR.out.2.1; rw [hke] at this; exact this, ⟨hit, hn2, by unfold maxLen; omega⟩, hR.out.2.2.2⟩
   subst hv2
   clear hke hit hn2
   go_wp2
   go_ret
   exact ⟨L, A2, cap2, rfl, hfin.out.1, hfin.out.2.1, hlL, hfin.out.2.2⟩
end Go.Proofs.YtmoicbmhjmdgdaaGreat

namespace Go.Proofs.YtmoicbmhjmdgdaaGreat
open Go.RowKit Go.Sort

theorem dist_take {l : List Itm} {k : Nat} (h : k < l.length) : distL ((l.take (k + 1)).map Itm.z) = distL ((l.take k).map Itm.z) ++ (if 0 < l[k].n then [(l[k].r, 1)] else []) := by
 rw [List.take_succ_eq_append_getElem h, List.map_append]
 unfold distL
 rw [List.filter_append, List.map_append]
 congr 1
 by_cases e : 0 < l[k].n
 ·rw [if_pos e]; simp [Itm.z, e]
 ·rw [if_neg e]; simp [Itm.z, e]

set_option maxRecDepth 100000 in
set_option maxHeartbeats 1000000 in
theorem dist_any (l : List Itm) (A : Option Addr) (cap : Nat) (w : World) (hl : l.length ≤ 400) (hr : Items w A l) :
  Calls Tryz.prog 96 #[.slice A l.length cap] w fun e w' => ∃ (L : List Itm) (C : Option Addr) (k : Nat), e = .returned (.slice C L.length k) ∧ L.map Itm.z = distL (l.map Itm.z) ∧ Lv w' C k L ∧ L.length ≤ 400 ∧ Below w.heap.size w w' := by
 have hrH : Hid (Items w A l) := hr
 clear hr
 go_enter Tryz.func96, Tryz.ntmps96
 go_wp2
 go_loopw [3, 8] (fun u i wr => ∃ (k : Nat) (L : List Itm), k ≤ l.length ∧ i = .int .i64 k ∧ Hid (L.length ≤ k ∧ L.map Itm.z = distL ((l.take k).map Itm.z) ∧ (∀ y ∈ L, ∃ x ∈ l, y = ⟨x.p, x.c, x.r, 1⟩) ∧ OwnG encT 2 40 wr w.heap.size u L ∧ Below w.heap.size w wr)) (fun _ i _ => l.length - (intOf i).toNat)
 case atStart => exact ⟨0, [], Nat.zero_le _, rfl, Nat.le_refl _, rfl, fun x hx => (by cases hx), OwnG.nil _ _ _ _ _, Below.refl _ _⟩
 case round =>
  obtain ⟨k, L, hk, rfl, hR⟩ := hrel
  by_cases hlt : k < l.length
  ·have hltz : (k : Int) < (l.length : Int) := by omega
   have hI : Hid (Items wr A l) := hrH.out.below hR.out.2.2.2.2
   obtain ⟨bb, off, rfl, hb, hcs⟩ := hI.out.at hlt
   obtain ⟨x, hx⟩ : ∃ x, l[k] = x := ⟨_, rfl⟩
   obtain ⟨e0, e1⟩ := hcs k hlt
   rw [hx] at e0 e1
   have hst : Hid (distL ((l.take (k + 1)).map Itm.z) = distL ((l.take k).map Itm.z) ++ (if 0 < x.n then [(x.r, 1)] else [])) := by show _ = _; rw [dist_take hlt, hx]
   have hxH : Hid (x ∈ l) := by show _ ∈ _; rw [← hx]; exact List.getElem_mem hlt
   have hgX : Hid (Gr wr (wr.alloc (.cells #[.slice x.p x.r.length x.c, .int .i64 x.n] 40))) := (Gr.refl _).alloc _
   clear hcs hx
   by_cases hn : 0 < x.n
   ·have hoX : Hid (OwnG encT 2 40 ((wr.alloc (.cells #[.slice x.p x.r.length x.c, .int .i64 x.n] 40)).alloc (.cells #[.slice x.p x.r.length x.c, .int .i64 1] 40)) w.heap.size u3 L ∧ RowG encT 2 ((wr.alloc (.cells #[.slice x.p x.r.length x.c, .int .i64 x.n] 40)).alloc (.cells #[.slice x.p x.r.length x.c, .int .i64 1] 40)) (some ⟨wr.heap.size + 1, 0, none⟩) [(⟨x.p, x.c, x.r, 1⟩ : Itm)] ∧ L.length + [(⟨x.p, x.c, x.r, 1⟩ : Itm)].length ≤ maxLen ∧ (L.length + [(⟨x.p, x.c, x.r, 1⟩ : Itm)].length) * 32 ≤ 140737488355328 ∧ Below w.heap.size w ((wr.alloc (.cells #[.slice x.p x.r.length x.c, .int .i64 x.n] 40)).alloc (.cells #[.slice x.p x.r.length x.c, .int .i64 1] 40))) := by
     have hLk := hR.out.1
     exact ⟨hR.out.2.2.2.1.gr (hgX.out.alloc _), rowNewT (by simp) ⟨x.p, x.c, x.r, 1⟩ _, by unfold maxLen; simp; omega, by simp; omega, hR.out.2.2.2.2.trans ((hgX.out.alloc _).below.mono hR.out.2.2.2.2.size)⟩
    go_wp2_with (at_builtin; refine wpList_append_ts _ rfl _ _ rfl w.heap.size u3 L [(⟨x.p, x.c, x.r, 1⟩ : Itm)] (some ⟨wr.heap.size + 1, 0, none⟩) 1 rfl rfl hoX.out.1 hoX.out.2.1 (fun h => by cases h) hoX.out.2.2.1 hoX.out.2.2.2.1 hoX.out.2.2.2.2.size ?_; intro v3 w3 hown3 hg3)
    have hfin : Hid ((L ++ [(⟨x.p, x.c, x.r, 1⟩ : Itm)]).length ≤ k + 1 ∧ (L ++ [(⟨x.p, x.c, x.r, 1⟩ : Itm)]).map Itm.z = distL ((l.take (k + 1)).map Itm.z) ∧ (∀ y ∈ L ++ [(⟨x.p, x.c, x.r, 1⟩ : Itm)], ∃ x ∈ l, y = ⟨x.p, x.c, x.r, 1⟩) ∧ OwnG encT 2 40 w3 w.heap.size v3 (L ++ [(⟨x.p, x.c, x.r, 1⟩ : Itm)]) ∧ Below w.heap.size w w3) := by
     refine ⟨by have := hR.out.1; simp; omega, by rw [hst.out, if_pos hn, List.map_append, hR.out.2.1]; rfl, fun y hy => ?_, hown3, hoX.out.2.2.2.2.trans (hoX.out.1.grown_below hg3 hoX.out.2.2.2.2.size)⟩
     rcases List.mem_append.1 hy with h | h
     ·exact hR.out.2.2.1 y h
     ·exact ⟨x, hxH.out, List.mem_singleton.1 h⟩
    clear hown3 hg3
    go_roundw
    case rel => exact ⟨k + 1, L ++ [(⟨x.p, x.c, x.r, 1⟩ : Itm)], by omega, by go_num, hfin⟩
    case measure => simp [intOf]; omega
   ·have hfin : Hid (L.length ≤ k + 1 ∧ L.map Itm.z = distL ((l.take (k + 1)).map Itm.z) ∧ (∀ y ∈ L, ∃ x ∈ l, y = ⟨x.p, x.c, x.r, 1⟩) ∧ OwnG encT 2 40 (wr.alloc (.cells #[.slice x.p x.r.length x.c, .int .i64 x.n] 40)) w.heap.size u3 L ∧ Below w.heap.size w (wr.alloc (.cells #[.slice x.p x.r.length x.c, .int .i64 x.n] 40))) :=
     ⟨by have := hR.out.1; omega, by rw [hst.out, if_neg hn, List.append_nil]; exact hR.out.2.1, hR.out.2.2.1, hR.out.2.2.2.1.gr hgX.out, hR.out.2.2.2.2.trans (hgX.out.below.mono hR.out.2.2.2.2.size)⟩
    go_wp2
    go_roundw
    case rel => exact ⟨k + 1, L, by omega, by go_num, hfin⟩
    case measure => simp [intOf]; omega
  ·have hltz : ¬ (k : Int) < (l.length : Int) := by omega
   have hke : l.take k = l := List.take_of_length_le (by omega)
   obtain ⟨A2, cap2, hv2, hn1, hit, hcp, _, _⟩ := OwnG.full encT_len hR.out.2.2.2.1
   have hn2 : NilC A2 L.length cap2 := NilC.mk hn1 hcp
   clear hn1 hcp
   have hlL : L.length ≤ 400 := by have := hR.out.1; omega
   have hfin : Hid (L.map Itm.z = distL (l.map Itm.z) ∧ Lv wr A2 cap2 L ∧ Below w.heap.size w wr) := by
    refine ⟨by have := hR.out.2.1; rw [hke] at this; exact this, ⟨⟨hit, fun y hy => ?_⟩, hn2, by unfold maxLen; omega⟩, hR.out.2.2.2.2⟩
    obtain ⟨x, hx, rfl⟩ := hR.out.2.2.1 y hy
    exact (hrH.out.below hR.out.2.2.2.2).each x hx
   subst hv2
   clear hke hit hn2
   go_wp2
   go_ret
   exact ⟨L, A2, cap2, rfl, hfin.out.1, hfin.out.2.1, hlL, hfin.out.2.2⟩
end Go.Proofs.YtmoicbmhjmdgdaaGreat

namespace Go.Proofs.YtmoicbmhjmdgdaaGreat
open Go.RowKit Go.Sort Go.Maps

/-- Groups are what their numbers pick, in order. -/
structure GInvL (c : Int) (G : List (Int × List Zit)) (l : List Zit) : Prop where
 uniq : G.Pairwise fun a b => a.1 ≠ b.1
 pick : ∀ g ∈ G, g.2 = l.filter fun y => decide (atI y.1 c = g.1)
 all : ∀ y ∈ l, ∃ g ∈ G, g.1 = atI y.1 c
theorem putG_keys : ∀ (G : List (Int × List Zit)) (n : Int) (x : Zit), (putG G n x).map (·.1) = if n ∈ G.map (·.1) then G.map (·.1) else G.map (·.1) ++ [n]
 | [], n, x => by simp [putG]
 | g :: t, n, x => by
  have ih := putG_keys t n x
  by_cases e : g.1 = n
  ·simp [putG, e]
  ·have e' : ¬ n = g.1 := fun h => e h.symm
   simp only [putG, if_neg e, List.map_cons, ih, List.mem_cons, e', false_or]
   split <;> simp
theorem putG_pick : ∀ (G : List (Int × List Zit)) (n : Int) (x : Zit), G.Pairwise (fun a b => a.1 ≠ b.1) → ∀ g ∈ putG G n x, (g.1 ≠ n ∧ g ∈ G) ∨ (g.1 = n ∧ ((∃ h ∈ G, h.1 = n ∧ g.2 = h.2 ++ [x]) ∨ ((∀ h ∈ G, h.1 ≠ n) ∧ g.2 = [x])))
 | [], n, x, _, g, hg => by
  simp only [putG, List.mem_singleton] at hg
  subst hg
  exact Or.inr ⟨rfl, Or.inr ⟨fun h hh => (by cases hh), rfl⟩⟩
 | h :: t, n, x, hp, g, hg => by
  have hp' := List.pairwise_cons.1 hp
  by_cases e : h.1 = n
  ·simp only [putG, if_pos e] at hg
   rcases List.mem_cons.1 hg with k | k
   ·subst k; exact Or.inr ⟨e, Or.inl ⟨h, List.mem_cons_self .., e, rfl⟩⟩
   ·refine Or.inl ⟨fun k2 => hp'.1 g k (by rw [e, k2]), List.mem_cons_of_mem _ k⟩
  ·simp only [putG, if_neg e] at hg
   rcases List.mem_cons.1 hg with k | k
   ·subst k; exact Or.inl ⟨e, List.mem_cons_self ..⟩
   ·rcases putG_pick t n x hp'.2 g k with ⟨a1, a2⟩ | ⟨a1, ⟨h2, b1, b2, b3⟩ | ⟨b1, b2⟩⟩
    ·exact Or.inl ⟨a1, List.mem_cons_of_mem _ a2⟩
    ·exact Or.inr ⟨a1, Or.inl ⟨h2, List.mem_cons_of_mem _ b1, b2, b3⟩⟩
    ·refine Or.inr ⟨a1, Or.inr ⟨fun h3 h4 => ?_, b2⟩⟩
     rcases List.mem_cons.1 h4 with k3 | k3
     ·rw [k3]; exact e
     ·exact b1 h3 k3
theorem GInvL.step {c : Int} {G : List (Int × List Zit)} {l : List Zit} (h : GInvL c G l) (x : Zit) : GInvL c (putG G (atI x.1 c) x) (l ++ [x]) := by
 have hk := putG_keys G (atI x.1 c) x
 refine ⟨?_, fun g hg => ?_, fun y hy => ?_⟩
 ·have : ((putG G (atI x.1 c) x).map (·.1)).Pairwise (· ≠ ·) := by
   rw [hk]
   split
   ·exact List.pairwise_map.2 h.uniq
   ·rename_i hn
    exact List.pairwise_append.2 ⟨List.pairwise_map.2 h.uniq, List.pairwise_singleton _ _, fun a ha b hb e => by rw [List.mem_singleton.1 hb] at e; exact hn (e ▸ ha)⟩
  exact List.pairwise_map.1 this
 ·rw [List.filter_append]
  rcases putG_pick G _ x h.uniq g hg with ⟨a1, a2⟩ | ⟨a1, ⟨h2, b1, b2, b3⟩ | ⟨b1, b2⟩⟩
  ·have : decide (atI x.1 c = g.1) = false := by simpa using fun k => a1 k.symm
   simp [this, h.pick g a2]
  ·rw [b3, h.pick h2 b1, b2, a1]
   simp
  ·have hn : l.filter (fun y => decide (atI y.1 c = g.1)) = [] := by
    rw [List.filter_eq_nil_iff]
    intro y hy e
    obtain ⟨g2, hg2, e2⟩ := h.all y hy
    exact b1 g2 hg2 (by rw [e2, ← a1]; simpa using e)
   rw [hn, b2, a1]
   simp
 ·have hmem : ∀ n, n ∈ (putG G (atI x.1 c) x).map (·.1) ↔ n ∈ G.map (·.1) ∨ n = atI x.1 c := fun n => by
   rw [hk]
   split
   ·rename_i hin
    exact ⟨Or.inl, fun k => k.elim id (fun e => e ▸ hin)⟩
   ·simp
  have : atI y.1 c ∈ (putG G (atI x.1 c) x).map (·.1) := by
   rw [hmem]
   rcases List.mem_append.1 hy with e | e
   ·obtain ⟨g, hg, e2⟩ := h.all y e
    exact Or.inl (List.mem_map.2 ⟨g, hg, e2⟩)
   ·rw [List.mem_singleton.1 e]; exact Or.inr rfl
  obtain ⟨g, hg, e⟩ := List.mem_map.1 this
  exact ⟨g, hg, e⟩
theorem ginvL_fold {c : Int} : ∀ (m : List Zit) {G : List (Int × List Zit)} {l : List Zit}, GInvL c G l → GInvL c (m.foldl (fun g x => putG g (atI x.1 c) x) G) (l ++ m)
 | [], _, _, h => by simpa using h
 | x :: m, _, l, h => by
  have := ginvL_fold m (h.step x)
  simpa using this
theorem grpL_inv (l : List Zit) (c : Int) : GInvL c (grpL l c) l := by
 have := ginvL_fold (c := c) l (G := []) (l := []) ⟨List.Pairwise.nil, fun g hg => (by cases hg), fun y hy => (by cases hy)⟩
 rw [List.nil_append] at this
 exact this
def prs (x : Zit) (l : List Zit) : List Zit := l.map fun y => (x.1 ++ y.1, x.2 * y.2)
theorem pair_take {a : List Itm} {k : Nat} (h : k < a.length) (b : List Zit) (c v : Int) : pairL ((a.take (k + 1)).map Itm.z) b c v = pairL ((a.take k).map Itm.z) b c v ++ prs a[k].z (b.filter fun y => decide (atI y.1 v = atI a[k].r c)) := by
 rw [List.take_succ_eq_append_getElem h, List.map_append]
 unfold pairL prs
 rw [List.flatMap_append]
 simp [Itm.z]
theorem prs_take {x : Zit} {l : List Itm} {m : Nat} (h : m < l.length) : prs x ((l.take (m + 1)).map Itm.z) = prs x ((l.take m).map Itm.z) ++ [(x.1 ++ l[m].r, x.2 * l[m].n)] := by
 rw [List.take_succ_eq_append_getElem h, List.map_append]
 unfold prs
 rw [List.map_append]
 rfl
theorem pair_sub {a : List Itm} {k : Nat} (b : List Zit) (c v : Int) {p : Zit} (h : p ∈ pairL ((a.take k).map Itm.z) b c v) : p ∈ pairL (a.map Itm.z) b c v := by
 unfold pairL at h ⊢
 obtain ⟨x, hx, hp⟩ := List.mem_flatMap.1 h
 obtain ⟨y, hy, e⟩ := List.mem_map.1 hx
 exact List.mem_flatMap.2 ⟨x, List.mem_map.2 ⟨y, List.mem_of_mem_take hy, e⟩, hp⟩

set_option maxHeartbeats 1000000 in
theorem both_any (l m : List Int) (A B : Option Addr) (ca cb : Nat) (w : World) (hl : l.length ≤ 8) (hm : m.length ≤ 8) (hA : A = none → ca = 0) (hB : B = none → cb = 0) (hr : RowI w A l) (hs : RowI w B m) :
  Calls Tryz.prog 93 #[.slice A l.length ca, .slice B m.length cb] w fun e w' => ∃ C c, e = .returned (.slice C (l ++ m).length c) ∧ RowI w' C (l ++ m) ∧ (C = none → c = 0) ∧ (∀ a, C = some a → w.heap.size ≤ a.block ∧ a.block < w'.heap.size) ∧ Below w.heap.size w w' := by
 have hlm : Hid (0 + l.length ≤ maxLen ∧ (0 + l.length) * 8 ≤ 140737488355328 ∧ ([] ++ l).length + m.length ≤ maxLen ∧ (([] ++ l).length + m.length) * 8 ≤ 140737488355328) := by show _ ∧ _; unfold maxLen; simp; omega
 have hrH : Hid (RowI w A l ∧ (A = none → ca = 0) ∧ RowI w B m ∧ (B = none → cb = 0)) := ⟨hr, hA, hs, hB⟩
 clear hr hA hs hB
 go_enter Tryz.func93, Tryz.ntmps93
 go_wp2_with (first | (at_builtin; refine wpList_append_i _ rfl _ _ rfl w.heap.size (.slice none 0 0) [] l A ca rfl rfl (OwnG.nil _ _ _ _ _) hrH.out.1 hrH.out.2.1 hlm.out.1 hlm.out.2.1 (Nat.le_refl _) ?_; intro v1 w1 hown1 hgr1) | (at_builtin; refine wpList_append_i _ rfl _ _ rfl w.heap.size v1 ([] ++ l) m B cb rfl rfl hown1 (hrH.out.2.2.1.below (below_none hgr1)) hrH.out.2.2.2 hlm.out.2.2.1 hlm.out.2.2.2 (below_none hgr1).size ?_; intro v2 w2 hown2 hgr2))
 have hb3 : Hid (Below w.heap.size w w2) := (below_none hgr1).trans (OwnG.grown_below hown1 hgr2 (below_none hgr1).size)
 obtain ⟨C, c, rfl, hC, hrow, hlt⟩ := OwnG.row encI_len hown2
 have hfin : Hid (RowI w2 C (l ++ m) ∧ (C = none → c = 0) ∧ (∀ a, C = some a → w.heap.size ≤ a.block ∧ a.block < w2.heap.size)) := ⟨by simpa using hrow, hC, hlt⟩
 clear hown1 hgr1 hown2 hgr2 hC hrow hlt
 go_wp2
 go_ret
 exact ⟨C, c, by simp, hfin.out.1, hfin.out.2.1, hfin.out.2.2, hb3.out⟩
end Go.Proofs.YtmoicbmhjmdgdaaGreat
