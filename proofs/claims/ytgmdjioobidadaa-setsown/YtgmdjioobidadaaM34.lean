/-
  slices.Clone at numbers; viewkeep.copied: a set with nothing in common.
  viewkeep.counted.
-/
import Derived.Test.YtgmdjioobidadaaM08
import Derived.Test.YtgmdjioobidadaaM09
import Derived.Deep.RegionHeld3
import Derived.Shelf.Slices.Clone
import Derived.Test.YtgmdjioobidadaaM30
namespace Go.Proofs.Ytgmdjioobidadaa
open Go.RowKit Go.Sort

set_option maxRecDepth 100000 in
set_option maxHeartbeats 400000 in
theorem cloneI_any (q : List Int) (A : Option Addr) (cap : Nat) (w : World) (hl : q.length * 8 ≤ 140737488351232) (hr : RowI w A q) (hA : A = none → cap = 0) :
    Calls Try.prog 15 #[.slice A q.length cap] w fun e w' => ∃ C c, e = .returned (.slice C q.length c) ∧ RowI w' C q ∧ (C = none → c = 0) ∧ (∀ a, C = some a → w.heap.size ≤ a.block ∧ a.block < w'.heap.size) ∧ Below w.heap.size w w' := by
  have hrH : Hid (RowI w A q) := hr
  clear hr
  have q22 : ∀ (w : World) (a : Option Addr) (n c n' c' : Nat), (binOp .eql 24 (.slice a n c) (.slice none n' c')).run Try.prog w = .ok (.bool a.isNone) w := fun w a n c n' c' => Lib.run_eql_slice_nil w _ _ a n c n' c' Try.underlying24
  cases A with
  | none =>
    have hq0 : q = [] := by
      rcases hrH.out with h | ⟨_, _, h, _⟩
      · exact h
      · cases h
    subst hq0
    go_enter Try.func15, Try.ntmps15
    go_wp2
    go_ret
    exact ⟨none, 0, rfl, Or.inl rfl, fun _ => rfl, (fun a h => by cases h), Below.refl _ _⟩
  | some ad =>
    go_enter Try.func15, Try.ntmps15
    have hoX : Hid (OwnG encI 1 3 (w.alloc (.cells #[] 3)) w.heap.size (.slice (some ⟨w.heap.size, 0, none⟩) 0 0) [] ∧ RowI (w.alloc (.cells #[] 3)) (some ad) q ∧ ([] : List Int).length + q.length ≤ maxLen ∧ (([] : List Int).length + q.length) * 8 ≤ 140737488355328 ∧ w.heap.size ≤ (w.alloc (.cells #[] 3)).heap.size) :=
      ⟨⟨rfl, Or.inr ⟨w.heap.size, 0, #[], rfl, Nat.le_refl _, (MapKept.heap_alloc _ _).1, Nat.le_refl _, by simp, rfl, rfl⟩⟩, hrH.out.gr ((Gr.refl _).alloc _), by unfold maxLen; simp; omega, by simp; omega, by simp⟩
    go_wp2_with (at_builtin; refine wpList_append_i _ rfl (.tmp 5) (.tmp 6) rfl w.heap.size (.slice (some ⟨w.heap.size, 0, none⟩) 0 0) [] q (some ad) cap rfl rfl hoX.out.1 hoX.out.2.1 (fun h => by cases h) hoX.out.2.2.1 hoX.out.2.2.2.1 hoX.out.2.2.2.2 ?_; intro v1 w1 hown1 hgr1)
    have hb : Hid (Below w.heap.size w w1) := ((Gr.refl w).alloc _).below.trans (OwnG.grown_below hoX.out.1 hgr1 hoX.out.2.2.2.2)
    obtain ⟨C, c, rfl, hC, hrow, hlt⟩ := OwnG.row encI_len hown1
    have hfin : Hid (RowI w1 C q ∧ (C = none → c = 0) ∧ (∀ a, C = some a → w.heap.size ≤ a.block ∧ a.block < w1.heap.size)) := ⟨by simpa using hrow, hC, hlt⟩
    clear hown1 hgr1 hC hrow hlt
    go_ret
    exact ⟨C, c, by simp, hfin.out.1, hfin.out.2.1, hfin.out.2.2, hb.out⟩

theorem copied_keep {W w3 : World} {B : Nat} {row : Option Nat} {u0 u1 : Value} (h : W.cell? ⟨B, 0, none⟩ = some u0 ∧ W.cell? ⟨B, 1, none⟩ = some u1) (hg : W.grownBy w3 row) (hlt : B < W.heap.size) (hne : some B ≠ row) : w3.cell? ⟨B, 0, none⟩ = some u0 ∧ w3.cell? ⟨B, 1, none⟩ = some u1 :=
  ⟨(World.cell?_of_block (a := ⟨B, 0, none⟩) (hg.block _ hlt hne)).trans h.1, (World.cell?_of_block (a := ⟨B, 1, none⟩) (hg.block _ hlt hne)).trans h.2⟩
theorem copied_mk {w wr y1 : World} {x : Itm} {v : Value} {L : List Itm} {C : Option Addr} {c : Nat} {o o2 : Obj} (hov : OwnT wr w.heap.size v L) (hbel : Below w.heap.size w wr) (hg : Gr wr (wr.alloc o)) (hb2 : Below (wr.alloc o).heap.size (wr.alloc o) (y1.alloc o2))
    (hrw : RowI y1 C x.r) (hnl : C = none → c = 0) (hnw : ∀ a, C = some a → wr.heap.size + 1 ≤ a.block ∧ a.block < y1.heap.size) (hxl : x.r.length ≤ maxLen) (hL : L.length + 1 ≤ maxLen ∧ (L.length + 1) * 32 ≤ 140737488355328) :
    OwnT (y1.alloc o2) w.heap.size v L ∧ Apart (y1.alloc o2) w.heap.size v.ownBlock ⟨C, c, x.r, x.n⟩ ∧ (L.length + 1 ≤ maxLen ∧ (L.length + 1) * 32 ≤ 140737488355328) ∧ w.heap.size ≤ (y1.alloc o2).heap.size ∧ Below w.heap.size w (y1.alloc o2) := by
  have hbY : Below wr.heap.size wr (y1.alloc o2) := hg.below.trans (hb2.mono hg.size)
  have hsz := hbel.size
  refine ⟨hov.below hbY, ⟨hrw.gr ((Gr.refl _).alloc _), hxl, hnl, fun a ha => ⟨?_, ?_, ?_⟩⟩, hL, Nat.le_trans hsz hbY.size, hbel.trans (hbY.mono hsz)⟩
  · have h1 := (hnw a ha).1; omega
  · have h1 := (hnw a ha).2; simp; omega
  · intro e
    have h1 := (World.ownsRow.lt hov.own a.block e).2
    have h2 := (hnw a ha).1
    omega
set_option maxRecDepth 100000 in
set_option maxHeartbeats 4000000 in
theorem copied_any (l : List Itm) (A : Option Addr) (cap : Nat) (w : World) (hl : l.length * 32 ≤ 140737488351232) (hr : Items w A l) (hw : ∀ x ∈ l, x.r.length * 8 ≤ 140737488351232) :
    Calls Try.prog 5 #[.slice A l.length cap] w fun e w' => ∃ (L : List Itm) (C : Option Addr) (c : Nat), e = .returned (.slice C L.length c) ∧ L.map Itm.z = l.map Itm.z ∧ Lv w' C c L ∧ Below w.heap.size w w' := by
  have hrH : Hid (Items w A l ∧ ∀ x ∈ l, x.r.length * 8 ≤ 140737488351232) := ⟨hr, hw⟩
  clear hr hw
  go_enter Try.func5, Try.ntmps5
  go_wp2
  go_loopw [3, 8] (fun v i wr => ∃ (k : Nat) (L : List Itm), k ≤ l.length ∧ i = .int .i64 k ∧ Hid (L.length = k) ∧ Hid (L.map Itm.z = (l.take k).map Itm.z) ∧ OwnT wr w.heap.size v L ∧ Below w.heap.size w wr) (fun _ i _ => l.length - (intOf i).toNat)
  case atStart => exact ⟨0, [], by omega, rfl, rfl, by simp [Hid], OwnT.nil _ _, Below.refl _ _⟩
  case round =>
    obtain ⟨k, L, hk, rfl, hLk, hLz, hov, hbel⟩ := hrel
    have hovH : Hid (OwnT wr w.heap.size u3 L ∧ Below w.heap.size w wr) := ⟨hov, hbel⟩
    by_cases hlt : k < l.length
    · have hltz : (k : Int) < (l.length : Int) := by omega
      have hI : Hid (Items wr A l) := hrH.out.1.below hbel
      obtain ⟨bb, off, rfl, hb, hcs⟩ := hI.out.at hlt
      obtain ⟨x, hx⟩ : ∃ x, l[k] = x := ⟨_, rfl⟩
      obtain ⟨e0, e1⟩ := hcs k hlt
      rw [hx] at e0 e1
      have hxE := hI.out.each x (by rw [← hx]; exact List.getElem_mem hlt)
      have hxr : Hid (RowI wr x.p x.r ∧ (x.p = none → x.c = 0) ∧ x.r.length ≤ maxLen ∧ x.r.length * 8 ≤ 140737488351232) := ⟨hxE.1, hxE.2.2, hxE.2.1, hrH.out.2 x (by rw [← hx]; exact List.getElem_mem hlt)⟩
      have hst : Hid ((l.take (k + 1)).map Itm.z = (l.take k).map Itm.z ++ [(x.r, x.n)]) := by show _ = _; rw [List.take_succ_eq_append_getElem hlt, hx]; simp [Itm.z]
      have hl4 : Hid (l.length * 32 ≤ 140737488351232 ∧ k < l.length) := ⟨hl, hlt⟩
      clear hcs hx hxE hov hbel
      have hgX : Hid (Gr wr (wr.alloc (.cells #[.slice x.p x.r.length x.c, .int .i64 x.n] 45))) := (Gr.refl _).alloc _
      have x0 : (wr.alloc (.cells #[.slice x.p x.r.length x.c, .int .i64 x.n] 45)).cell? ⟨wr.heap.size, 0, none⟩ = some (.slice x.p x.r.length x.c) := box1 (Gr.refl _) rfl
      have x1 : (wr.alloc (.cells #[.slice x.p x.r.length x.c, .int .i64 x.n] 45)).cell? ⟨wr.heap.size, 1, none⟩ = some (.int .i64 x.n) := box1 (Gr.refl _) rfl
      have hcp0 := cloneI_any x.r x.p x.c (wr.alloc (.cells #[.slice x.p x.r.length x.c, .int .i64 x.n] 45)).drew hxr.out.2.2.2 ((hxr.out.1.gr hgX.out).gr (Gr.refl _).drew) hxr.out.2.1
      have hcp : Hid _ := hcp0
      clear hcp0
      go_upto_region 5 with fail
      have hKeep : Hid (∀ w' : World, Below (wr.alloc (.cells #[.slice x.p x.r.length x.c, .int .i64 x.n] 45)).heap.size (wr.alloc (.cells #[.slice x.p x.r.length x.c, .int .i64 x.n] 45)) w' → (fun w' => w'.cell? ⟨wr.heap.size, 0, none⟩ = some (.slice x.p x.r.length x.c) ∧ w'.cell? ⟨wr.heap.size, 1, none⟩ = some (.int .i64 x.n)) w') := fun w' h => ⟨(h.cell (p := ⟨wr.heap.size, 0, none⟩) (by simp)).trans x0, (h.cell (p := ⟨wr.heap.size, 1, none⟩) (by simp)).trans x1⟩
      have hbd : Hid (Below (wr.alloc (.cells #[.slice x.p x.r.length x.c, .int .i64 x.n] 45)).heap.size (wr.alloc (.cells #[.slice x.p x.r.length x.c, .int .i64 x.n] 45)) (wr.alloc (.cells #[.slice x.p x.r.length x.c, .int .i64 x.n] 45)).drew) := (Below.refl _ _).drew
      have hsz : Hid (w.heap.size ≤ wr.heap.size ∧ (wr.alloc (.cells #[.slice x.p x.r.length x.c, .int .i64 x.n] 45)).heap.size = wr.heap.size + 1) := ⟨hovH.out.2.size, by simp⟩
      have hob : Hid (∀ j, u3.ownBlock = some j → j < wr.heap.size) := fun j hj => (World.ownsRow.lt hovH.out.1.own j hj).2
      refine wp_region_noPanic ?_
      refine wp_region_held_drew (S := (fun w' => w'.cell? ⟨wr.heap.size, 0, none⟩ = some (.slice x.p x.r.length x.c) ∧ w'.cell? ⟨wr.heap.size, 1, none⟩ = some (.int .i64 x.n))) (by kernel_rfl) (hKeep.out _ hbd.out) (fun hHeld => ?_)
      refine wpAnyH_take (i := 0) (oi := ?ois1) (v := ?vs1) ?hops1 ?hss1 ?hfs1 ?hrs1 ?hQs1 ?hys1 (by assumption) ?rests1
      case hops1 => (simp only [List.getElem?_toArray, List.getElem?_cons_zero]; rfl)
      case hss1 => kernel_rfl
      case hfs1 => kernel_rfl
      case hrs1 => kernel_rfl
      case hQs1 => exact fun _ _ _ h => h
      case hys1 => (refine Or.inl ⟨by rfl, ?_⟩; intro w hSw; (try dsimp only at hSw); go_simp <;> with_reducible rfl)
      try simp only [Act.put, List.setIfInBounds_toArray, List.set_cons_zero, List.set_cons_succ]
      refine wpAnyH_take (i := 1) (oi := ?ois2) (v := ?vs2) ?hops2 ?hss2 ?hfs2 ?hrs2 ?hQs2 ?hys2 (by assumption) ?rests2
      case hops2 => (simp only [List.getElem?_toArray, List.getElem?_cons_zero, List.getElem?_cons_succ]; rfl)
      case hss2 => kernel_rfl
      case hfs2 => kernel_rfl
      case hrs2 => kernel_rfl
      case hQs2 => exact fun _ _ _ h => h
      case hys2 => (refine Or.inl ⟨by rfl, ?_⟩; intro w hSw; (try dsimp only at hSw); go_simp <;> with_reducible rfl)
      try simp only [Act.put, List.setIfInBounds_toArray, List.set_cons_zero, List.set_cons_succ]
      refine wpAnyH_take (i := 2) (oi := ?ois3) (v := ?vs3) ?hops3 ?hss3 ?hfs3 ?hrs3 ?hQs3 ?hys3 (by assumption) ?rests3
      case hops3 => (simp only [List.getElem?_toArray, List.getElem?_cons_zero, List.getElem?_cons_succ]; rfl)
      case hss3 => kernel_rfl
      case hfs3 => kernel_rfl
      case hrs3 => kernel_rfl
      case hQs3 => exact fun _ _ _ h => h
      case hys3 => (refine Or.inl ⟨by rfl, ?_⟩; intro w hSw; (try dsimp only at hSw); go_simp <;> with_reducible rfl)
      try simp only [Act.put, List.setIfInBounds_toArray, List.set_cons_zero, List.set_cons_succ]
      refine wpAnyH_take (i := 4) (oi := ?ois4) (v := ?vs4) ?hops4 ?hss4 ?hfs4 ?hrs4 ?hQs4 ?hys4 (by assumption) ?rests4
      case hops4 => (simp only [List.getElem?_toArray, List.getElem?_cons_zero, List.getElem?_cons_succ]; rfl)
      case hss4 => kernel_rfl
      case hfs4 => kernel_rfl
      case hrs4 => kernel_rfl
      case hQs4 => exact fun _ _ _ h => h
      case hys4 => (refine Or.inl ⟨by rfl, ?_⟩; intro w hSw; (try dsimp only at hSw); go_simp <;> with_reducible rfl)
      try simp only [Act.put, List.setIfInBounds_toArray, List.set_cons_zero, List.set_cons_succ]
      refine wpAnyH_take (i := 5) (oi := ?ois5) (v := ?vs5) ?hops5 ?hss5 ?hfs5 ?hrs5 ?hQs5 ?hys5 (by assumption) ?rests5
      case hops5 => (simp only [List.getElem?_toArray, List.getElem?_cons_zero, List.getElem?_cons_succ]; rfl)
      case hss5 => kernel_rfl
      case hfs5 => kernel_rfl
      case hrs5 => kernel_rfl
      case hQs5 => exact fun _ _ _ h => h
      case hys5 => (refine Or.inl ⟨by rfl, ?_⟩; intro w hSw; (try dsimp only at hSw); go_simp <;> with_reducible rfl)
      try simp only [Act.put, List.setIfInBounds_toArray, List.set_cons_zero, List.set_cons_succ]
      refine wpAnyH_ready (rs := [3]) (by kernel_rfl) (by simp) ?_
      refine AllReadyH.cons (o := ?ois6) ?hops6 (fun K hK => ?steps6) ?mores6
      case hops6 => (simp only [List.getElem?_toArray, List.getElem?_cons_zero, List.getElem?_cons_succ]; rfl)
      case mores6 => exact AllReadyH.nil
      go_simp
      (go_at_call 15; (refine Calls.mono (show Calls _ _ _ _ _ from hcp.out) ?_); rintro e y1 ⟨C, c, rfl, hrw, hnl, hnw, hbl⟩; have hb1 : Hid (Below (wr.alloc (.cells #[.slice x.p x.r.length x.c, .int .i64 x.n] 45)).heap.size (wr.alloc (.cells #[.slice x.p x.r.length x.c, .int .i64 x.n] 45)) y1) := hbd.out.trans (hbl.mono hbd.out.size); have hb2 : Hid (Below (wr.alloc (.cells #[.slice x.p x.r.length x.c, .int .i64 x.n] 45)).heap.size (wr.alloc (.cells #[.slice x.p x.r.length x.c, .int .i64 x.n] 45)) (y1.alloc (.cells #[.slice C x.r.length c, .int .i64 x.n] 45))) := hb1.out.alloc hb1.out.size _; have hoX : Hid (OwnT (y1.alloc (.cells #[.slice C x.r.length c, .int .i64 x.n] 45)) w.heap.size u3 L ∧ Apart (y1.alloc (.cells #[.slice C x.r.length c, .int .i64 x.n] 45)) w.heap.size u3.ownBlock ⟨C, c, x.r, x.n⟩ ∧ (L.length + 1 ≤ maxLen ∧ (L.length + 1) * 32 ≤ 140737488355328) ∧ w.heap.size ≤ (y1.alloc (.cells #[.slice C x.r.length c, .int .i64 x.n] 45)).heap.size ∧ Below w.heap.size w (y1.alloc (.cells #[.slice C x.r.length c, .int .i64 x.n] 45))) := copied_mk hovH.out.1 hovH.out.2 hgX.out hb2.out hrw hnl (fun a ha => ⟨Nat.le_trans (Nat.le_of_eq hsz.out.2.symm) (hnw a ha).1, (hnw a ha).2⟩) hxr.out.2.2.1 (by have := hl4.out; have := hLk.out; constructor <;> (unfold maxLen at *; omega)); clear hrw hnl hnw hbl)
      first | (go_wp2_with fail) | skip
      refine hK.out _ _ ?_ (fun hHeld => ?_)
      · (try dsimp only); (first | with_reducible exact hKeep.out _ hbd.out | with_reducible exact hKeep.out _ hb1.out | with_reducible exact hKeep.out _ hb2.out | with_reducible exact hk3.out)
      clear hK K
      try simp only [Act.put, List.setIfInBounds_toArray, List.set_cons_zero, List.set_cons_succ]
      refine wpAnyH_take (i := 6) (oi := ?ois7) (v := ?vs7) ?hops7 ?hss7 ?hfs7 ?hrs7 ?hQs7 ?hys7 (by assumption) ?rests7
      case hops7 => (simp only [List.getElem?_toArray, List.getElem?_cons_zero, List.getElem?_cons_succ]; rfl)
      case hss7 => kernel_rfl
      case hfs7 => kernel_rfl
      case hrs7 => kernel_rfl
      case hQs7 => exact fun _ _ _ h => h
      case hys7 => (refine Or.inl ⟨by rfl, ?_⟩; intro w hSw; (try dsimp only at hSw); go_simp <;> with_reducible rfl)
      try simp only [Act.put, List.setIfInBounds_toArray, List.set_cons_zero, List.set_cons_succ]
      refine wpAnyH_ready (rs := [7]) (by kernel_rfl) (by simp) ?_
      refine AllReadyH.cons (o := ?ois8) ?hops8 (fun K hK => ?steps8) ?mores8
      case hops8 => (simp only [List.getElem?_toArray, List.getElem?_cons_zero, List.getElem?_cons_succ]; rfl)
      case mores8 => exact AllReadyH.nil
      go_simp
      refine hK.out _ _ ?_ (fun hHeld => ?_)
      · (try dsimp only); (first | with_reducible exact hKeep.out _ hbd.out | with_reducible exact hKeep.out _ hb1.out | with_reducible exact hKeep.out _ hb2.out | with_reducible exact hk3.out)
      clear hK K
      try simp only [Act.put, List.setIfInBounds_toArray, List.set_cons_zero, List.set_cons_succ]
      refine wpAnyH_ready (rs := [8]) (by kernel_rfl) (by simp) ?_
      refine AllReadyH.cons (o := ?ois9) ?hops9 (fun K hK => ?steps9) ?mores9
      case hops9 => (simp only [List.getElem?_toArray, List.getElem?_cons_zero, List.getElem?_cons_succ]; rfl)
      case mores9 => exact AllReadyH.nil
      (refine step_append_t _ rfl (.tmp 12) (.tmp 19) rfl w.heap.size u3 L ⟨C, c, x.r, x.n⟩ ⟨y1.heap.size, 0, none⟩ 1 rfl rfl hoX.out.1 (rowNewT rfl ⟨C, c, x.r, x.n⟩ 45) hoX.out.2.1 hoX.out.2.2.1.1 hoX.out.2.2.1.2 hoX.out.2.2.2.1 ?_; intro v2 w3 hown3 hb3 hgb3; have hk3 : Hid ((fun w' => w'.cell? ⟨wr.heap.size, 0, none⟩ = some (.slice x.p x.r.length x.c) ∧ w'.cell? ⟨wr.heap.size, 1, none⟩ = some (.int .i64 x.n)) w3) := copied_keep (hKeep.out _ hb2.out) hgb3 (Nat.lt_of_lt_of_le (by simp) hb2.out.size) (fun e => Nat.lt_irrefl _ (hob.out _ e.symm)); have hownF : Hid (OwnT w3 w.heap.size v2 (L ++ [⟨C, c, x.r, x.n⟩]) ∧ Below w.heap.size w w3) := ⟨hown3, hoX.out.2.2.2.2.trans hb3⟩; clear hown3 hb3 hgb3)
      refine hK.out _ _ ?_ (fun hHeld => ?_)
      · (try dsimp only); (first | with_reducible exact hKeep.out _ hbd.out | with_reducible exact hKeep.out _ hb1.out | with_reducible exact hKeep.out _ hb2.out | with_reducible exact hk3.out)
      clear hK K
      try simp only [Act.put, List.setIfInBounds_toArray, List.set_cons_zero, List.set_cons_succ]
      refine wpAnyH_take (i := 9) (oi := ?ois10) (v := ?vs10) ?hops10 ?hss10 ?hfs10 ?hrs10 ?hQs10 ?hys10 (by assumption) ?rests10
      case hops10 => (simp only [List.getElem?_toArray, List.getElem?_cons_zero, List.getElem?_cons_succ]; rfl)
      case hss10 => kernel_rfl
      case hfs10 => kernel_rfl
      case hrs10 => kernel_rfl
      case hQs10 => exact fun _ _ _ h => h
      case hys10 => (refine Or.inl ⟨by rfl, ?_⟩; intro w hSw; (try dsimp only at hSw); go_simp <;> with_reducible rfl)
      try simp only [Act.put, List.setIfInBounds_toArray, List.set_cons_zero, List.set_cons_succ]
      refine wpAnyH_done (by kernel_rfl) ?_ _
      refine NoPanic.normal ?_
      go_wp2
      go_roundw
      case rel =>
        refine ⟨k + 1, L ++ [⟨C, c, x.r, x.n⟩], by omega, by go_num, ?_, ?_, hownF.out.1, hownF.out.2⟩
        · show _ = _; simp [hLk.out]
        · show _ = _; rw [hst.out, List.map_append, hLz.out]; rfl
      case measure => simp [intOf]; omega
    · have hltz : ¬ (k : Int) < (l.length : Int) := by omega
      have hke : l.take k = l := List.take_of_length_le (by omega)
      obtain ⟨A2, cap2, hv2, hn2, hit, _⟩ := hov.items
      have hfin : Hid (L.map Itm.z = l.map Itm.z ∧ Lv wr A2 cap2 L ∧ Below w.heap.size w wr) := ⟨by rw [hLz.out, hke], ⟨hit, hn2, by have := hLk.out; unfold maxLen; omega⟩, hbel⟩
      subst hv2
      clear hke hit hn2 hov hbel hovH
      go_wp2
      go_ret
      exact ⟨L, A2, cap2, rfl, hfin.out.1, hfin.out.2.1, hfin.out.2.2⟩

end Go.Proofs.Ytgmdjioobidadaa

namespace Go.Proofs.Ytgmdjioobidadaa
open Go.RowKit Go.Sort Go.Maps

theorem row_lit {α : Type} {enc : α → List Value} {k : Nat} (hk : ∀ x, (enc x).length = k) {W W' : World} {n : Nat} (hn : W.heap.size = n) {cs : Array Value} {T : TypeId} (hg : Gr (W.alloc (.cells cs T)) W') {l : List α} (h : flatG enc l = cs.toList) : RowG enc k W' (some ⟨n, 0, none⟩) l := by
  subst hn
  refine Or.inr ⟨W.heap.size, 0, rfl, Nat.lt_of_lt_of_le (by simp) hg.size, fun j hj i hi => ?_⟩
  have h1 := flatG_get hk l j hj i hi
  have hin : i < (enc l[j]).length := by rw [hk]; exact hi
  rw [List.getElem?_eq_getElem hin] at h1 ⊢
  rw [h, Array.getElem?_toList] at h1
  have := box1 (w := W) hg (j := j * k + i) h1
  rw [show 0 + j * k + i = j * k + i by omega]
  exact this
def cntQ : List Stp := [⟨1, 0, 0, 0, 0, 0, none, 0, []⟩, ⟨8, 0, 0, 1, 0, 0, none, 0, []⟩]
def cntA (n : Nat) : List Itm := [⟨some ⟨n + 1, 0, none⟩, 4, [1, 5, 0, 0], 1⟩, ⟨some ⟨n + 1 + 1, 0, none⟩, 4, [2, 5, 0, 0], 1⟩]
theorem cntA_z (n : Nat) : (cntA n).map Itm.z = [([1, 5, 0, 0], 1), ([2, 5, 0, 0], 1)] := rfl
theorem cnt_e : plnE cntQ [([1, 5, 0, 0], 1), ([2, 5, 0, 0], 1)] [] = 0 ∧ evlF cntQ [([1, 5, 0, 0], 1), ([2, 5, 0, 0], 1)] [] = [([5, 2], 1)] := by decide +kernel
def cntW (w : World) : World := ((((w.alloc (.cells #[.int .i64 1, .int .i64 0, .int .i64 0, .int .i64 0, .int .i64 0, .int .i64 0, .slice none 0 0, .int .i64 8, .int .i64 0, .int .i64 0, .int .i64 1, .int .i64 0, .int .i64 0, .slice none 0 0] 43)).alloc (.cells #[.int .i64 1, .int .i64 5, .int .i64 0, .int .i64 0] 3)).alloc (.cells #[.int .i64 2, .int .i64 5, .int .i64 0, .int .i64 0] 3)).alloc (.cells #[.slice (some ⟨w.heap.size + 1, 0, none⟩) 4 4, .int .i64 1, .slice (some ⟨w.heap.size + 1 + 1, 0, none⟩) 4 4, .int .i64 1] 45))
theorem cnt_gr (w : World) : Gr w (cntW w) := ((((Gr.refl _).alloc _).alloc _).alloc _).alloc _
theorem cnt_q (w : World) : Stps (cntW w) (some ⟨w.heap.size, 0, none⟩) cntQ := by
  refine ⟨row_lit encQ_len rfl ((((Gr.refl _).alloc _).alloc _).alloc _) rfl, fun s hs => ?_⟩
  rcases List.mem_cons.1 hs with e | e
  · rw [e]; exact ⟨Or.inl rfl, by simp [maxLen], fun _ => rfl⟩
  · rw [List.mem_singleton.1 e]; exact ⟨Or.inl rfl, by simp [maxLen], fun _ => rfl⟩
theorem cnt_a (w : World) : Lv (cntW w) (some ⟨w.heap.size + 1 + 1 + 1, 0, none⟩) 2 (cntA w.heap.size) := by
  refine ⟨⟨row_lit encT_len (by simp) (Gr.refl _) rfl, fun x hx => ?_⟩, NilC.mk (fun h => by cases h) (by simp [cntA]), by simp [cntA, maxLen]⟩
  rcases List.mem_cons.1 hx with e | e
  · rw [e]; exact ⟨row_lit encI_len (by simp) (((Gr.refl _).alloc _).alloc _) rfl, by simp [maxLen], fun h => by cases h⟩
  · rw [List.mem_singleton.1 e]; exact ⟨row_lit encI_len (by simp) ((Gr.refl _).alloc _) rfl, by simp [maxLen], fun h => by cases h⟩

set_option maxRecDepth 100000 in
set_option maxHeartbeats 1000000 in
theorem counted_any (w : World) : Calls Try.prog 4 #[] w fun e w' => e = .returned (.bool true) ∧ Below w.heap.size w w' := by
  have hC0 := eval_any cntQ (some ⟨w.heap.size, 0, none⟩) 2 (cntA w.heap.size) [] (some ⟨w.heap.size + 1 + 1 + 1, 0, none⟩) none 2 0 (cntW w) (by simp [cntQ, maxLen]) (cnt_q w) (cnt_a w) ⟨⟨Or.inl rfl, fun x hx => (by cases hx)⟩, fun _ => rfl, Nat.zero_le _⟩
  rw [cntA_z, show ([] : List Itm).map Itm.z = [] from rfl, cnt_e.1, cnt_e.2] at hC0
  have hC : Hid _ := hC0
  clear hC0
  go_enter Try.func4, Try.ntmps4
  go_wp2_with fail
  refine Calls.mono (show Calls _ _ _ _ _ from hC.out) ?_
  rintro e w1 ⟨L, C, k, rfl, h1, h2, h3⟩
  have hL : Hid (L.map Itm.z = [([5, 2], 1)] ∧ Lv w1 C k L ∧ Below w.heap.size w w1) := ⟨h1, h2, (cnt_gr w).below.trans (h3.mono (cnt_gr w).size)⟩
  clear hC h1 h2 h3
  have hS0 := sameV (W := (w1.alloc (.cells #[.int .i64 5, .int .i64 2] 3)).alloc (.cells #[.slice (some ⟨w1.heap.size, 0, none⟩) 2 2, .int .i64 1] 45)) (A := C) (c := k) (l := L) (B := some ⟨w1.heap.size + 1, 0, none⟩) (d := 1) (r := [⟨some ⟨w1.heap.size, 0, none⟩, 2, [5, 2], 1⟩]) (hL.out.2.1.gr (((Gr.refl _).alloc _).alloc _)) ⟨⟨row_lit encT_len (by simp) (Gr.refl _) rfl, fun x hx => by rw [List.mem_singleton.1 hx]; exact ⟨row_lit encI_len rfl ((Gr.refl _).alloc _) rfl, by simp [maxLen], fun h => by cases h⟩⟩, NilC.mk (fun h => by cases h) (by simp), by simp [maxLen]⟩ (by rw [hL.out.1]; rfl)
  have hS : Hid _ := hS0
  clear hS0
  go_wp2_with fail
  refine Calls.mono (show Calls _ _ _ _ _ from hS.out) ?_
  rintro e w2 ⟨rfl, hg2⟩
  have hB : Hid (Below w.heap.size w w2) := hL.out.2.2.trans (((((Gr.refl w1).alloc _).alloc _).trans hg2).below.mono hL.out.2.2.size)
  clear hS hg2
  go_wp2
  go_ret
  exact ⟨rfl, hB.out⟩

end Go.Proofs.Ytgmdjioobidadaa
