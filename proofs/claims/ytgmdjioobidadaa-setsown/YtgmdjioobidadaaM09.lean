/-
  zset.Neg: each weight's opposite.
  The set of a list, row by row put in; what Norm and Add tell.
-/
import Derived.Test.YtgmdjioobidadaaM08
import Derived.Test.YtgmdjioobidadaaM04
import Derived.Deep.RegionHeld3
import Derived.Deep.Cut
import Derived.Test.YtgmdjioobidadaaM06
namespace Go.Proofs.Ytgmdjioobidadaa
open Go.RowKit Go.Sort

theorem errZ_parts {l : List Zit} (h : errZ l = 0) : l.length ≤ 400 ∧ ∀ k, k < l.length → okZ (l.getD k ([], 0)) = true ∧ incZ l k = true := by
  unfold errZ at h
  by_cases h4 : 400 < l.length
  · rw [if_pos h4] at h; cases h
  · rw [if_neg h4] at h
    refine ⟨by omega, fun k hk => ?_⟩
    by_cases h5 : ∃ k, k < l.length ∧ (okZ (l.getD k ([], 0)) && incZ l k) = false
    · rw [if_pos h5] at h; cases h
    · have : (okZ (l.getD k ([], 0)) && incZ l k) = true := by
        cases e : (okZ (l.getD k ([], 0)) && incZ l k)
        · exact absurd ⟨k, hk, e⟩ h5
        · rfl
      simpa using this
theorem errZ_item {l : List Itm} (h : errZ (l.map Itm.z) = 0) {k : Nat} (hk : k < l.length) : l[k].r.length ≤ 8 ∧ okW l[k].n = true ∧ l[k].n ≠ 0 := by
  have := ((errZ_parts h).2 k (by simpa using hk)).1
  rw [getZ hk] at this
  unfold okZ okR Itm.z at this
  simp at this
  exact ⟨this.1.1.1, this.1.2, this.2⟩
/-- The set that Neg tells. -/
def negL (l : List Zit) : List Zit := if errZ l = 0 then l.map (fun x => (x.1, -x.2)) else []

theorem rowNewT {W : World} {n : Nat} (hn : W.heap.size = n) (x : Itm) (T : TypeId) : RowG encT 2 (W.alloc (.cells #[.slice x.p x.r.length x.c, .int .i64 x.n] T)) (some ⟨n, 0, none⟩) [x] := by
  subst hn
  refine Or.inr ⟨W.heap.size, 0, rfl, by simp, fun j hj i hi => ?_⟩
  obtain rfl : j = 0 := by simp at hj; omega
  have hi' : i = 0 ∨ i = 1 := by omega
  rcases hi' with rfl | rfl
  · exact box1 (w := W) (Gr.refl _) (j := 0) rfl
  · exact box1 (w := W) (Gr.refl _) (j := 1) rfl

set_option maxRecDepth 100000 in
theorem RoomL.snoc {w w' : World} {L : List Itm} {x : Itm} (h : RoomL w L) (q : Below w.heap.size w w') (hx : RoomI w' x.p x.c ∧ x.r.length ≤ x.c) : RoomL w' (L ++ [x]) := fun z hz => by
  rcases List.mem_append.1 hz with hz | hz
  · exact (h.below q) z hz
  · rw [List.mem_singleton.1 hz]; exact hx
set_option maxHeartbeats 2000000 in
theorem neg_new (l : List Itm) (A : Option Addr) (cap : Nat) (w : World) (hl : l.length ≤ maxLen) (hr : Items w A l) :
    Calls Try.prog 9 #[.slice A l.length cap] w fun e w' => ∃ (L : List Itm) (C : Option Addr) (c : Nat), e = .returned (.tuple #[.slice C L.length c, .int .i64 (errZ (l.map Itm.z))]) ∧ L.map Itm.z = negL (l.map Itm.z) ∧ Items w' C L ∧ NilC C L.length c ∧ Below w.heap.size w w' ∧ NwT w' c w.heap.size C L := by
  have hck := checkZ_any l A cap w hl hr
  unfold maxLen at hl
  have hrH : Hid (Items w A l) := hr
  have hckH : Hid _ := hck
  clear hck hr
  go_enter Try.func9, Try.ntmps9
  go_wp2_with fail
  refine Calls.mono (show Calls _ _ _ _ _ from hckH.out) ?_
  rintro e w1 ⟨rfl, hg1⟩
  clear hckH
  obtain ⟨E, hE⟩ : ∃ E, errZ (l.map Itm.z) = E := ⟨_, rfl⟩
  have hEH : Hid (errZ (l.map Itm.z) = E) := hE
  rw [hE]
  clear hE
  cases hq : (E != 0)
  · have hE0 : E = 0 := by simpa using hq
    have h0H : Hid (errZ (l.map Itm.z) = 0) := by show _ = _; rw [hEH.out, hE0]
    subst hE0
    go_wp2
    go_loopw [5, 15] (fun v i wr => ∃ (k : Nat) (L : List Itm), k ≤ l.length ∧ i = .int .i64 k ∧ Hid (L.length = k) ∧ Hid (L.map Itm.z = (l.take k).map (fun x => (x.r, -x.n))) ∧ OwnT wr w1.heap.size v L ∧ Below w1.heap.size w1 wr ∧ Hid (RoomL wr L)) (fun _ i _ => l.length - (intOf i).toNat)
    case atStart => exact ⟨0, [], by omega, rfl, rfl, by simp [Hid], OwnT.nil _ _, Below.refl _ _, fun x hx => by cases hx⟩
    case round =>
      obtain ⟨k, L, hk, rfl, hLk, hLz, hov, hbel, hrm⟩ := hrel
      have hovH : Hid (OwnT wr w1.heap.size u5 L ∧ Below w1.heap.size w1 wr) := ⟨hov, hbel⟩
      by_cases hlt : k < l.length
      · have hltz : (k : Int) < (l.length : Int) := by omega
        have hI : Hid (Items wr A l) := (hrH.out.gr hg1).below hbel
        obtain ⟨bb, off, rfl, hb, hcs⟩ := hI.out.at hlt
        obtain ⟨x, hx⟩ : ∃ x, l[k] = x := ⟨_, rfl⟩
        obtain ⟨e0, e1⟩ := hcs k hlt
        rw [hx] at e0 e1
        have hxE := hI.out.each x (by rw [← hx]; exact List.getElem_mem hlt)
        have hxI := errZ_item h0H.out hlt
        rw [hx] at hxI
        have hxr : Hid (RowI wr x.p x.r ∧ (x.p = none → x.c = 0) ∧ x.r.length ≤ 8 ∧ okW x.n = true) := ⟨hxE.1, hxE.2.2, hxI.1, hxI.2.1⟩
        have hst : Hid ((l.take (k + 1)).map (fun x => (x.r, -x.n)) = (l.take k).map (fun x => (x.r, -x.n)) ++ [(x.r, -x.n)]) := by show _ = _; rw [List.take_succ_eq_append_getElem hlt, hx]; simp
        have hwr : IntKind.i64.wrap (-x.n) = -x.n := by
          have h := hxI.2.1
          simp only [okW, inB, Bool.and_eq_true, decide_eq_true_eq] at h
          rw [IntKind.wrap_i64]; omega
        have hl4 : Hid (l.length ≤ 400) := by show _ ≤ _; have := (errZ_parts h0H.out).1; simpa using this
        clear hcs hx hxE hxI hov hbel
        have hgX : Hid (Gr wr (wr.alloc (.cells #[.slice x.p x.r.length x.c, .int .i64 x.n] 45))) := (Gr.refl _).alloc _
        have x0 : (wr.alloc (.cells #[.slice x.p x.r.length x.c, .int .i64 x.n] 45)).cell? ⟨wr.heap.size, 0, none⟩ = some (.slice x.p x.r.length x.c) := box1 (Gr.refl _) rfl
        have x1 : (wr.alloc (.cells #[.slice x.p x.r.length x.c, .int .i64 x.n] 45)).cell? ⟨wr.heap.size, 1, none⟩ = some (.int .i64 x.n) := box1 (Gr.refl _) rfl
        have hcp0 := copyRow_new x.r x.p x.c (wr.alloc (.cells #[.slice x.p x.r.length x.c, .int .i64 x.n] 45)).drew (by have := hxr.out.2.2.1; omega) hxr.out.2.1 ((hxr.out.1.gr hgX.out).gr (Gr.refl _).drew)
        have hcp : Hid _ := hcp0
        clear hcp0
        go_upto_region 8 with fail
        have hKeep : Hid (∀ w' : World, Below (wr.alloc (.cells #[.slice x.p x.r.length x.c, .int .i64 x.n] 45)).heap.size (wr.alloc (.cells #[.slice x.p x.r.length x.c, .int .i64 x.n] 45)) w' → (fun w' => w'.cell? ⟨wr.heap.size, 0, none⟩ = some (.slice x.p x.r.length x.c) ∧ w'.cell? ⟨wr.heap.size, 1, none⟩ = some (.int .i64 x.n)) w') := fun w' hb => ⟨(hb.cell (p := ⟨wr.heap.size, 0, none⟩) (by simp)).trans x0, (hb.cell (p := ⟨wr.heap.size, 1, none⟩) (by simp)).trans x1⟩
        have hbd : Below (wr.alloc (.cells #[.slice x.p x.r.length x.c, .int .i64 x.n] 45)).heap.size (wr.alloc (.cells #[.slice x.p x.r.length x.c, .int .i64 x.n] 45)) (wr.alloc (.cells #[.slice x.p x.r.length x.c, .int .i64 x.n] 45)).drew := (Below.refl _ _).drew
        have hszX : Hid (w1.heap.size ≤ wr.heap.size ∧ (wr.alloc (.cells #[.slice x.p x.r.length x.c, .int .i64 x.n] 45)).heap.size = wr.heap.size + 1) := ⟨hovH.out.2.size, by simp⟩
        have hsd : (wr.alloc (.cells #[.slice x.p x.r.length x.c, .int .i64 x.n] 45)).drew.heap.size = wr.heap.size + 1 := by simp [World.drew]
        have hob : Hid (∀ j, u5.ownBlock = some j → j < wr.heap.size) := fun j hj => (World.ownsRow.lt hovH.out.1.own j hj).2
        have hmkX : Hid (∀ (y1 : World) (C : Option Addr) (c : Nat), Below (wr.alloc (.cells #[.slice x.p x.r.length x.c, .int .i64 x.n] 45)).heap.size (wr.alloc (.cells #[.slice x.p x.r.length x.c, .int .i64 x.n] 45)) y1 → (RowI y1 C x.r ∧ (C = none → c = 0) ∧ (∀ a, C = some a → wr.heap.size + 1 ≤ a.block ∧ a.block < y1.heap.size)) → OwnT (y1.alloc (.cells #[.slice C x.r.length c, .int .i64 (-x.n)] 45)) w1.heap.size u5 L ∧ Apart (y1.alloc (.cells #[.slice C x.r.length c, .int .i64 (-x.n)] 45)) w1.heap.size u5.ownBlock ⟨C, c, x.r, -x.n⟩ ∧ (L.length + 1 ≤ maxLen ∧ (L.length + 1) * 32 ≤ 140737488355328) ∧ w1.heap.size ≤ (y1.alloc (.cells #[.slice C x.r.length c, .int .i64 (-x.n)] 45)).heap.size) := by
          intro y1 C c hb1 hC
          have hbY : Below wr.heap.size wr (y1.alloc (.cells #[.slice C x.r.length c, .int .i64 (-x.n)] 45)) := hgX.out.below.trans ((hb1.alloc hb1.size _).mono hgX.out.size)
          refine ⟨hovH.out.1.below hbY, ⟨hC.1.gr ((Gr.refl _).alloc _), Nat.le_trans hxr.out.2.2.1 (by decide), hC.2.1, fun a ha => ⟨?_, ?_, ?_⟩⟩, ⟨?_, ?_⟩, Nat.le_trans hszX.out.1 hbY.size⟩
          · have h1 := (hC.2.2 a ha).1
            have h2 := hszX.out.1
            omega
          · have h1 := (hC.2.2 a ha).2
            simp; omega
          · intro e
            have h1 := hob.out a.block e
            have h2 := (hC.2.2 a ha).1
            omega
          · have h1 := hLk.out
            have h2 := hl4.out
            unfold maxLen; omega
          · have h1 := hLk.out
            have h2 := hl4.out
            omega
        have hmk3 : Hid (∀ (y1 : World) (C : Option Addr) (c : Nat) (w3 : World), Below (wr.alloc (.cells #[.slice x.p x.r.length x.c, .int .i64 x.n] 45)).heap.size (wr.alloc (.cells #[.slice x.p x.r.length x.c, .int .i64 x.n] 45)) (y1.alloc (.cells #[.slice C x.r.length c, .int .i64 (-x.n)] 45)) → (y1.alloc (.cells #[.slice C x.r.length c, .int .i64 (-x.n)] 45)).grownBy w3 u5.ownBlock → w3.cell? ⟨wr.heap.size, 0, none⟩ = some (.slice x.p x.r.length x.c) ∧ w3.cell? ⟨wr.heap.size, 1, none⟩ = some (.int .i64 x.n)) := by
          intro y1 C c w3 hb2 hg3
          have hlt : wr.heap.size < (y1.alloc (.cells #[.slice C x.r.length c, .int .i64 (-x.n)] 45)).heap.size := Nat.lt_of_lt_of_le (by simp) hb2.size
          have hne : some wr.heap.size ≠ u5.ownBlock := fun e => by have := hob.out _ e.symm; omega
          have hk := hKeep.out _ hb2
          exact ⟨(World.cell?_of_block (a := ⟨wr.heap.size, 0, none⟩) (hg3.block _ hlt hne)).trans hk.1, (World.cell?_of_block (a := ⟨wr.heap.size, 1, none⟩) (hg3.block _ hlt hne)).trans hk.2⟩
        refine wp_region_noPanic ?_
        refine wp_region_held_drew (S := fun w' => w'.cell? ⟨wr.heap.size, 0, none⟩ = some (.slice x.p x.r.length x.c) ∧ w'.cell? ⟨wr.heap.size, 1, none⟩ = some (.int .i64 x.n)) (by kernel_rfl) (hKeep.out _ hbd) (fun hHeld => ?_)
        refine wpAnyH_take (i := 0) (oi := ?oi1) (v := ?v1) ?hop1 ?hs1 ?hf1 ?hr1 ?hQ1 ?hy1 (by assumption) ?rest1
        case hop1 => (simp only [List.getElem?_toArray, List.getElem?_cons_zero]; rfl)
        case hs1 => kernel_rfl
        case hf1 => kernel_rfl
        case hr1 => kernel_rfl
        case hQ1 => exact fun _ _ _ h => h
        case hy1 => (refine Or.inl ⟨by rfl, ?_⟩; intro w hSw; (try dsimp only at hSw); go_simp <;> with_reducible rfl)
        try simp only [Act.put, List.setIfInBounds_toArray, List.set_cons_zero, List.set_cons_succ]
        refine wpAnyH_take (i := 1) (oi := ?oi2) (v := ?v2) ?hop2 ?hs2 ?hf2 ?hr2 ?hQ2 ?hy2 (by assumption) ?rest2
        case hop2 => (simp only [List.getElem?_toArray, List.getElem?_cons_zero, List.getElem?_cons_succ]; rfl)
        case hs2 => kernel_rfl
        case hf2 => kernel_rfl
        case hr2 => kernel_rfl
        case hQ2 => exact fun _ _ _ h => h
        case hy2 => (refine Or.inl ⟨by rfl, ?_⟩; intro w hSw; (try dsimp only at hSw); go_simp <;> with_reducible rfl)
        try simp only [Act.put, List.setIfInBounds_toArray, List.set_cons_zero, List.set_cons_succ]
        refine wpAnyH_take (i := 2) (oi := ?oi3) (v := ?v3) ?hop3 ?hs3 ?hf3 ?hr3 ?hQ3 ?hy3 (by assumption) ?rest3
        case hop3 => (simp only [List.getElem?_toArray, List.getElem?_cons_zero, List.getElem?_cons_succ]; rfl)
        case hs3 => kernel_rfl
        case hf3 => kernel_rfl
        case hr3 => kernel_rfl
        case hQ3 => exact fun _ _ _ h => h
        case hy3 => (refine Or.inl ⟨by rfl, ?_⟩; intro w hSw; (try dsimp only at hSw); go_simp <;> with_reducible rfl)
        try simp only [Act.put, List.setIfInBounds_toArray, List.set_cons_zero, List.set_cons_succ]
        refine wpAnyH_take (i := 4) (oi := ?oi4) (v := ?v4) ?hop4 ?hs4 ?hf4 ?hr4 ?hQ4 ?hy4 (by assumption) ?rest4
        case hop4 => (simp only [List.getElem?_toArray, List.getElem?_cons_zero, List.getElem?_cons_succ]; rfl)
        case hs4 => kernel_rfl
        case hf4 => kernel_rfl
        case hr4 => kernel_rfl
        case hQ4 => exact fun _ _ _ h => h
        case hy4 => (refine Or.inl ⟨by rfl, ?_⟩; intro w hSw; (try dsimp only at hSw); go_simp <;> with_reducible rfl)
        try simp only [Act.put, List.setIfInBounds_toArray, List.set_cons_zero, List.set_cons_succ]
        refine wpAnyH_take (i := 5) (oi := ?oi5) (v := ?v5) ?hop5 ?hs5 ?hf5 ?hr5 ?hQ5 ?hy5 (by assumption) ?rest5
        case hop5 => (simp only [List.getElem?_toArray, List.getElem?_cons_zero, List.getElem?_cons_succ]; rfl)
        case hs5 => kernel_rfl
        case hf5 => kernel_rfl
        case hr5 => kernel_rfl
        case hQ5 => exact fun _ _ _ h => h
        case hy5 => (refine Or.inl ⟨by rfl, ?_⟩; intro w hSw; (try dsimp only at hSw); go_simp <;> with_reducible rfl)
        try simp only [Act.put, List.setIfInBounds_toArray, List.set_cons_zero, List.set_cons_succ]
        refine wpAnyH_take (i := 6) (oi := ?oi6) (v := ?v6) ?hop6 ?hs6 ?hf6 ?hr6 ?hQ6 ?hy6 (by assumption) ?rest6
        case hop6 => (simp only [List.getElem?_toArray, List.getElem?_cons_zero, List.getElem?_cons_succ]; rfl)
        case hs6 => kernel_rfl
        case hf6 => kernel_rfl
        case hr6 => kernel_rfl
        case hQ6 => exact fun _ _ _ h => h
        case hy6 => (refine Or.inl ⟨by rfl, ?_⟩; intro w hSw; (try dsimp only at hSw); go_simp <;> with_reducible rfl)
        try simp only [Act.put, List.setIfInBounds_toArray, List.set_cons_zero, List.set_cons_succ]
        refine wpAnyH_ready (rs := [3]) (by kernel_rfl) (by simp) ?_
        refine AllReadyH.cons (o := ?oi7) ?hop7 (fun K hK => ?step7) ?more7
        case hop7 => (simp only [List.getElem?_toArray, List.getElem?_cons_zero, List.getElem?_cons_succ]; rfl)
        case more7 => exact AllReadyH.nil
        go_simp
        (go_at_call 21; (refine Calls.mono (show Calls _ _ _ _ _ from hcp.out) ?_); rintro e y1 ⟨C, c, rfl, hrw, hnl, hnw, hbl, hri⟩; have hb1 : Hid (Below (wr.alloc (.cells #[.slice x.p x.r.length x.c, .int .i64 x.n] 45)).heap.size (wr.alloc (.cells #[.slice x.p x.r.length x.c, .int .i64 x.n] 45)) y1) := hbd.trans (hbl.mono hbd.size); have hb2 : Hid (Below (wr.alloc (.cells #[.slice x.p x.r.length x.c, .int .i64 x.n] 45)).heap.size (wr.alloc (.cells #[.slice x.p x.r.length x.c, .int .i64 x.n] 45)) (y1.alloc (.cells #[.slice C x.r.length c, .int .i64 (-x.n)] 45))) := hb1.out.alloc hb1.out.size _; have hrmY : Hid (RoomL y1 (L ++ [⟨C, c, x.r, -x.n⟩])) := (hrm.out.below hgX.out.below).snoc hb1.out hri; clear hri; have hC : Hid (RowI y1 C x.r ∧ (C = none → c = 0) ∧ (∀ a, C = some a → wr.heap.size + 1 ≤ a.block ∧ a.block < y1.heap.size)) := ⟨hrw, hnl, fun a ha => ⟨Nat.le_trans (Nat.le_of_eq hsd.symm) (hnw a ha).1, (hnw a ha).2⟩⟩; have hoX : Hid (OwnT (y1.alloc (.cells #[.slice C x.r.length c, .int .i64 (-x.n)] 45)) w1.heap.size u5 L ∧ Apart (y1.alloc (.cells #[.slice C x.r.length c, .int .i64 (-x.n)] 45)) w1.heap.size u5.ownBlock ⟨C, c, x.r, -x.n⟩ ∧ (L.length + 1 ≤ maxLen ∧ (L.length + 1) * 32 ≤ 140737488355328) ∧ w1.heap.size ≤ (y1.alloc (.cells #[.slice C x.r.length c, .int .i64 (-x.n)] 45)).heap.size) := hmkX.out y1 C c hb1.out hC.out; clear hrw hnl hnw hbl)
        first | (go_wp2_with fail) | skip
        refine hK.out _ _ ?_ (fun hHeld => ?_)
        · (try dsimp only); (first | with_reducible exact hKeep.out _ hbd | with_reducible exact hKeep.out _ hb1.out | with_reducible exact hKeep.out _ hb2.out | with_reducible exact hk3.out)
        clear hK K
        try simp only [Act.put, List.setIfInBounds_toArray, List.set_cons_zero, List.set_cons_succ]
        refine wpAnyH_take (i := 7) (oi := ?oi8) (v := ?v8) ?hop8 ?hs8 ?hf8 ?hr8 ?hQ8 ?hy8 (by assumption) ?rest8
        case hop8 => (simp only [List.getElem?_toArray, List.getElem?_cons_zero, List.getElem?_cons_succ]; rfl)
        case hs8 => kernel_rfl
        case hf8 => kernel_rfl
        case hr8 => kernel_rfl
        case hQ8 => exact fun _ _ _ h => h
        case hy8 => (refine Or.inl ⟨by rfl, ?_⟩; intro w hSw; (try dsimp only at hSw); go_simp <;> with_reducible rfl)
        try simp only [Act.put, List.setIfInBounds_toArray, List.set_cons_zero, List.set_cons_succ]
        refine wpAnyH_ready (rs := [8]) (by kernel_rfl) (by simp) ?_
        refine AllReadyH.cons (o := ?oi9) ?hop9 (fun K hK => ?step9) ?more9
        case hop9 => (simp only [List.getElem?_toArray, List.getElem?_cons_zero, List.getElem?_cons_succ]; rfl)
        case more9 => exact AllReadyH.nil
        go_simp
        refine hK.out _ _ ?_ (fun hHeld => ?_)
        · (try dsimp only); (first | with_reducible exact hKeep.out _ hbd | with_reducible exact hKeep.out _ hb1.out | with_reducible exact hKeep.out _ hb2.out | with_reducible exact hk3.out)
        clear hK K
        try simp only [Act.put, List.setIfInBounds_toArray, List.set_cons_zero, List.set_cons_succ]
        refine wpAnyH_ready (rs := [9]) (by kernel_rfl) (by simp) ?_
        refine AllReadyH.cons (o := ?oi10) ?hop10 (fun K hK => ?step10) ?more10
        case hop10 => (simp only [List.getElem?_toArray, List.getElem?_cons_zero, List.getElem?_cons_succ]; rfl)
        case more10 => exact AllReadyH.nil
        (refine step_append_t _ rfl (.tmp 19) (.tmp 27) rfl w1.heap.size u5 L ⟨C, c, x.r, -x.n⟩ ⟨y1.heap.size, 0, none⟩ 1 rfl rfl hoX.out.1 (rowNewT rfl ⟨C, c, x.r, -x.n⟩ 45) hoX.out.2.1 hoX.out.2.2.1.1 hoX.out.2.2.1.2 hoX.out.2.2.2 ?_; intro v2 w3 hown3 hb3 hgb3; have hk3 : Hid (w3.cell? ⟨wr.heap.size, 0, none⟩ = some (.slice x.p x.r.length x.c) ∧ w3.cell? ⟨wr.heap.size, 1, none⟩ = some (.int .i64 x.n)) := hmk3.out y1 C c w3 hb2.out hgb3; have hownF : Hid (OwnT w3 w1.heap.size v2 (L ++ [⟨C, c, x.r, -x.n⟩]) ∧ Below w1.heap.size w1 w3) := ⟨hown3, hovH.out.2.trans ((hgX.out.below.trans (hb2.out.mono hgX.out.size)).mono hszX.out.1 |>.trans hb3)⟩; have hrmF : Hid (RoomL w3 (L ++ [⟨C, c, x.r, -x.n⟩])) := (hrmY.out.below ((Gr.refl y1).alloc _).below).grown hgb3 (hoX.out.1.own.typed (by decide)); clear hown3 hb3 hgb3)
        refine hK.out _ _ ?_ (fun hHeld => ?_)
        · (try dsimp only); (first | with_reducible exact hKeep.out _ hbd | with_reducible exact hKeep.out _ hb1.out | with_reducible exact hKeep.out _ hb2.out | with_reducible exact hk3.out)
        clear hK K
        try simp only [Act.put, List.setIfInBounds_toArray, List.set_cons_zero, List.set_cons_succ]
        refine wpAnyH_take (i := 10) (oi := ?oi11) (v := ?v11) ?hop11 ?hs11 ?hf11 ?hr11 ?hQ11 ?hy11 (by assumption) ?rest11
        case hop11 => (simp only [List.getElem?_toArray, List.getElem?_cons_zero, List.getElem?_cons_succ]; rfl)
        case hs11 => kernel_rfl
        case hf11 => kernel_rfl
        case hr11 => kernel_rfl
        case hQ11 => exact fun _ _ _ h => h
        case hy11 => (refine Or.inl ⟨by rfl, ?_⟩; intro w hSw; (try dsimp only at hSw); go_simp <;> with_reducible rfl)
        try simp only [Act.put, List.setIfInBounds_toArray, List.set_cons_zero, List.set_cons_succ]
        refine wpAnyH_done (by kernel_rfl) ?_ _
        refine NoPanic.normal ?_
        go_wp2
        go_roundw
        case rel =>
          refine ⟨k + 1, L ++ [⟨C, c, x.r, -x.n⟩], by omega, by go_num, ?_, ?_, hownF.out.1, hownF.out.2, hrmF⟩
          · show _ = _; simp [hLk.out]
          · show _ = _; rw [hst.out, List.map_append, hLz.out]; rfl
        case measure => simp [intOf]; omega
      · have hltz : ¬ (k : Int) < (l.length : Int) := by omega
        have hke : l.take k = l := List.take_of_length_le (by omega)
        have hfin : Hid (L.map Itm.z = negL (l.map Itm.z)) := by
          show _ = _
          unfold negL
          rw [hLz.out, hke, if_pos h0H.out, List.map_map]
          rfl
        obtain ⟨A2, cap2, hv2, hn2, hit, hnw2⟩ := hov.items
        have hNw : Hid (NwT wr cap2 w.heap.size A2 L) := ⟨⟨fun a ha => Nat.le_trans hg1.size (hnw2 a ha).1, fun x hx a ha => Nat.le_trans hg1.size ((hov.each x hx).own a ha).1⟩, by have := hov.own; rw [hv2] at this; exact this.roomA, hrm.out⟩
        have hfin2 : Hid (Items wr A2 L ∧ NilC A2 L.length cap2 ∧ Below w.heap.size w wr) := ⟨hit, hn2, hg1.below.trans (hbel.mono hg1.size)⟩
        subst hv2
        clear hke hit hn2 hov hbel hnw2
        go_wp2
        go_ret2
        exact ⟨L, A2, cap2, by rw [h0H.out]; rfl, hfin.out, hfin2.out.1, hfin2.out.2.1, hfin2.out.2.2, hNw.out⟩
  · have hfin : Hid (negL (l.map Itm.z) = []) := by
      have : E ≠ 0 := by simpa using hq
      show _ = _
      unfold negL; rw [hEH.out, if_neg this]
    go_wp2
    go_ret2
    exact ⟨[], none, 0, by rw [hEH.out]; rfl, by rw [hfin.out]; rfl, ⟨Or.inl rfl, fun x hx => by cases hx⟩, fun _ => rfl, hg1.below, NwT.none _ _⟩

theorem neg_any (l : List Itm) (A : Option Addr) (cap : Nat) (w : World) (hl : l.length ≤ maxLen) (hr : Items w A l) :
    Calls Try.prog 9 #[.slice A l.length cap] w fun e w' => ∃ (L : List Itm) (C : Option Addr) (c : Nat), e = .returned (.tuple #[.slice C L.length c, .int .i64 (errZ (l.map Itm.z))]) ∧ L.map Itm.z = negL (l.map Itm.z) ∧ Items w' C L ∧ NilC C L.length c ∧ Below w.heap.size w w' :=
  (neg_new l A cap w hl hr).mono fun _ _ ⟨L, C, c, h1, h2, h3, h4, h5, _⟩ => ⟨L, C, c, h1, h2, h3, h4, h5⟩

end Go.Proofs.Ytgmdjioobidadaa

namespace Go.Proofs.Ytgmdjioobidadaa

/-- One more item. -/
def insZ (x : Zit) : List Zit → List Zit
  | [] => if x.2 = 0 then [] else [x]
  | y :: t => if cmpL x.1 y.1 < 0 then (if x.2 = 0 then y :: t else x :: y :: t) else if cmpL x.1 y.1 = 0 then (if x.2 + y.2 = 0 then t else (y.1, x.2 + y.2) :: t) else y :: insZ x t
/-- The set of a list. -/
def totL : List Zit → List Zit
  | [] => []
  | x :: t => insZ x (totL t)
theorem insZ_mem {x : Zit} : ∀ {S : List Zit} {z : Zit}, z ∈ insZ x S → z.1 = x.1 ∨ ∃ y ∈ S, z.1 = y.1
  | [], z, h => by
    unfold insZ at h
    by_cases e : x.2 = 0
    · rw [if_pos e] at h; cases h
    · rw [if_neg e] at h; exact Or.inl (by rw [List.mem_singleton.1 h])
  | y :: t, z, h => by
    unfold insZ at h
    by_cases h1 : cmpL x.1 y.1 < 0
    · rw [if_pos h1] at h
      by_cases e : x.2 = 0
      · rw [if_pos e] at h; exact Or.inr ⟨z, h, rfl⟩
      · rw [if_neg e] at h
        rcases List.mem_cons.1 h with k | k
        · exact Or.inl (by rw [k])
        · exact Or.inr ⟨z, k, rfl⟩
    · rw [if_neg h1] at h
      by_cases h2 : cmpL x.1 y.1 = 0
      · rw [if_pos h2] at h
        by_cases e : x.2 + y.2 = 0
        · rw [if_pos e] at h; exact Or.inr ⟨z, List.mem_cons_of_mem _ h, rfl⟩
        · rw [if_neg e] at h
          rcases List.mem_cons.1 h with k | k
          · exact Or.inr ⟨y, List.mem_cons_self .., by rw [k]⟩
          · exact Or.inr ⟨z, List.mem_cons_of_mem _ k, rfl⟩
      · rw [if_neg h2] at h
        rcases List.mem_cons.1 h with k | k
        · exact Or.inr ⟨y, List.mem_cons_self .., by rw [k]⟩
        · rcases insZ_mem k with k | ⟨u, hu, k⟩
          · exact Or.inl k
          · exact Or.inr ⟨u, List.mem_cons_of_mem _ hu, k⟩
theorem insZ_rise {x : Zit} : ∀ {S : List Zit}, Rise S → Rise (insZ x S)
  | [], _ => by
    unfold insZ
    by_cases e : x.2 = 0
    · rw [if_pos e]; exact List.Pairwise.nil
    · rw [if_neg e]; exact List.pairwise_singleton _ _
  | y :: t, h => by
    have h' := List.pairwise_cons.1 h
    unfold insZ
    by_cases h1 : cmpL x.1 y.1 < 0
    · rw [if_pos h1]
      by_cases e : x.2 = 0
      · rw [if_pos e]; exact h
      · rw [if_neg e]
        refine List.pairwise_cons.2 ⟨fun z hz => ?_, h⟩
        rcases List.mem_cons.1 hz with k | k
        · rw [k]; exact h1
        · exact cmpL_lt_trans h1 (h'.1 z k)
    · rw [if_neg h1]
      by_cases h2 : cmpL x.1 y.1 = 0
      · rw [if_pos h2]
        by_cases e : x.2 + y.2 = 0
        · rw [if_pos e]; exact h'.2
        · rw [if_neg e]; exact List.pairwise_cons.2 ⟨fun z hz => h'.1 z hz, h'.2⟩
      · rw [if_neg h2]
        refine List.pairwise_cons.2 ⟨fun z hz => ?_, insZ_rise h'.2⟩
        rcases insZ_mem hz with k | ⟨u, hu, k⟩
        · rw [k]; have := cmpL_flip x.1 y.1; omega
        · rw [k]; exact h'.1 u hu
theorem insZ_noz {x : Zit} : ∀ {S : List Zit}, NoZ S → NoZ (insZ x S)
  | [], _ => by
    unfold insZ
    by_cases e : x.2 = 0
    · rw [if_pos e]; exact fun z hz => absurd hz (by simp)
    · rw [if_neg e]; intro z hz; rw [List.mem_singleton.1 hz]; exact e
  | y :: t, h => by
    have ht : NoZ t := fun z hz => h z (List.mem_cons_of_mem _ hz)
    unfold insZ
    by_cases h1 : cmpL x.1 y.1 < 0
    · rw [if_pos h1]
      by_cases e : x.2 = 0
      · rw [if_pos e]; exact h
      · rw [if_neg e]
        intro z hz
        rcases List.mem_cons.1 hz with k | k
        · rw [k]; exact e
        · exact h z k
    · rw [if_neg h1]
      by_cases h2 : cmpL x.1 y.1 = 0
      · rw [if_pos h2]
        by_cases e : x.2 + y.2 = 0
        · rw [if_pos e]; exact ht
        · rw [if_neg e]
          intro z hz
          rcases List.mem_cons.1 hz with k | k
          · rw [k]; exact e
          · exact ht z k
      · rw [if_neg h2]
        intro z hz
        rcases List.mem_cons.1 hz with k | k
        · rw [k]; exact h y (List.mem_cons_self ..)
        · exact insZ_noz ht z k
theorem insZ_wt {x : Zit} (r : List Int) : ∀ {S : List Zit}, wt (insZ x S) r = (if x.1 = r then x.2 else 0) + wt S r
  | [] => by
    unfold insZ
    by_cases e : x.2 = 0
    · rw [if_pos e, e]; simp [wt]
    · rw [if_neg e]; simp only [wt]
  | y :: t => by
    unfold insZ
    by_cases h1 : cmpL x.1 y.1 < 0
    · rw [if_pos h1]
      by_cases e : x.2 = 0
      · rw [if_pos e, e]; simp
      · rw [if_neg e]; simp only [wt]
    · rw [if_neg h1]
      by_cases h2 : cmpL x.1 y.1 = 0
      · rw [if_pos h2]
        have e1 := cmpL_eq _ _ h2
        by_cases e : x.2 + y.2 = 0
        · rw [if_pos e]
          simp only [wt]
          rw [e1]
          by_cases k : y.1 = r
          · rw [if_pos k, if_pos k]; omega
          · rw [if_neg k, if_neg k]; omega
        · rw [if_neg e]
          simp only [wt]
          rw [e1]
          by_cases k : y.1 = r
          · rw [if_pos k, if_pos k, if_pos k]; omega
          · rw [if_neg k, if_neg k, if_neg k]; omega
      · rw [if_neg h2]
        simp only [wt]
        rw [insZ_wt r]; omega
theorem totL_is : ∀ l : List Zit, IsTot l (totL l)
  | [] => ⟨List.Pairwise.nil, fun z hz => absurd hz (by simp [totL]), fun r => rfl⟩
  | x :: t => by
    have h := totL_is t
    exact ⟨insZ_rise h.rise, insZ_noz h.noz, fun r => by show wt (insZ x (totL t)) r = wt (x :: t) r; rw [insZ_wt, h.same]; rfl⟩
theorem IsTot.eq {l S : List Zit} (h : IsTot l S) : S = totL l := h.uniq (totL_is l) fun _ => rfl
/-- What total answers. -/
def totE (l : List Zit) : Int := if (totL l).all (fun x => okW x.2) then 0 else 5
/-- The set that total tells. -/
def totR (l : List Zit) : List Zit := if totE l = 0 then totL l else []
theorem totR_bad {l : List Zit} (h : totE l = 5) : totR l = [] := by unfold totR; rw [h]; rfl
theorem totR_ok {l : List Zit} (h : totE l = 0) : totR l = totL l := by unfold totR; rw [if_pos h]
theorem totE_bad (l : List Zit) : totE l = 5 ↔ BadT l := by
  unfold totE
  constructor
  · intro h
    by_cases e : (totL l).all (fun x => okW x.2) = true
    · rw [if_pos e] at h; cases h
    · simp only [List.all_eq_true, Classical.not_forall] at e
      obtain ⟨x, hx, hw⟩ := e
      exact ⟨x.1, by rw [← (totL_is l).same, (totL_is l).rise.wt hx]; simpa using hw⟩
  · rintro ⟨r, hr⟩
    rw [if_neg]
    intro h
    have h0 : wt l r ≠ 0 := fun e => by rw [e] at hr; exact absurd hr (by decide)
    rw [← (totL_is l).same] at h0 hr
    obtain ⟨x, hx, rfl⟩ := wt_some h0
    rw [(totL_is l).rise.wt hx] at hr
    have := List.all_eq_true.1 h x hx
    rw [hr] at this; cases this
theorem totE_ok {l : List Zit} (h : ¬ BadT l) : totE l = 0 := by
  by_cases e : totE l = 5
  · exact absurd ((totE_bad l).1 e) h
  · unfold totE at e ⊢
    by_cases k : (totL l).all (fun x => okW x.2) = true
    · rw [if_pos k]
    · rw [if_neg k] at e; exact absurd rfl e
theorem totE_zero {l : List Zit} (h : totE l = 0) : ¬ BadT l := fun k => by rw [(totE_bad l).2 k] at h; cases h
/-- What Norm answers. -/
def normE (l : List Zit) : Int := if 400 < l.length then 2 else if l.all (fun x => okR x.1 && okW x.2) then totE l else 5
def normL (l : List Zit) : List Zit := if normE l = 0 then totL l else []
/-- What Add answers. -/
def addE (a b : List Zit) : Int := if errZ a = 0 then (if errZ b = 0 then (if totE (a ++ b) = 0 then (if 400 < (totL (a ++ b)).length then 2 else 0) else totE (a ++ b)) else errZ b) else errZ a
def addL (a b : List Zit) : List Zit := if addE a b = 0 then totL (a ++ b) else []
theorem totL_same {l m : List Zit} (h : ∀ r, wt l r = wt m r) : totL l = totL m := (totL_is l).uniq (totL_is m) h
theorem totE_same {l m : List Zit} (h : ∀ r, wt l r = wt m r) : totE l = totE m := by unfold totE; rw [totL_same h]

end Go.Proofs.Ytgmdjioobidadaa
