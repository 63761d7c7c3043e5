/-
  viewref.Made, Norm, Add, Minus.
  viewref.Minus: a list with its N turned.
-/
import Derived.Test.YtnkpfhipgcmplaaGreatDoorM32
import Derived.Test.YtnkpfhipgcmplaaGreatDoorM30
import Derived.Deep.RegionHeld3
namespace Go.Proofs.YtnkpfhipgcmplaaGreatDoor
open Go.RowKit Go.Sort Go.Maps

/-- Is an item right but for nought? -/
def okJ (x : Itm) : Bool := okR x.r && okW x.n
theorem madE_bad {m : List Zit} {L : List Itm} (hL : L.map Itm.z = totL m) {k : Nat} (hk : k < L.length) (h : okJ L[k] = false) : madE m = 5 ∧ madL m = [] := by
  have e : madE m = 5 := by
    unfold madE
    rw [if_neg]
    intro ha
    rw [← hL] at ha
    have := List.all_eq_true.1 ha L[k].z (List.mem_map.2 ⟨L[k], List.getElem_mem hk, rfl⟩)
    have h2 : okJ L[k] = true := this
    rw [h] at h2; cases h2
  exact ⟨e, by unfold madL; rw [e]; rfl⟩
theorem madE_good {m : List Zit} {L : List Itm} (hL : L.map Itm.z = totL m) (h : ∀ k (hk : k < L.length), okJ L[k] = true) : madE m = (if 400 < L.length then 2 else 0) ∧ (¬ 400 < L.length → madL m = L.map Itm.z) ∧ (400 < L.length → madL m = []) := by
  have hlen : (totL m).length = L.length := by rw [← hL, List.length_map]
  have e : madE m = if 400 < L.length then 2 else 0 := by
    unfold madE
    rw [if_pos, hlen]
    rw [← hL, List.all_eq_true]
    intro x hx
    obtain ⟨y, hy, rfl⟩ := List.mem_map.1 hx
    obtain ⟨k, hk, rfl⟩ := List.mem_iff_getElem.1 hy
    exact h k hk
  refine ⟨e, fun h4 => ?_, fun h4 => ?_⟩
  · unfold madL
    rw [e, if_neg h4, if_pos rfl, hL]
  · unfold madL
    rw [e, if_pos h4]; rfl

set_option maxRecDepth 100000 in
set_option maxHeartbeats 2000000 in
theorem rmade_any (l : List Itm) (A : Option Addr) (c : Nat) (w : World) (hl : Wd l) (hr : Items w A l) (ht : Tens w) :
    Calls Tryz.prog 36 #[.slice A l.length c] w fun e w' => ∃ (L : List Itm) (C : Option Addr) (k : Nat), e = .returned (.tuple #[.slice C L.length k, .int .i64 (madE (l.map Itm.z))]) ∧ L.map Itm.z = madL (l.map Itm.z) ∧ Lv w' C k L ∧ Below w.heap.size w w' ∧ NewT w.heap.size C L := by
  have hT0 := rtot_any l A c w hl hr ht
  have hT : Hid _ := hT0
  have hlen := hl.len
  clear hT0 hl hr ht
  go_enter Tryz.func36, Tryz.ntmps36
  go_wp2_with fail
  refine Calls.mono (show Calls _ _ _ _ _ from hT.out) ?_
  rintro e w1 ⟨L, C, ck, rfl, t1, t2, t3, t4, t5⟩
  have hH : Hid (L.map Itm.z = totL (l.map Itm.z) ∧ Items w1 C L ∧ NilC C L.length ck ∧ Below w.heap.size w w1 ∧ NewT w.heap.size C L) := ⟨t1, t2, t3, t4, t5⟩
  have hLl : L.length ≤ 400000 := by
    have h1 := totL_len (l.map Itm.z)
    rw [← t1] at h1
    simp at h1
    omega
  clear hT t1 t2 t3 t4 t5
  go_wp2
  go_loopw [4] (fun i wr => ∃ k : Nat, k ≤ L.length ∧ i = .int .i64 k ∧ Hid ((∀ j (h : j < L.length), j < k → okJ L[j] = true) ∧ Gr w1 wr)) (fun i _ => L.length - (intOf i).toNat)
  case atStart => exact ⟨0, Nat.zero_le _, rfl, fun j _ h => by omega, Gr.refl _⟩
  case round =>
    obtain ⟨k, hk, rfl, hR⟩ := hrel
    by_cases hlt : k < L.length
    · have hltz : (k : Int) < (L.length : Int) := by omega
      have hI : Hid (Items wr C L) := hH.out.2.1.gr hR.out.2
      obtain ⟨bb, off, rfl, hb, hcs⟩ := hI.out.at hlt
      obtain ⟨x, hx⟩ : ∃ x, L[k] = x := ⟨_, rfl⟩
      obtain ⟨e0, e1⟩ := hcs k hlt
      rw [hx] at e0 e1
      have hxe := hI.out.each x (by rw [← hx]; exact List.getElem_mem hlt)
      obtain ⟨B1, hB1⟩ : ∃ B, okR x.r = B := ⟨_, rfl⟩
      obtain ⟨B2, hB2⟩ : ∃ B, okW x.n = B := ⟨_, rfl⟩
      have hC0 := rrow_any x.r x.p x.c wr hxe.2.1 hxe.1
      rw [hB1] at hC0
      have hC : Hid _ := hC0
      have hbadH : Hid ((B1 && B2) = false → madE (l.map Itm.z) = 5 ∧ madL (l.map Itm.z) = []) := fun h => madE_bad hH.out.1 hlt (by rw [hx]; unfold okJ; rw [hB1, hB2]; exact h)
      have hgoodH : Hid ((B1 && B2) = true → ∀ j (h : j < L.length), j < k + 1 → okJ L[j] = true) := fun h j hj hjk => by
        by_cases e : j = k
        · subst e; rw [hx]; unfold okJ; rw [hB1, hB2]; exact h
        · exact hR.out.1 j hj (by omega)
      have hI2 : Hid (∀ W, Calls Tryz.prog 35 #[.int .i64 x.n, .int .i64 (-1048576), .int .i64 1048576] W fun e w' => e = .returned (.bool B2) ∧ w' = W) := fun W => inR_any hB2 W
      clear hC0 hcs hx hxe hB1 hB2
      go_wp2_with fail
      refine Calls.mono (show Calls _ _ _ _ _ from hC.out) ?_
      rintro e w2 ⟨rfl, hg2⟩
      have g1 : w2.cell? ⟨bb, off + k * 2 + 1, none⟩ = some (.int .i64 x.n) := (hg2.cell (p := ⟨bb, off + k * 2 + 1, none⟩) hb).trans e1
      have hg2H : Hid (Gr w1 w2) := hR.out.2.trans hg2
      clear hC hg2
      cases B1
      · have hfin : Hid (madE (l.map Itm.z) = 5 ∧ madL (l.map Itm.z) = []) := hbadH.out rfl
        go_wp2
        go_ret2
        exact ⟨[], none, 0, by rw [hfin.out.1]; rfl, by rw [hfin.out.2]; rfl, ⟨⟨Or.inl rfl, fun x hx => (by cases hx)⟩, fun _ => rfl, Nat.zero_le _⟩, hH.out.2.2.2.1.trans (hg2H.out.below.mono hH.out.2.2.2.1.size), NewT.none _⟩
      · cases B2
        · have hfin : Hid (madE (l.map Itm.z) = 5 ∧ madL (l.map Itm.z) = []) := hbadH.out rfl
          go_wp2_with (go_at_call 35; (refine Calls.mono (hI2.out _) ?_); rintro e w' ⟨rfl, hw'⟩; subst w')
          go_ret2
          exact ⟨[], none, 0, by rw [hfin.out.1]; rfl, by rw [hfin.out.2]; rfl, ⟨⟨Or.inl rfl, fun x hx => (by cases hx)⟩, fun _ => rfl, Nat.zero_le _⟩, hH.out.2.2.2.1.trans (hg2H.out.below.mono hH.out.2.2.2.1.size), NewT.none _⟩
        · have hfin : Hid ((∀ j (h : j < L.length), j < k + 1 → okJ L[j] = true) ∧ Gr w1 w2) := ⟨hgoodH.out rfl, hg2H.out⟩
          go_wp2_with (go_at_call 35; (refine Calls.mono (hI2.out _) ?_); rintro e w' ⟨rfl, hw'⟩; subst w')
          go_roundw
          case rel => exact ⟨k + 1, by omega, by go_num, hfin⟩
          case measure => simp [intOf]; omega
    · have hltz : ¬ (k : Int) < (L.length : Int) := by omega
      obtain ⟨m1, m2, m3⟩ := madE_good hH.out.1 (fun j hj => hR.out.1 j hj (by omega))
      have hB : Hid (Below w.heap.size w wr) := hH.out.2.2.2.1.trans (hR.out.2.below.mono hH.out.2.2.2.1.size)
      by_cases h4 : 400 < L.length
      · have h4z : (400 : Int) < (L.length : Int) := by omega
        have hfin : Hid (madE (l.map Itm.z) = 2 ∧ madL (l.map Itm.z) = []) := ⟨by rw [m1, if_pos h4], m3 h4⟩
        clear m1 m2 m3
        go_wp2
        go_ret2
        exact ⟨[], none, 0, by rw [hfin.out.1]; rfl, by rw [hfin.out.2]; rfl, ⟨⟨Or.inl rfl, fun x hx => (by cases hx)⟩, fun _ => rfl, Nat.zero_le _⟩, hB.out, NewT.none _⟩
      · have h4z : ¬ (400 : Int) < (L.length : Int) := by omega
        have hfin : Hid (madE (l.map Itm.z) = 0 ∧ madL (l.map Itm.z) = L.map Itm.z) := ⟨by rw [m1, if_neg h4], m2 h4⟩
        clear m1 m2 m3
        go_wp2
        go_ret2
        exact ⟨L, C, ck, by rw [hfin.out.1]; rfl, hfin.out.2.symm, ⟨hH.out.2.1.gr hR.out.2, hH.out.2.2.1, by unfold maxLen; omega⟩, hB.out, hH.out.2.2.2.2⟩

set_option maxRecDepth 100000 in
set_option maxHeartbeats 2000000 in
theorem rnorm_any (l : List Itm) (A : Option Addr) (c : Nat) (w : World) (h : Lv w A c l) (ht : Tens w) :
    Calls Tryz.prog 7 #[.slice A l.length c] w fun e w' => ∃ (L : List Itm) (C : Option Addr) (k : Nat), e = .returned (.tuple #[.slice C L.length k, .int .i64 (normE (l.map Itm.z))]) ∧ L.map Itm.z = normL (l.map Itm.z) ∧ Lv w' C k L ∧ Below w.heap.size w w' := by
  have hlm := h.len
  unfold maxLen at hlm
  have hH : Hid (Lv w A c l ∧ Tens w) := ⟨h, ht⟩
  clear h ht
  by_cases h4 : 400 < l.length
  · have e : Hid (normE (l.map Itm.z) = 2) := by show _ = _; unfold normE; rw [if_pos (by simpa using h4)]
    have e2 : Hid (normL (l.map Itm.z) = []) := normL_no (by rw [e.out]; decide)
    have h4z : (400 : Int) < (l.length : Int) := by omega
    go_enter Tryz.func7, Tryz.ntmps7
    go_wp2
    go_ret2
    exact ⟨[], none, 0, by rw [e.out]; rfl, by rw [e2.out]; rfl, ⟨⟨Or.inl rfl, fun x hx => (by cases hx)⟩, fun _ => rfl, Nat.zero_le _⟩, Below.refl _ _⟩
  have h4z : ¬ (400 : Int) < (l.length : Int) := by omega
  go_enter Tryz.func7, Tryz.ntmps7
  go_wp2
  go_loopw [4] (fun i wr => ∃ k : Nat, k ≤ l.length ∧ i = .int .i64 k ∧ Hid ((∀ j (h : j < l.length), j < k → okJ l[j] = true) ∧ Gr w wr)) (fun i _ => l.length - (intOf i).toNat)
  case atStart => exact ⟨0, Nat.zero_le _, rfl, fun j _ h => by omega, Gr.refl _⟩
  case round =>
    obtain ⟨k, hk, rfl, hR⟩ := hrel
    by_cases hlt : k < l.length
    · have hltz : (k : Int) < (l.length : Int) := by omega
      have hI : Hid (Items wr A l) := hH.out.1.items.gr hR.out.2
      obtain ⟨bb, off, rfl, hb, hcs⟩ := hI.out.at hlt
      obtain ⟨x, hx⟩ : ∃ x, l[k] = x := ⟨_, rfl⟩
      obtain ⟨e0, e1⟩ := hcs k hlt
      rw [hx] at e0 e1
      have hxe := hI.out.each x (by rw [← hx]; exact List.getElem_mem hlt)
      obtain ⟨B1, hB1⟩ : ∃ B, okR x.r = B := ⟨_, rfl⟩
      obtain ⟨B2, hB2⟩ : ∃ B, okW x.n = B := ⟨_, rfl⟩
      have hC0 := rrow_any x.r x.p x.c wr hxe.2.1 hxe.1
      rw [hB1] at hC0
      have hC : Hid _ := hC0
      have hbadH : Hid ((B1 && B2) = false → normE (l.map Itm.z) = 5 ∧ normL (l.map Itm.z) = []) := fun h => by
        have h5 := normE_form h4 hlt (by rw [hx, hB1, hB2]; exact h)
        exact ⟨h5, normL_no (by rw [h5]; decide)⟩
      have hgoodH : Hid ((B1 && B2) = true → ∀ j (h : j < l.length), j < k + 1 → okJ l[j] = true) := fun h j hj hjk => by
        by_cases e : j = k
        · subst e; rw [hx]; unfold okJ; rw [hB1, hB2]; exact h
        · exact hR.out.1 j hj (by omega)
      have hI2 : Hid (∀ W, Calls Tryz.prog 35 #[.int .i64 x.n, .int .i64 (-1048576), .int .i64 1048576] W fun e w' => e = .returned (.bool B2) ∧ w' = W) := fun W => inR_any hB2 W
      clear hC0 hcs hx hxe hB1 hB2
      go_wp2_with fail
      refine Calls.mono (show Calls _ _ _ _ _ from hC.out) ?_
      rintro e w2 ⟨rfl, hg2⟩
      have g1 : w2.cell? ⟨bb, off + k * 2 + 1, none⟩ = some (.int .i64 x.n) := (hg2.cell (p := ⟨bb, off + k * 2 + 1, none⟩) hb).trans e1
      have hg2H : Hid (Gr w w2) := hR.out.2.trans hg2
      clear hC hg2
      cases B1
      · have hfin : Hid (normE (l.map Itm.z) = 5 ∧ normL (l.map Itm.z) = []) := hbadH.out rfl
        go_wp2
        go_ret2
        exact ⟨[], none, 0, by rw [hfin.out.1]; rfl, by rw [hfin.out.2]; rfl, ⟨⟨Or.inl rfl, fun x hx => (by cases hx)⟩, fun _ => rfl, Nat.zero_le _⟩, hg2H.out.below⟩
      · cases B2
        · have hfin : Hid (normE (l.map Itm.z) = 5 ∧ normL (l.map Itm.z) = []) := hbadH.out rfl
          go_wp2_with (go_at_call 35; (refine Calls.mono (hI2.out _) ?_); rintro e w' ⟨rfl, hw'⟩; subst w')
          go_ret2
          exact ⟨[], none, 0, by rw [hfin.out.1]; rfl, by rw [hfin.out.2]; rfl, ⟨⟨Or.inl rfl, fun x hx => (by cases hx)⟩, fun _ => rfl, Nat.zero_le _⟩, hg2H.out.below⟩
        · have hfin : Hid ((∀ j (h : j < l.length), j < k + 1 → okJ l[j] = true) ∧ Gr w w2) := ⟨hgoodH.out rfl, hg2H.out⟩
          go_wp2_with (go_at_call 35; (refine Calls.mono (hI2.out _) ?_); rintro e w' ⟨rfl, hw'⟩; subst w')
          go_roundw
          case rel => exact ⟨k + 1, by omega, by go_num, hfin⟩
          case measure => simp [intOf]; omega
    · have hltz : ¬ (k : Int) < (l.length : Int) := by omega
      have hall : ∀ x ∈ l, okR x.r = true ∧ okW x.n = true := fun x hx => by
        obtain ⟨j, hj, rfl⟩ := List.mem_iff_getElem.1 hx
        have := hR.out.1 j hj (by omega)
        unfold okJ at this
        simpa using this
      have hnm := norm_made (m := l.map Itm.z) (by simpa using h4) (fun x hx => by
        obtain ⟨y, hy, rfl⟩ := List.mem_map.1 hx
        exact hall y hy)
      have hM0 := rmade_any l A c wr (wd_norm h4 hall) (hH.out.1.items.gr hR.out.2) (hH.out.2.gr hR.out.2)
      rw [← hnm.1, ← hnm.2] at hM0
      have hM : Hid _ := hM0
      clear hM0 hnm hall
      go_wp2_with fail
      refine Calls.mono (show Calls _ _ _ _ _ from hM.out) ?_
      rintro e w3 ⟨L, C, ck, rfl, t1, t2, t3, _⟩
      have hfin : Hid (L.map Itm.z = normL (l.map Itm.z) ∧ Lv w3 C ck L ∧ Below w.heap.size w w3) := ⟨t1, t2, hR.out.2.below.trans (t3.mono hR.out.2.size)⟩
      clear hM t1 t2 t3
      go_wp2
      go_ret2
      exact ⟨L, C, ck, rfl, hfin.out⟩

set_option maxRecDepth 100000 in
set_option maxHeartbeats 2000000 in
theorem radd_any (a b : List Itm) (A B : Option Addr) (ca cb : Nat) (w : World) (ha : Lv w A ca a) (hb : Lv w B cb b) (ht : Tens w) :
    Calls Tryz.prog 9 #[.slice A a.length ca, .slice B b.length cb] w fun e w' => ∃ (L : List Itm) (C : Option Addr) (k : Nat), e = .returned (.tuple #[.slice C L.length k, .int .i64 (addE (a.map Itm.z) (b.map Itm.z))]) ∧ L.map Itm.z = addL (a.map Itm.z) (b.map Itm.z) ∧ Lv w' C k L ∧ Below w.heap.size w w' := by
  obtain ⟨E, hE⟩ : ∃ E, errZ (a.map Itm.z) = E := ⟨_, rfl⟩
  obtain ⟨F, hF⟩ : ∃ F, errZ (b.map Itm.z) = F := ⟨_, rfl⟩
  have hC0 := rset_any a A ca w ha.len ha.items
  rw [hE] at hC0
  have hC : Hid _ := hC0
  have hH : Hid (Lv w A ca a ∧ Lv w B cb b ∧ Tens w ∧ errZ (a.map Itm.z) = E ∧ errZ (b.map Itm.z) = F) := ⟨ha, hb, ht, hE, hF⟩
  clear hC0 ha hb ht hE hF
  go_enter Tryz.func9, Tryz.ntmps9
  go_wp2_with fail
  refine Calls.mono (show Calls _ _ _ _ _ from hC.out) ?_
  rintro e w1 ⟨rfl, hg1⟩
  have hg1H : Hid (Gr w w1) := hg1
  clear hC hg1
  cases hq : (E != 0)
  rotate_left
  focus
    have hfin : Hid (addE (a.map Itm.z) (b.map Itm.z) = E ∧ addL (a.map Itm.z) (b.map Itm.z) = []) := by
      have := addE_a (b := b.map Itm.z) (show errZ (a.map Itm.z) ≠ 0 by rw [hH.out.2.2.2.1]; simpa using hq)
      rw [hH.out.2.2.2.1] at this
      exact this
    go_wp2
    go_ret2
    exact ⟨[], none, 0, by rw [hfin.out.1]; rfl, by rw [hfin.out.2]; rfl, ⟨⟨Or.inl rfl, fun x hx => (by cases hx)⟩, fun _ => rfl, Nat.zero_le _⟩, hg1H.out.below⟩
  have hE0 : Hid (errZ (a.map Itm.z) = 0) := by show _ = _; rw [hH.out.2.2.2.1]; simpa using hq
  have hC0 := rset_any b B cb w1 hH.out.2.1.len (hH.out.2.1.items.gr hg1H.out)
  rw [hH.out.2.2.2.2] at hC0
  have hC : Hid _ := hC0
  clear hC0
  go_wp2_with fail
  refine Calls.mono (show Calls _ _ _ _ _ from hC.out) ?_
  rintro e w2 ⟨rfl, hg2⟩
  have hg2H : Hid (Gr w w2) := hg1H.out.trans hg2
  clear hC hg2
  cases hq2 : (F != 0)
  rotate_left
  focus
    have hfin : Hid (addE (a.map Itm.z) (b.map Itm.z) = F ∧ addL (a.map Itm.z) (b.map Itm.z) = []) := by
      have := addE_b (b := b.map Itm.z) hE0.out (by rw [hH.out.2.2.2.2]; simpa using hq2)
      rw [hH.out.2.2.2.2] at this
      exact this
    go_wp2
    go_ret2
    exact ⟨[], none, 0, by rw [hfin.out.1]; rfl, by rw [hfin.out.2]; rfl, ⟨⟨Or.inl rfl, fun x hx => (by cases hx)⟩, fun _ => rfl, Nat.zero_le _⟩, hg2H.out.below⟩
  have hF0 : Hid (errZ (b.map Itm.z) = 0) := by show _ = _; rw [hH.out.2.2.2.2]; simpa using hq2
  have hal : a.length ≤ 400 := (errZ_okW hE0.out).1
  have hbl : b.length ≤ 400 := (errZ_okW hF0.out).1
  have hX : Hid (Lv w2 A ca a ∧ Lv w2 B cb b ∧ Tens w2) := ⟨hH.out.1.gr hg2H.out, hH.out.2.1.gr hg2H.out, hH.out.2.2.1.gr hg2H.out⟩
  have hap : Hid (RowG encT 2 w2 A a ∧ (A = none → ca = 0) ∧ ([] : List Itm).length + a.length ≤ maxLen ∧ (([] : List Itm).length + a.length) * 32 ≤ 140737488355328) := ⟨hX.out.1.items.row, hX.out.1.nil, by unfold maxLen; simp; omega, by simp; omega⟩
  have hap2 : Hid (∀ v6 w6, OwnG encT 2 66 w6 w2.heap.size v6 ([] ++ a) → w2.grownBy w6 (Value.slice none 0 0).ownBlock → RowG encT 2 w6 B b ∧ (B = none → cb = 0) ∧ ([] ++ a).length + b.length ≤ maxLen ∧ (([] ++ a).length + b.length) * 32 ≤ 140737488355328 ∧ w2.heap.size ≤ w6.heap.size) := fun v6 w6 _ hg => ⟨hX.out.2.1.items.row.below (below_none hg), hX.out.2.1.nil, by unfold maxLen; simp; omega, by simp; omega, (below_none hg).size⟩
  go_wp2_with (first | (at_builtin; refine wpList_append_ts _ rfl (.const (.slice none 0 0)) (.tmp 18) rfl w2.heap.size (.slice none 0 0) [] a A ca rfl rfl (OwnG.nil _ _ _ _ _) hap.out.1 hap.out.2.1 hap.out.2.2.1 hap.out.2.2.2 (Nat.le_refl _) ?_; intro v6 w6 hown6 hgr6; have hO6 : Hid (OwnG encT 2 66 w6 w2.heap.size v6 ([] ++ a) ∧ w2.grownBy w6 (Value.slice none 0 0).ownBlock) := ⟨hown6, hgr6⟩; clear hown6 hgr6) | (at_builtin; refine wpList_append_ts _ rfl (.tmp 19) (.tmp 20) rfl w2.heap.size v6 ([] ++ a) b B cb rfl rfl hO6.out.1 (hap2.out v6 w6 hO6.out.1 hO6.out.2).1 (hap2.out v6 w6 hO6.out.1 hO6.out.2).2.1 (hap2.out v6 w6 hO6.out.1 hO6.out.2).2.2.1 (hap2.out v6 w6 hO6.out.1 hO6.out.2).2.2.2.1 (hap2.out v6 w6 hO6.out.1 hO6.out.2).2.2.2.2 ?_; intro v7 w7 hown7 hgr7) | fail)
  obtain ⟨C7, c7, hv7, hC7, hrow7, _, _, _⟩ := OwnG.full encT_len hown7
  have hb57 : Below w2.heap.size w2 w7 := (below_none hO6.out.2).trans (OwnG.grown_below hO6.out.1 hgr7 (below_none hO6.out.2).size)
  rw [List.nil_append] at hrow7 hv7
  have hI7 : Items w7 C7 (a ++ b) := ⟨hrow7, fun x hx => by
    rcases List.mem_append.1 hx with k | k
    · exact (hX.out.1.below hb57).items.each x k
    · exact (hX.out.2.1.below hb57).items.each x k⟩
  have hM0 := rmade_any (a ++ b) C7 c7 w7 (wd_sets hE0.out hF0.out) hI7 (hX.out.2.2.below hb57)
  rw [List.map_append, ← (add_made hE0.out hF0.out).1, ← (add_made hE0.out hF0.out).2] at hM0
  have hM : Hid _ := hM0
  have hb7H : Hid (Below w.heap.size w w7) := hg2H.out.below.trans (hb57.mono hg2H.out.size)
  subst hv7
  clear hM0 hI7 hrow7 hC7 hb57 hown7 hgr7
  refine Calls.mono (show Calls _ _ _ _ _ from hM.out) ?_
  rintro e w8 ⟨L, C, ck, rfl, t1, t2, t3, _⟩
  have hfin : Hid (L.map Itm.z = addL (a.map Itm.z) (b.map Itm.z) ∧ Lv w8 C ck L ∧ Below w.heap.size w w8) := ⟨t1, t2, hb7H.out.trans (t3.mono hb7H.out.size)⟩
  clear hM t1 t2 t3
  go_wp2
  go_ret2
  exact ⟨L, C, ck, rfl, hfin.out⟩
end Go.Proofs.YtnkpfhipgcmplaaGreatDoor

namespace Go.Proofs.YtnkpfhipgcmplaaGreatDoor
open Go.RowKit Go.Sort Go.Maps

theorem neg_take {l : List Itm} {k : Nat} (h : k < l.length) : negP ((l.take (k + 1)).map Itm.z) = negP ((l.take k).map Itm.z) ++ [(l[k].r, -l[k].n)] := by
  unfold negP
  rw [List.take_succ_eq_append_getElem h, List.map_append, List.map_append]
  rfl
set_option maxRecDepth 100000 in
set_option maxHeartbeats 2000000 in
theorem rminus_any (l : List Itm) (A : Option Addr) (c : Nat) (w : World) (hl : l.length ≤ 400) (hw : ∀ x ∈ l, okW x.n = true) (hr : Items w A l) :
    Calls Tryz.prog 12 #[.slice A l.length c] w fun e w' => ∃ (L : List Itm) (C : Option Addr) (k : Nat), e = .returned (.slice C L.length k) ∧ L.map Itm.z = negP (l.map Itm.z) ∧ Lv w' C k L ∧ Below w.heap.size w w' := by
  have mixed : Tryz.prog.follows .mixedOrders = true := by kernel_rfl
  have hrH : Hid (Items w A l ∧ ∀ x ∈ l, okW x.n = true) := ⟨hr, hw⟩
  clear hr hw
  go_enter Tryz.func12, Tryz.ntmps12
  go_wp2
  go_loopw [3, 4] (fun u i wr => ∃ (k : Nat) (L : List Itm), k ≤ l.length ∧ i = .int .i64 k ∧ Hid (L.length = k ∧ L.map Itm.z = negP ((l.take k).map Itm.z) ∧ (∀ y ∈ L, ∃ x ∈ l, y = ⟨x.p, x.c, x.r, -x.n⟩) ∧ OwnG encT 2 66 wr w.heap.size u L ∧ Below w.heap.size w wr)) (fun _ i _ => l.length - (intOf i).toNat)
  case atStart => exact ⟨0, [], Nat.zero_le _, rfl, rfl, rfl, fun x hx => (by cases hx), OwnG.nil _ _ _ _ _, Below.refl _ _⟩
  case round =>
    obtain ⟨k, L, hk, rfl, hR⟩ := hrel
    by_cases hlt : k < l.length
    · have hltz : (k : Int) < (l.length : Int) := by omega
      have hI : Hid (Items wr A l) := hrH.out.1.below hR.out.2.2.2.2
      obtain ⟨bb, off, rfl, hb, hcs⟩ := hI.out.at hlt
      obtain ⟨x, hx⟩ : ∃ x, l[k] = x := ⟨_, rfl⟩
      obtain ⟨e0, e1⟩ := hcs k hlt
      rw [hx] at e0 e1
      have hst : Hid (negP ((l.take (k + 1)).map Itm.z) = negP ((l.take k).map Itm.z) ++ [(x.r, -x.n)]) := by show _ = _; rw [neg_take hlt, hx]
      have hxm : x ∈ l := by rw [← hx]; exact List.getElem_mem hlt
      have hxH : Hid (x ∈ l) := hxm
      have hxw := hrH.out.2 x hxm
      have hwr : wrap64 (-x.n) = -x.n := by
        simp only [okW, inB, Bool.and_eq_true, decide_eq_true_eq] at hxw
        unfold wrap64; omega
      have hwr2 : IntKind.i64.wrap (-x.n) = -x.n := by
        simp only [okW, inB, Bool.and_eq_true, decide_eq_true_eq] at hxw
        rw [IntKind.wrap_i64]; omega
      clear hcs hx hxm hxw
      have hgD : Hid (Gr wr wr.drew) := (Gr.refl _).drew
      have hKeep : Hid (∀ W', Gr wr W' → (fun w' => w'.cell? ⟨bb, off + k * 2, none⟩ = some (.slice x.p x.r.length x.c) ∧ w'.cell? ⟨bb, off + k * 2 + 1, none⟩ = some (.int .i64 x.n)) W') := fun W' h => ⟨(h.cell (p := ⟨bb, off + k * 2, none⟩) hb).trans e0, (h.cell (p := ⟨bb, off + k * 2 + 1, none⟩) hb).trans e1⟩
      have hoX : Hid (OwnG encT 2 66 (wr.drew.alloc (.cells #[.slice x.p x.r.length x.c, .int .i64 (-x.n)] 66)) w.heap.size u3 L ∧ RowG encT 2 (wr.drew.alloc (.cells #[.slice x.p x.r.length x.c, .int .i64 (-x.n)] 66)) (some ⟨wr.drew.heap.size, 0, none⟩) [(⟨x.p, x.c, x.r, -x.n⟩ : Itm)] ∧ L.length + 1 ≤ maxLen ∧ (L.length + 1) * 32 ≤ 140737488355328 ∧ Below w.heap.size w (wr.drew.alloc (.cells #[.slice x.p x.r.length x.c, .int .i64 (-x.n)] 66))) := by
        have hLk := hR.out.1
        have hg : Gr wr (wr.drew.alloc (.cells #[.slice x.p x.r.length x.c, .int .i64 (-x.n)] 66)) := hgD.out.alloc _
        exact ⟨hR.out.2.2.2.1.gr hg, rowNewT rfl (⟨x.p, x.c, x.r, -x.n⟩ : Itm) _, by unfold maxLen; omega, by omega, hR.out.2.2.2.2.trans (hg.below.mono hR.out.2.2.2.2.size)⟩
      have hKeep2 : Hid (∀ W', (wr.drew.alloc (.cells #[.slice x.p x.r.length x.c, .int .i64 (-x.n)] 66)).grownBy W' u3.ownBlock → (fun w' => w'.cell? ⟨bb, off + k * 2, none⟩ = some (.slice x.p x.r.length x.c) ∧ w'.cell? ⟨bb, off + k * 2 + 1, none⟩ = some (.int .i64 x.n)) W') := fun W' h => by
        have hb2 : Below w.heap.size w W' := hoX.out.2.2.2.2.trans (hoX.out.1.grown_below h hoX.out.2.2.2.2.size)
        obtain ⟨b0, o0, h0, hlt0, hc0⟩ := hrH.out.1.at hlt
        cases h0
        have h1 := hb2.cell (p := ⟨bb, off + k * 2, none⟩) hlt0
        have h2 := hR.out.2.2.2.2.cell (p := ⟨bb, off + k * 2, none⟩) hlt0
        have h3 := hb2.cell (p := ⟨bb, off + k * 2 + 1, none⟩) hlt0
        have h4 := hR.out.2.2.2.2.cell (p := ⟨bb, off + k * 2 + 1, none⟩) hlt0
        exact ⟨(h1.trans h2.symm).trans e0, (h3.trans h4.symm).trans e1⟩
      go_wp2
      refine wp_region_noPanic ?_
      refine wp_region_held_drew (S := (fun w' => w'.cell? ⟨bb, off + k * 2, none⟩ = some (.slice x.p x.r.length x.c) ∧ w'.cell? ⟨bb, off + k * 2 + 1, none⟩ = some (.int .i64 x.n))) (by kernel_rfl) (hKeep.out _ hgD.out) (fun hHeld => ?_)
      refine wpAnyH_take (i := 0) (oi := ?ois1) (v := ?vs1) ?hops1 ?hss1 ?hfs1 ?hrs1 ?hQs1 ?hys1 (by assumption) ?rests1
      case hops1 => (simp only [List.getElem?_toArray, List.getElem?_cons_zero]; rfl)
      case hss1 => kernel_rfl
      case hfs1 => kernel_rfl
      case hrs1 => kernel_rfl
      case hQs1 => exact fun _ _ _ h => h
      case hys1 => (refine Or.inl ⟨by rfl, ?_⟩; intro w hSw; (try dsimp only at hSw); go_simp <;> with_reducible rfl)
      try simp only [Act.put, List.setIfInBounds_toArray, List.set_cons_zero, List.set_cons_succ]
      refine wpAnyH_take (i := 1) (oi := ?ois2) (v := ?vs2) ?hops2 ?hss2 ?hfs2 ?hrs2 ?hQs2 ?hys2 (by assumption) ?rests2
      case hops2 => (simp only [List.getElem?_toArray, List.getElem?_cons_zero, List.getElem?_cons_succ]; rfl)
      case hss2 => kernel_rfl
      case hfs2 => kernel_rfl
      case hrs2 => kernel_rfl
      case hQs2 => exact fun _ _ _ h => h
      case hys2 => (refine Or.inl ⟨by rfl, ?_⟩; intro w hSw; (try dsimp only at hSw); go_simp <;> with_reducible rfl)
      try simp only [Act.put, List.setIfInBounds_toArray, List.set_cons_zero, List.set_cons_succ]
      refine wpAnyH_take (i := 2) (oi := ?ois3) (v := ?vs3) ?hops3 ?hss3 ?hfs3 ?hrs3 ?hQs3 ?hys3 (by assumption) ?rests3
      case hops3 => (simp only [List.getElem?_toArray, List.getElem?_cons_zero, List.getElem?_cons_succ]; rfl)
      case hss3 => kernel_rfl
      case hfs3 => kernel_rfl
      case hrs3 => kernel_rfl
      case hQs3 => exact fun _ _ _ h => h
      case hys3 => (refine Or.inl ⟨by rfl, ?_⟩; intro w hSw; (try dsimp only at hSw); go_simp <;> with_reducible rfl)
      try simp only [Act.put, List.setIfInBounds_toArray, List.set_cons_zero, List.set_cons_succ]
      refine wpAnyH_take (i := 3) (oi := ?ois4) (v := ?vs4) ?hops4 ?hss4 ?hfs4 ?hrs4 ?hQs4 ?hys4 (by assumption) ?rests4
      case hops4 => (simp only [List.getElem?_toArray, List.getElem?_cons_zero, List.getElem?_cons_succ]; rfl)
      case hss4 => kernel_rfl
      case hfs4 => kernel_rfl
      case hrs4 => kernel_rfl
      case hQs4 => exact fun _ _ _ h => h
      case hys4 => (refine Or.inl ⟨by rfl, ?_⟩; intro w hSw; (try dsimp only at hSw); go_simp <;> with_reducible rfl)
      try simp only [Act.put, List.setIfInBounds_toArray, List.set_cons_zero, List.set_cons_succ]
      refine wpAnyH_take (i := 4) (oi := ?ois5) (v := ?vs5) ?hops5 ?hss5 ?hfs5 ?hrs5 ?hQs5 ?hys5 (by assumption) ?rests5
      case hops5 => (simp only [List.getElem?_toArray, List.getElem?_cons_zero, List.getElem?_cons_succ]; rfl)
      case hss5 => kernel_rfl
      case hfs5 => kernel_rfl
      case hrs5 => kernel_rfl
      case hQs5 => exact fun _ _ _ h => h
      case hys5 => (refine Or.inl ⟨by rfl, ?_⟩; intro w hSw; (try dsimp only at hSw); go_simp <;> with_reducible rfl)
      try simp only [Act.put, List.setIfInBounds_toArray, List.set_cons_zero, List.set_cons_succ]
      refine wpAnyH_take (i := 5) (oi := ?ois6) (v := ?vs6) ?hops6 ?hss6 ?hfs6 ?hrs6 ?hQs6 ?hys6 (by assumption) ?rests6
      case hops6 => (simp only [List.getElem?_toArray, List.getElem?_cons_zero, List.getElem?_cons_succ]; rfl)
      case hss6 => kernel_rfl
      case hfs6 => kernel_rfl
      case hrs6 => kernel_rfl
      case hQs6 => exact fun _ _ _ h => h
      case hys6 => (refine Or.inl ⟨by rfl, ?_⟩; intro w hSw; (try dsimp only at hSw); go_simp <;> with_reducible rfl)
      try simp only [Act.put, List.setIfInBounds_toArray, List.set_cons_zero, List.set_cons_succ]
      refine wpAnyH_take (i := 6) (oi := ?ois7) (v := ?vs7) ?hops7 ?hss7 ?hfs7 ?hrs7 ?hQs7 ?hys7 (by assumption) ?rests7
      case hops7 => (simp only [List.getElem?_toArray, List.getElem?_cons_zero, List.getElem?_cons_succ]; rfl)
      case hss7 => kernel_rfl
      case hfs7 => kernel_rfl
      case hrs7 => kernel_rfl
      case hQs7 => exact fun _ _ _ h => h
      case hys7 => (refine Or.inl ⟨by rfl, ?_⟩; intro w hSw; (try dsimp only at hSw); go_simp <;> with_reducible rfl)
      try simp only [Act.put, List.setIfInBounds_toArray, List.set_cons_zero, List.set_cons_succ]
      refine wpAnyH_take (i := 7) (oi := ?ois8) (v := ?vs8) ?hops8 ?hss8 ?hfs8 ?hrs8 ?hQs8 ?hys8 (by assumption) ?rests8
      case hops8 => (simp only [List.getElem?_toArray, List.getElem?_cons_zero, List.getElem?_cons_succ]; rfl)
      case hss8 => kernel_rfl
      case hfs8 => kernel_rfl
      case hrs8 => kernel_rfl
      case hQs8 => exact fun _ _ _ h => h
      case hys8 => (refine Or.inl ⟨by rfl, ?_⟩; intro w hSw; (try dsimp only at hSw); go_simp <;> with_reducible rfl)
      try simp only [Act.put, List.setIfInBounds_toArray, List.set_cons_zero, List.set_cons_succ]
      refine wpAnyH_take (i := 8) (oi := ?ois9) (v := ?vs9) ?hops9 ?hss9 ?hfs9 ?hrs9 ?hQs9 ?hys9 (by assumption) ?rests9
      case hops9 => (simp only [List.getElem?_toArray, List.getElem?_cons_zero, List.getElem?_cons_succ]; rfl)
      case hss9 => kernel_rfl
      case hfs9 => kernel_rfl
      case hrs9 => kernel_rfl
      case hQs9 => exact fun _ _ _ h => h
      case hys9 => (refine Or.inl ⟨by rfl, ?_⟩; intro w hSw; (try dsimp only at hSw); go_simp <;> with_reducible rfl)
      try simp only [Act.put, List.setIfInBounds_toArray, List.set_cons_zero, List.set_cons_succ]
      refine wpAnyH_take (i := 9) (oi := ?ois10) (v := ?vs10) ?hops10 ?hss10 ?hfs10 ?hrs10 ?hQs10 ?hys10 (by assumption) ?rests10
      case hops10 => (simp only [List.getElem?_toArray, List.getElem?_cons_zero, List.getElem?_cons_succ]; rfl)
      case hss10 => kernel_rfl
      case hfs10 => kernel_rfl
      case hrs10 => kernel_rfl
      case hQs10 => exact fun _ _ _ h => h
      case hys10 => (refine Or.inl ⟨by rfl, ?_⟩; intro w hSw; (try dsimp only at hSw); go_simp <;> with_reducible rfl)
      try simp only [Act.put, List.setIfInBounds_toArray, List.set_cons_zero, List.set_cons_succ]
      refine wpAnyH_take (i := 10) (oi := ?ois11) (v := ?vs11) ?hops11 ?hss11 ?hfs11 ?hrs11 ?hQs11 ?hys11 (by assumption) ?rests11
      case hops11 => (simp only [List.getElem?_toArray, List.getElem?_cons_zero, List.getElem?_cons_succ]; rfl)
      case hss11 => kernel_rfl
      case hfs11 => kernel_rfl
      case hrs11 => kernel_rfl
      case hQs11 => exact fun _ _ _ h => h
      case hys11 => (refine Or.inl ⟨by rfl, ?_⟩; intro w hSw; (try dsimp only at hSw); go_simp <;> with_reducible rfl)
      try simp only [Act.put, List.setIfInBounds_toArray, List.set_cons_zero, List.set_cons_succ]
      refine wpAnyH_take (i := 11) (oi := ?ois12) (v := ?vs12) ?hops12 ?hss12 ?hfs12 ?hrs12 ?hQs12 ?hys12 (by assumption) ?rests12
      case hops12 => (simp only [List.getElem?_toArray, List.getElem?_cons_zero, List.getElem?_cons_succ]; rfl)
      case hss12 => kernel_rfl
      case hfs12 => kernel_rfl
      case hrs12 => kernel_rfl
      case hQs12 => exact fun _ _ _ h => h
      case hys12 => (refine Or.inl ⟨by rfl, ?_⟩; intro w hSw; (try dsimp only at hSw); go_simp <;> with_reducible rfl)
      try simp only [Act.put, List.setIfInBounds_toArray, List.set_cons_zero, List.set_cons_succ]
      refine wpAnyH_take (i := 12) (oi := ?ois13) (v := ?vs13) ?hops13 ?hss13 ?hfs13 ?hrs13 ?hQs13 ?hys13 (by assumption) ?rests13
      case hops13 => (simp only [List.getElem?_toArray, List.getElem?_cons_zero, List.getElem?_cons_succ]; rfl)
      case hss13 => kernel_rfl
      case hfs13 => kernel_rfl
      case hrs13 => kernel_rfl
      case hQs13 => exact fun _ _ _ h => h
      case hys13 => (refine Or.inl ⟨by rfl, ?_⟩; intro w hSw; (try dsimp only at hSw); go_simp <;> with_reducible rfl)
      try simp only [Act.put, List.setIfInBounds_toArray, List.set_cons_zero, List.set_cons_succ]
      refine wpAnyH_ready (rs := [13]) (by kernel_rfl) (by simp) ?_
      refine AllReadyH.cons (o := ?ois14) ?hops14 (fun K hK => ?steps14) ?mores14
      case hops14 => (simp only [List.getElem?_toArray, List.getElem?_cons_zero, List.getElem?_cons_succ]; rfl)
      case mores14 => exact AllReadyH.nil
      go_simp
      refine hK.out _ _ ?_ (fun hHeld => ?_)
      · (try dsimp only); first | with_reducible exact hKeep.out _ hgD.out | exact hKeep.out _ (hgD.out.alloc _) | with_reducible exact hKeep.out _ (hgD.out.alloc _) | exact hk4.out
      clear hK K
      try simp only [Act.put, List.setIfInBounds_toArray, List.set_cons_zero, List.set_cons_succ]
      refine wpAnyH_ready (rs := [14]) (by kernel_rfl) (by simp) ?_
      refine AllReadyH.cons (o := ?ois15) ?hops15 (fun K hK => ?steps15) ?mores15
      case hops15 => (simp only [List.getElem?_toArray, List.getElem?_cons_zero, List.getElem?_cons_succ]; rfl)
      case mores15 => exact AllReadyH.nil
      (refine step_append_l _ rfl (.tmp 11) (.tmp 24) rfl w.heap.size u3 L (⟨x.p, x.c, x.r, -x.n⟩ : Itm) ⟨wr.drew.heap.size, 0, none⟩ 1 rfl rfl hoX.out.1 hoX.out.2.1 hoX.out.2.2.1 hoX.out.2.2.2.1 hoX.out.2.2.2.2.size ?_; intro v4 w4 hown4 hgb4 _; have hk4 : Hid ((fun w' => w'.cell? ⟨bb, off + k * 2, none⟩ = some (.slice x.p x.r.length x.c) ∧ w'.cell? ⟨bb, off + k * 2 + 1, none⟩ = some (.int .i64 x.n)) w4) := hKeep2.out w4 hgb4; have hfin : Hid ((L ++ [(⟨x.p, x.c, x.r, -x.n⟩ : Itm)]).length = k + 1 ∧ (L ++ [(⟨x.p, x.c, x.r, -x.n⟩ : Itm)]).map Itm.z = negP ((l.take (k + 1)).map Itm.z) ∧ (∀ y ∈ L ++ [(⟨x.p, x.c, x.r, -x.n⟩ : Itm)], ∃ x ∈ l, y = ⟨x.p, x.c, x.r, -x.n⟩) ∧ OwnG encT 2 66 w4 w.heap.size v4 (L ++ [(⟨x.p, x.c, x.r, -x.n⟩ : Itm)]) ∧ Below w.heap.size w w4) := ⟨by have := hR.out.1; simp; omega, by rw [hst.out, List.map_append, hR.out.2.1]; rfl, fun y hy => (by rcases List.mem_append.1 hy with h | h; exact hR.out.2.2.1 y h; exact ⟨x, hxH.out, List.mem_singleton.1 h⟩), hown4, hoX.out.2.2.2.2.trans (hoX.out.1.grown_below hgb4 hoX.out.2.2.2.2.size)⟩; clear hown4 hgb4)
      refine hK.out _ _ ?_ (fun hHeld => ?_)
      · (try dsimp only); first | with_reducible exact hKeep.out _ hgD.out | exact hKeep.out _ (hgD.out.alloc _) | with_reducible exact hKeep.out _ (hgD.out.alloc _) | exact hk4.out
      clear hK K
      try simp only [Act.put, List.setIfInBounds_toArray, List.set_cons_zero, List.set_cons_succ]
      refine wpAnyH_take (i := 15) (oi := ?ois16) (v := ?vs16) ?hops16 ?hss16 ?hfs16 ?hrs16 ?hQs16 ?hys16 (by assumption) ?rests16
      case hops16 => (simp only [List.getElem?_toArray, List.getElem?_cons_zero, List.getElem?_cons_succ]; rfl)
      case hss16 => kernel_rfl
      case hfs16 => kernel_rfl
      case hrs16 => kernel_rfl
      case hQs16 => exact fun _ _ _ h => h
      case hys16 => (refine Or.inl ⟨by rfl, ?_⟩; intro w hSw; (try dsimp only at hSw); go_simp <;> with_reducible rfl)
      try simp only [Act.put, List.setIfInBounds_toArray, List.set_cons_zero, List.set_cons_succ]
      refine wpAnyH_done (by kernel_rfl) ?_ _
      refine NoPanic.normal ?_
      go_wp2
      go_roundw
      case rel => exact ⟨k + 1, L ++ [(⟨x.p, x.c, x.r, -x.n⟩ : Itm)], by omega, by go_num, hfin⟩
      case measure => simp [intOf]; omega
    · have hltz : ¬ (k : Int) < (l.length : Int) := by omega
      have hke : l.take k = l := List.take_of_length_le (by omega)
      obtain ⟨A2, cap2, hv2, hn1, hit, hcp, _, _⟩ := OwnG.full encT_len hR.out.2.2.2.1
      have hfin : Hid (L.map Itm.z = negP (l.map Itm.z) ∧ Lv wr A2 cap2 L ∧ Below w.heap.size w wr) := by
        refine ⟨by have := hR.out.2.1; rw [hke] at this; exact this, ⟨⟨hit, fun y hy => ?_⟩, NilC.mk hn1 hcp, by have := hR.out.1; unfold maxLen; omega⟩, hR.out.2.2.2.2⟩
        obtain ⟨x, hx, rfl⟩ := hR.out.2.2.1 y hy
        exact (hrH.out.1.below hR.out.2.2.2.2).each x hx
      subst hv2
      clear hke hit hn1 hcp
      go_wp2
      go_ret
      exact ⟨L, A2, cap2, rfl, hfin.out⟩
end Go.Proofs.YtnkpfhipgcmplaaGreatDoor
