/-
  viewref.readStep of pick.
-/
import Derived.Test.YtoodkgmpggabdaaDoorRStepB
namespace Go.Proofs.YtoodkgmpggabdaaDoor
open Go.RowKit Go.Sort

theorem splitC_lenP (c : UInt8) : ∀ l : List UInt8, (splitC c l).length ≤ l.length + 1
  | [] => by simp [splitC]
  | a :: l => by
    have ih := splitC_lenP c l
    by_cases k : a = c
    · subst k
      simp only [splitC]
      simp
      omega
    · simp only [splitC, if_neg k]
      cases e : splitC c l with
      | nil => simp
      | cons z t => rw [e] at ih; simp at ih ⊢; omega
def pickP (x1 x2 : List UInt8) : Option Stp := (numP x1).bind fun n => (listP x2).map fun l => ⟨3, n, 0, 0, 0, 0, none, 0, l⟩
theorem step_pick {y x1 x2 : List UInt8} (hk : kindP y = 3) : stepP [y, x1, x2] = pickP x1 x2 := by
  unfold stepP
  simp only [hk]
  rw [if_neg (fun h => h.elim (fun k => by cases k) (fun k => k rfl))]
  show partsP (bareK 3) [65, 76] [x1, x2] = _
  unfold partsP pickP
  rw [partN (by decide) (by decide)]
  cases numP x1 with
  | none => rfl
  | some n =>
    show partsP (setF (bareK 3) 65 n) [76] [x2] = _
    unfold partsP partP
    rw [if_neg (by decide), if_pos rfl]
    cases listP x2 <;> rfl
theorem Box.other {w : World} {b B j : Nat} {s : Stp} {u : Value} (h : Box w b s) (hn : b ≠ B) : Box (w.setCell ⟨B, j, none⟩ u) b s :=
  have o : ∀ i, (w.setCell ⟨B, j, none⟩ u).cell? ⟨b, i, none⟩ = w.cell? ⟨b, i, none⟩ := fun i => World.cell?_setCell_other _ _ _ _ (by intro e; injection e with e1; exact hn e1.symm)
  ⟨(o 0).trans h.c0, (o 1).trans h.c1, (o 2).trans h.c2, (o 3).trans h.c3, (o 4).trans h.c4, (o 5).trans h.c5, (o 6).trans h.c6, fun i => by simp only [World.frozen?_setCell]; exact h.fz i, by simpa [World.setCell] using h.lt⟩
theorem rowG_set {α : Type} {enc : α → List Value} {k : Nat} {w : World} {A : Option Addr} {l : List α} (h : RowG enc k w A l) {B m : Nat} (u : Value) (hA : ∀ x, A = some x → x.block ≠ B) : RowG enc k (w.setCell ⟨B, m, none⟩ u) A l := by
  rcases h with h | ⟨b, off, rfl, hb, hc⟩
  · exact Or.inl h
  · have hne := hA _ rfl
    refine Or.inr ⟨b, off, rfl, by simpa [World.setCell] using hb, fun j hj i hi => ?_⟩
    rw [← hc j hj i hi]
    exact World.cell?_setCell_other _ _ _ _ (by intro e; injection e with e1; exact hne e1.symm)
theorem row_head {w : World} {b off : Nat} {y x : List UInt8} {r : List (List UInt8)} (h : RowX w (some ⟨b, off, none⟩) (y :: x :: r)) : RowX w (some ⟨b, off + 1, none⟩) [x] := by
  rcases h with h | ⟨b', off', hA, hb, hc⟩
  · cases h
  · injection hA with hA
    injection hA with h1 h2
    subst h1 h2
    refine Or.inr ⟨b, off + 1, rfl, hb, fun j hj i hi => ?_⟩
    have hj0 : j = 0 := by simpa using hj
    subst hj0
    have := hc 1 (by simp) i hi
    rw [show off + 1 * 1 + i = off + 1 + 0 * 1 + i by omega] at this
    exact this
set_option maxRecDepth 100000 in
set_option maxHeartbeats 4000000 in
theorem rstep_3 (y : List UInt8) (r : List (List UInt8)) (A : Option Addr) (cap : Nat) (w : World) (hr : RowX w A (y :: r)) (hl : (y :: r).length ≤ 2000) (hcap : (y :: r).length ≤ cap) (hx : ∀ x ∈ y :: r, x.length ≤ 1100) (hv : Verbs w) (hk : kindP y = 3) {B9 : Bool} (hB9 : stpB (y :: r) = B9) :
    Calls Tryd.prog 11 #[.slice A (y :: r).length cap] w fun e w' => ∃ t', e = .returned (.tuple #[.agg #[.int .i64 t'.k, .int .i64 t'.a, .int .i64 t'.b, .int .i64 t'.c, .int .i64 t'.o, .int .i64 t'.v, .slice t'.p t'.l.length t'.n], .bool B9]) ∧ Below w.heap.size w w' ∧ StpO (y :: r) w w' t' := by
  have mixed : Tryd.prog.follows .mixedOrders = true := by kernel_rfl
  obtain ⟨b, off, rfl, hb, hcs⟩ := hr.at (m := 0) (by simp)
  have e0 := hcs 0 (by simp) 0 (by omega)
  have e1 : w.cell? ⟨b, off, none⟩ = some (.string ⟨y.toArray⟩) := by simpa [encX] using e0
  have hki : idxX verbL y = 3 := by rw [idx_kind.1 (by rw [hk]; decide), hk]
  obtain ⟨W0, hW0⟩ : ∃ W0, w.alloc (.cells #[.int .i64 0, .int .i64 0, .int .i64 0, .int .i64 0, .int .i64 0, .int .i64 0, .slice none 0 0] 32) = W0 := ⟨_, rfl⟩
  have hg0 : Gr w W0 := by rw [← hW0]; exact (Gr.refl _).alloc _
  have hB0 : Box W0 w.heap.size zeroS := hW0 ▸ box_new w
  have g0 := hg0.cellG (a := ⟨b, off, none⟩) hb e1
  have hIx : Hid (∀ n os, Calls Tryd.prog 22 #[.slice (some ⟨0, 0, none⟩) 10 10, .string ⟨y.toArray⟩] (grow (W0.drewN n) os) fun e w' => e = .returned (.int .i64 3) ∧ ∃ q os', w' = grow ((grow (W0.drewN n) os).drewN q) os') := fun n os => index_any verbL y (some ⟨0, 0, none⟩) 10 _ ((hv.below hg0.below).below (show Gr W0 _ from ⟨n, os, rfl⟩).below).row (by decide) hki
  have hH : Hid (Gr w W0 ∧ Box W0 w.heap.size zeroS ∧ RowX w (some ⟨b, off, none⟩) (y :: r) ∧ (∀ x ∈ y :: r, x.length ≤ 1100) ∧ stpB (y :: r) = B9 ∧ kindP y = 3) := ⟨hg0, hB0, hr, hx, hB9, hk⟩
  obtain ⟨m, hm⟩ : ∃ m, (y :: r).length = m := ⟨_, rfl⟩
  have hmr : Hid (r.length + 1 = m) := by show _ = _; rw [← hm]; rfl
  rw [hm] at hl hcap ⊢
  have hm1 : 1 ≤ m := by rw [← hm]; simp
  have hlz : (0 : Int) < (m : Int) := by omega
  clear hcs e0 hr hv hk hki hg0 hB0 hm hx hB9
  go_enter Tryd.func11, Tryd.ntmps11
  go_wp2_with fail
  clear hW0
  refine wp_region_quiet_grown mixed (by kernel_rfl) ?_
  repeat (go_big_quiet_step (first | (go_at_call 22; refine Calls.grown_of (hIx.out _ _)) | fail))
  refine wpQuiet_nil ?_
  rintro _ ⟨⟨nq2, osq2⟩, rfl⟩
  obtain ⟨W1, hW1⟩ : ∃ W1, grow (W0.drewN nq2) osq2 = W1 := ⟨_, rfl⟩
  have hg1 : Hid (Gr W0 W1) := by show Gr _ _; rw [← hW1]; exact ⟨nq2, osq2, rfl⟩
  rw [hW1]
  clear hW1 g0 e1 hIx
  obtain ⟨W2, hW2⟩ : ∃ W2, W1.alloc (.cells #[.int .i64 0, .int .i64 2, .int .i64 5, .int .i64 3, .int .i64 5, .int .i64 3, .int .i64 3, .int .i64 2, .int .i64 3, .int .i64 4] 3) = W2 := ⟨_, rfl⟩
  have hg2 : Hid (Gr W1 W2) := by show Gr _ _; rw [← hW2]; exact (Gr.refl _).alloc _
  have q0 : W2.cell? ⟨W1.heap.size, 3, none⟩ = some (.int .i64 3) := by rw [← hW2]; exact box1 (w := W1) (Gr.refl _) rfl
  have hB2 : Hid (Box W2 w.heap.size zeroS ∧ Below w.heap.size w W2) := ⟨(hH.out.2.1.below hg1.out.below).below hg2.out.below, ((hH.out.1.trans hg1.out).trans hg2.out).below⟩
  by_cases hmm : m = 3
  rotate_left
  focus
    have hmz : ((m : Int) != 3) = true := by simp; omega
    have hbad : Hid (stepP (y :: r) = none) := step_len rfl (by rw [hH.out.2.2.2.2.2]; have := hmr.out; show r.length ≠ 2; omega)
    have c0 := hB2.out.1.c0
    have c1 := hB2.out.1.c1
    have c2 := hB2.out.1.c2
    have c3 := hB2.out.1.c3
    have c4 := hB2.out.1.c4
    have c5 := hB2.out.1.c5
    have c6 := hB2.out.1.c6
    have fz := hB2.out.1.fz
    go_wp2
    exact bodyPost_ret (v := .tuple #[.agg #[.int .i64 0, .int .i64 0, .int .i64 0, .int .i64 0, .int .i64 0, .int .i64 0, .slice none 0 0], .bool false]) (by simp [results, Tryd.results11, go_sem, c0, c1, c2, c3, c4, c5, c6]) rfl ⟨zeroS, by rw [← hH.out.2.2.2.2.1, stpB_none hbad.out]; rfl, below_set7 hB2.out.2 (Nat.le_refl _) _ _ _ _ _ _ _, fun t ht => by rw [hbad.out] at ht; cases ht⟩
  subst hmm
  have hrl : r.length = 2 := by have := hmr.out; omega
  obtain ⟨x1, x2, hr12⟩ : ∃ x1 x2, r = [x1, x2] := by
    match r, hrl with
    | [x1, x2], _ => exact ⟨x1, x2, rfl⟩
  subst hr12
  have hg3 : Hid (Gr W2 (W2.alloc (.cells #[.int .i64 3, .int .i64 0, .int .i64 0, .int .i64 0, .int .i64 0, .int .i64 0, .slice none 0 0] 32))) := (Gr.refl _).alloc _
  have hXB : Hid (Box (W2.alloc (.cells #[.int .i64 3, .int .i64 0, .int .i64 0, .int .i64 0, .int .i64 0, .int .i64 0, .slice none 0 0] 32)) W2.heap.size (bareK 3)) := ⟨box1 (w := W2) (Gr.refl _) rfl, box1 (w := W2) (Gr.refl _) rfl, box1 (w := W2) (Gr.refl _) rfl, box1 (w := W2) (Gr.refl _) rfl, box1 (w := W2) (Gr.refl _) rfl, box1 (w := W2) (Gr.refl _) rfl, box1 (w := W2) (Gr.refl _) rfl, fun j => World.frozen?_alloc_at (w := W2) _ _ W2.heap.size j rfl, by simp⟩
  have hBR : Hid (Box (W2.alloc (.cells #[.int .i64 3, .int .i64 0, .int .i64 0, .int .i64 0, .int .i64 0, .int .i64 0, .slice none 0 0] 32)) w.heap.size zeroS ∧ Below w.heap.size w (W2.alloc (.cells #[.int .i64 3, .int .i64 0, .int .i64 0, .int .i64 0, .int .i64 0, .int .i64 0, .slice none 0 0] 32)) ∧ w.heap.size < W2.heap.size) := ⟨hB2.out.1.below hg3.out.below, hB2.out.2.trans (hg3.out.below.mono hB2.out.2.size), hB2.out.1.lt⟩
  have hst : Hid (stepP [y, x1, x2] = pickP x1 x2) := step_pick hH.out.2.2.2.2.2
  obtain ⟨b', off', hA', hb', hcs'⟩ := (hH.out.2.2.1.below hBR.out.2.1).at (m := 2) (by simp)
  injection hA' with hA'
  injection hA' with h91 h92
  subst h91 h92
  have e2 : (W2.alloc (.cells #[.int .i64 3, .int .i64 0, .int .i64 0, .int .i64 0, .int .i64 0, .int .i64 0, .slice none 0 0] 32)).cell? ⟨b, off + 2, none⟩ = some (.string ⟨x2.toArray⟩) := hcs' 2 (by simp) 0 (by omega)
  have hP0 := pieces_any x2 44 (W2.alloc (.cells #[.int .i64 3, .int .i64 0, .int .i64 0, .int .i64 0, .int .i64 0, .int .i64 0, .slice none 0 0] 32)) (Nat.le_trans (hH.out.2.2.2.1 x2 (by simp)) (by decide))
  have hP : Hid _ := hP0
  have hc1 : ¬ cap = 1 := by omega
  clear hP0 hcs' hb'
  go_wp2_with fail
  clear hW2 q0 e2
  refine Calls.mono (show Calls _ _ _ _ _ from hP.out) ?_
  rintro e w5 ⟨v5, rfl, o5, b5⟩
  obtain ⟨A5, c5, rfl, _, hrow5, _⟩ := OwnG.full encX_len o5
  have hX5 : Hid (Box w5 w.heap.size zeroS ∧ Box w5 W2.heap.size (bareK 3) ∧ Below w.heap.size w w5 ∧ W2.heap.size < w5.heap.size) := ⟨hBR.out.1.below b5, hXB.out.below b5, hBR.out.2.1.trans (b5.mono hBR.out.2.1.size), Nat.lt_of_lt_of_le hXB.out.lt b5.size⟩
  obtain ⟨B, hB⟩ : ∃ B, whsB (splitC 44 x2) = B := ⟨_, rfl⟩
  have hsl := splitC_lenP 44 x2
  have hx2l := hH.out.2.2.2.1 x2 (by simp)
  have hWh0 := wholes_any (splitC 44 x2) A5 c5 w5 hrow5 (by omega) (fun x hx => Nat.le_trans (splitC_leP hx) (by omega)) hB
  have hWh : Hid _ := hWh0
  have hBH : Hid (whsB (splitC 44 x2) = B) := hB
  clear hWh0 hB hP o5 b5 hrow5
  go_wp2_with fail
  refine Calls.mono (show Calls _ _ _ _ _ from hWh.out) ?_
  rintro e w6 ⟨v6, rfl, b6, hO6⟩
  have hX6 : Hid (Box w6 w.heap.size zeroS ∧ Box w6 W2.heap.size (bareK 3) ∧ Below w.heap.size w w6) := ⟨hX5.out.1.below b6, hX5.out.2.1.below b6, hX5.out.2.2.1.trans (b6.mono hX5.out.2.2.1.size)⟩
  cases B
  · have hbad : Hid (stepP [y, x1, x2] = none) := by
      show _ = _
      rw [hst.out]
      have h1 : listP x2 = none := by
        have := hBH.out
        unfold whsB at this
        unfold listP
        cases e : numsP (splitC 44 x2) with
        | none => rfl
        | some l => rw [e] at this; cases this
      unfold pickP
      rw [h1]
      cases numP x1 <;> rfl
    have c0 := hX6.out.1.c0
    have c1 := hX6.out.1.c1
    have c2 := hX6.out.1.c2
    have c3 := hX6.out.1.c3
    have c4 := hX6.out.1.c4
    have c5 := hX6.out.1.c5
    have c6 := hX6.out.1.c6
    have fz := hX6.out.1.fz
    clear hWh hO6 b6
    go_wp2
    exact bodyPost_ret (v := .tuple #[.agg #[.int .i64 0, .int .i64 0, .int .i64 0, .int .i64 0, .int .i64 0, .int .i64 0, .slice none 0 0], .bool false]) (by simp [results, Tryd.results11, go_sem, c0, c1, c2, c3, c4, c5, c6]) rfl ⟨zeroS, by rw [← hH.out.2.2.2.2.1, stpB_none hbad.out]; rfl, below_set7 hX6.out.2.2 (Nat.le_refl _) _ _ _ _ _ _ _, fun t ht => by rw [hbad.out] at ht; cases ht⟩
  · obtain ⟨l, hnl⟩ : ∃ l, numsP (splitC 44 x2) = some l := by
      have := hBH.out
      unfold whsB at this
      cases e : numsP (splitC 44 x2) with
      | none => rw [e] at this; cases this
      | some l => exact ⟨l, rfl⟩
    have hlen : Hid (l.length ≤ 1101) := by show _ ≤ _; rw [numsP_len hnl]; omega
    obtain ⟨vA, vc, rfl, hvn, hrow, _, hfl, _⟩ := OwnG.full encI_len (hO6 l hnl)
    have hlp : Hid (listP x2 = some l) := hnl
    obtain ⟨w7, hw7⟩ : ∃ w7, w6.setCell ⟨W2.heap.size, 6, none⟩ (.slice vA l.length vc) = w7 := ⟨_, rfl⟩
    have hlt2 := hBR.out.2.2
    have hlt5 := hX5.out.2.2.2
    have hX7 : Hid (Box w7 w.heap.size zeroS ∧ Box w7 W2.heap.size ⟨3, 0, 0, 0, 0, 0, vA, vc, l⟩ ∧ Below w.heap.size w w7 ∧ RowI w7 vA l ∧ (vA = none → vc = 0) ∧ ∀ a, vA = some a → W2.heap.size < a.block ∧ a.block < w7.heap.size) := by
      show _ ∧ _
      rw [← hw7]
      refine ⟨hX6.out.1.other (by omega), hX6.out.2.1.set 6 _ rfl rfl rfl rfl rfl rfl rfl, hX6.out.2.2.setCell (p := ⟨W2.heap.size, 6, none⟩) (by show _ ≤ W2.heap.size; omega) _, rowG_set hrow _ (fun a ha => by have := (hfl a ha).1; omega), hvn, fun a ha => ⟨by have := (hfl a ha).1; omega, by have := (hfl a ha).2.1; simpa [World.setCell] using this⟩⟩
    have x6 := hX6.out.2.1.c6
    have xfz := hX6.out.2.1.fz
    obtain ⟨B1, hB1⟩ : ∃ B1, whsB [x1] = B1 := ⟨_, rfl⟩
    have hW70 := wholes_any [x1] (some ⟨b, off + 1, none⟩) (cap - 1) w7 (row_head (hH.out.2.2.1.below hX7.out.2.2.1)) (by simp) (fun x hx => Nat.le_trans (hH.out.2.2.2.1 x (by rw [List.mem_singleton.1 hx]; simp)) (by omega)) hB1
    have hW7 : Hid _ := hW70
    have hB1H : Hid (whsB [x1] = B1) := hB1
    have hc2 : ¬ cap = 2 := by omega
    clear hW70 hB1 hWh hO6 b6 hrow hfl hvn hnl hBH
    go_wp2_with fail
    clear hw7
    refine Calls.mono (show Calls _ _ _ _ _ from hW7.out) ?_
    rintro e w8 ⟨v8, rfl, b8, hO8⟩
    have hX8 : Hid (Box w8 w.heap.size zeroS ∧ Box w8 W2.heap.size ⟨3, 0, 0, 0, 0, 0, vA, vc, l⟩ ∧ Below w.heap.size w w8 ∧ RowI w8 vA l ∧ (vA = none → vc = 0) ∧ ∀ a, vA = some a → W2.heap.size < a.block ∧ a.block < w8.heap.size) := ⟨hX7.out.1.below b8, hX7.out.2.1.below b8, hX7.out.2.2.1.trans (b8.mono hX7.out.2.2.1.size), hX7.out.2.2.2.1.below b8, hX7.out.2.2.2.2.1, fun a ha => ⟨(hX7.out.2.2.2.2.2 a ha).1, Nat.lt_of_lt_of_le (hX7.out.2.2.2.2.2 a ha).2 b8.size⟩⟩
    have c0 := hX8.out.1.c0
    have c1 := hX8.out.1.c1
    have c2 := hX8.out.1.c2
    have c3 := hX8.out.1.c3
    have c4 := hX8.out.1.c4
    have c5 := hX8.out.1.c5
    have c6 := hX8.out.1.c6
    have fz := hX8.out.1.fz
    clear x6 xfz
    cases B1
    · have hbad : Hid (stepP [y, x1, x2] = none) := by
        show _ = _
        rw [hst.out]
        have := hB1H.out
        unfold whsB numsP at this
        unfold pickP
        cases e : numP x1 with
        | none => rfl
        | some n => rw [e] at this; cases this
      clear hW7 hO8 b8
      go_wp2
      exact bodyPost_ret (v := .tuple #[.agg #[.int .i64 0, .int .i64 0, .int .i64 0, .int .i64 0, .int .i64 0, .int .i64 0, .slice none 0 0], .bool false]) (by simp [results, Tryd.results11, go_sem, c0, c1, c2, c3, c4, c5, c6]) rfl ⟨zeroS, by rw [← hH.out.2.2.2.2.1, stpB_none hbad.out]; rfl, below_set7 hX8.out.2.2.1 (Nat.le_refl _) _ _ _ _ _ _ _, fun t ht => by rw [hbad.out] at ht; cases ht⟩
    · obtain ⟨n, hn⟩ : ∃ n, numP x1 = some n := by
        have := hB1H.out
        unfold whsB numsP at this
        cases e : numP x1 with
        | none => rw [e] at this; cases this
        | some n => exact ⟨n, rfl⟩
      obtain ⟨uA, uc, rfl, _, hrow8, _, hfl8, _⟩ := OwnG.full encI_len (hO8 [n] (by unfold numsP; rw [hn]; rfl))
      have hgood : Hid (stepP [y, x1, x2] = some ⟨3, n, 0, 0, 0, 0, none, 0, l⟩) := by show _ = _; rw [hst.out]; unfold pickP; rw [hn, hlp.out]; rfl
      obtain ⟨vb, vo, rfl, hvc⟩ := rowI_cells hrow8 (by simp)
      have hs7 := hX7.out.2.1.lt
      have hvb : vb ≠ W2.heap.size := by have h9 := (hfl8 _ rfl).1; simp at h9; omega
      have hvb2 : W2.heap.size ≠ vb := fun e => hvb e.symm
      have v0 : w8.cell? ⟨vb, vo, none⟩ = some (.int .i64 n) := hvc 0 (by simp)
      have x0 := hX8.out.2.1.c0
      have x1 := hX8.out.2.1.c1
      have x2 := hX8.out.2.1.c2
      have x3 := hX8.out.2.1.c3
      have x4 := hX8.out.2.1.c4
      have x5 := hX8.out.2.1.c5
      have x6 := hX8.out.2.1.c6
      have xfz := hX8.out.2.1.fz
      have hne : w.heap.size ≠ W2.heap.size := by omega
      have hne2 : W2.heap.size ≠ w.heap.size := fun e => hne e.symm
      have hwx : w.heap.size ≤ W2.heap.size := by omega
      simp only at x0 x1 x2 x3 x4 x5 x6
      clear hW7 hO8 b8 hrow8 hvc hn hfl8 hs7 hlt2 hlt5
      generalize W2.heap.size = XB at *
      go_wp2
      refine bodyPost_ret (v := .tuple #[.agg #[.int .i64 3, .int .i64 n, .int .i64 0, .int .i64 0, .int .i64 0, .int .i64 0, .slice vA l.length vc], .bool true]) (by simp [results, Tryd.results11, go_sem, c0, c1, c2, c3, c4, c5, c6]) rfl ⟨⟨3, n, 0, 0, 0, 0, vA, vc, l⟩, by rw [← hH.out.2.2.2.2.1, stpB_some hgood.out], below_set7 (Below.setCell (p := ⟨XB, 1, none⟩) hX8.out.2.2.1 hwx _) (Nat.le_refl _) _ _ _ _ _ _ _, fun t ht => ?_⟩
      rw [hgood.out] at ht
      rw [← Option.some.inj ht]
      have hA := hX8.out.2.2.2.2.2
      refine ⟨rfl, ⟨?_, ?_, hX8.out.2.2.2.2.1⟩, fun a ha => ⟨by have := (hA a ha).1; omega, by have := (hA a ha).2; simpa [World.setCell] using this⟩⟩
      · have hn1 : ∀ a, vA = some a → a.block ≠ XB := fun a ha => by have := (hA a ha).1; omega
        have hn2 : ∀ a, vA = some a → a.block ≠ w.heap.size := fun a ha => by have := (hA a ha).1; omega
        exact rowG_set (rowG_set (rowG_set (rowG_set (rowG_set (rowG_set (rowG_set (rowG_set hX8.out.2.2.2.1 _ hn1) _ hn2) _ hn2) _ hn2) _ hn2) _ hn2) _ hn2) _ hn2
      · have := hlen.out
        show l.length ≤ maxLen
        unfold maxLen
        omega
end Go.Proofs.YtoodkgmpggabdaaDoor
