/-
  viewref.readStep of where.
-/
import Derived.Test.YtoodkgmpggabdaaDoorRStepD
namespace Go.Proofs.YtoodkgmpggabdaaDoor
open Go.RowKit Go.Sort

def signsL : List (List UInt8) := [[], [60], [61], [62]]
theorem idx_sign (x : List UInt8) : (idxX signsL x < 1 ↔ signP x = 0) ∧ (signP x ≠ 0 → idxX signsL x = signP x) := by
  by_cases h0 : x = []
  · subst h0; decide
  by_cases h1 : x = [60]
  · subst h1; decide
  by_cases h2 : x = [61]
  · subst h2; decide
  by_cases h3 : x = [62]
  · subst h3; decide
  have hs : signP x = 0 := by unfold signP; rw [if_neg h1, if_neg h2, if_neg h3]
  have hi : idxX signsL x = -1 := by
    unfold idxX signsL
    have g0 : ([] == x) = false := by exact beq_eq_false_iff_ne.2 (fun e => h0 e.symm)
    have g1 : ([60] == x) = false := by exact beq_eq_false_iff_ne.2 (fun e => h1 e.symm)
    have g2 : ([61] == x) = false := by exact beq_eq_false_iff_ne.2 (fun e => h2 e.symm)
    have g3 : ([62] == x) = false := by exact beq_eq_false_iff_ne.2 (fun e => h3 e.symm)
    simp only [List.findIdx?_cons, List.findIdx?_nil, g0, g1, g2, g3]
    simp
  rw [hs, hi]
  exact ⟨⟨fun _ => rfl, fun _ => by decide⟩, fun h => absurd rfl h⟩
def whereP (x1 x2 x3 x4 : List UInt8) : Option Stp := if signP x3 = 0 then none else (numP x1).bind fun a => (numP x2).bind fun c => (numP x4).map fun v => ⟨2, a, 0, c, signP x3, v, none, 0, []⟩
theorem step_where {y x1 x2 x3 x4 : List UInt8} (hk : kindP y = 2) : stepP [y, x1, x2, x3, x4] = whereP x1 x2 x3 x4 := by
  unfold stepP
  simp only [hk]
  rw [if_neg (fun h => h.elim (fun k => by cases k) (fun k => k rfl))]
  show partsP (bareK 2) [65, 67, 79, 86] [x1, x2, x3, x4] = _
  unfold partsP whereP
  rw [partN (by decide) (by decide)]
  cases numP x1 with
  | none => simp
  | some a =>
    show partsP (setF (bareK 2) 65 a) [67, 79, 86] [x2, x3, x4] = _
    unfold partsP
    rw [partN (by decide) (by decide)]
    cases numP x2 with
    | none => simp
    | some c =>
      show partsP (setF (setF (bareK 2) 65 a) 67 c) [79, 86] [x3, x4] = _
      unfold partsP partP
      rw [if_pos rfl]
      by_cases h : signP x3 = 0
      · rw [if_pos h, if_pos h]
      · rw [if_neg h, if_neg h]
        show partsP _ [86] [x4] = _
        unfold partsP
        rw [partN (by decide) (by decide)]
        cases numP x4 <;> rfl
theorem row_signs (w : World) : RowX (w.alloc (.cells #[.string ⟨#[]⟩, .string ⟨#[60]⟩, .string ⟨#[61]⟩, .string ⟨#[62]⟩] 9)) (some ⟨w.heap.size, 0, none⟩) signsL := by
  refine Or.inr ⟨w.heap.size, 0, rfl, by simp, fun j hj i hi => ?_⟩
  obtain rfl : i = 0 := by omega
  have hj' : j < 4 := hj
  match j, hj' with
  | 0, _ => exact box1 (w := w) (Gr.refl _) rfl
  | 1, _ => exact box1 (w := w) (Gr.refl _) rfl
  | 2, _ => exact box1 (w := w) (Gr.refl _) rfl
  | 3, _ => exact box1 (w := w) (Gr.refl _) rfl
theorem row5 {w : World} {b off : Nat} {y x1 x2 x3 x4 : List UInt8} (h : RowX w (some ⟨b, off, none⟩) [y, x1, x2, x3, x4]) : w.cell? ⟨b, off, none⟩ = some (.string ⟨y.toArray⟩) ∧ w.cell? ⟨b, off + 1, none⟩ = some (.string ⟨x1.toArray⟩) ∧ w.cell? ⟨b, off + 2, none⟩ = some (.string ⟨x2.toArray⟩) ∧ w.cell? ⟨b, off + 3, none⟩ = some (.string ⟨x3.toArray⟩) ∧ w.cell? ⟨b, off + 4, none⟩ = some (.string ⟨x4.toArray⟩) := by
  rcases h with h | ⟨b', off', hA, hb, hc⟩
  · cases h
  · injection hA with hA
    injection hA with h1 h2
    subst h1 h2
    exact ⟨hc 0 (by simp) 0 (by omega), hc 1 (by simp) 0 (by omega), hc 2 (by simp) 0 (by omega), hc 3 (by simp) 0 (by omega), hc 4 (by simp) 0 (by omega)⟩
theorem row_three (w : World) (y x1 x2 x4 : List UInt8) : RowX (w.alloc (.cells #[.string ⟨y.toArray⟩, .string ⟨x1.toArray⟩, .string ⟨x2.toArray⟩, .string ⟨x4.toArray⟩] 9)).drew (some ⟨w.heap.size, 1, none⟩) [x1, x2, x4] := by
  refine RowG.gr ?_ ((Gr.refl _).drew)
  refine Or.inr ⟨w.heap.size, 1, rfl, by simp, fun j hj i hi => ?_⟩
  obtain rfl : i = 0 := by omega
  have hj' : j < 3 := hj
  match j, hj' with
  | 0, _ => exact box1 (w := w) (Gr.refl _) rfl
  | 1, _ => exact box1 (w := w) (Gr.refl _) rfl
  | 2, _ => exact box1 (w := w) (Gr.refl _) rfl
theorem nums3 (x1 x2 x4 : List UInt8) : numsP [x1, x2, x4] = (numP x1).bind fun a => (numP x2).bind fun c => (numP x4).map fun v => [a, c, v] := by
  simp only [numsP]
  cases numP x1 <;> cases numP x2 <;> cases numP x4 <;> rfl
theorem where_nums_none {x1 x2 x3 x4 : List UInt8} (h : whsB [x1, x2, x4] = false) : whereP x1 x2 x3 x4 = none := by
  unfold whsB at h
  rw [nums3] at h
  unfold whereP
  by_cases hs : signP x3 = 0
  · rw [if_pos hs]
  · rw [if_neg hs]
    revert h
    cases numP x1 <;> cases numP x2 <;> cases numP x4 <;> simp
theorem where_nums {x1 x2 x3 x4 : List UInt8} (hs : ¬ signP x3 = 0) (h : whsB [x1, x2, x4] = true) : ∃ a c v, numsP [x1, x2, x4] = some [a, c, v] ∧ whereP x1 x2 x3 x4 = some ⟨2, a, 0, c, signP x3, v, none, 0, []⟩ := by
  unfold whsB at h
  rw [nums3] at h ⊢
  unfold whereP
  rw [if_neg hs]
  revert h
  cases e1 : numP x1 <;> cases e2 : numP x2 <;> cases e4 : numP x4 <;> simp
set_option maxRecDepth 100000 in
set_option maxHeartbeats 4000000 in
theorem rstep_2 (y : List UInt8) (r : List (List UInt8)) (A : Option Addr) (cap : Nat) (w : World) (hr : RowX w A (y :: r)) (hl : (y :: r).length ≤ 2000) (hcap : (y :: r).length ≤ cap) (hx : ∀ x ∈ y :: r, x.length ≤ 2000) (hv : Verbs w) (hk : kindP y = 2) {B9 : Bool} (hB9 : stpB (y :: r) = B9) :
    Calls Tryd.prog 11 #[.slice A (y :: r).length cap] w fun e w' => ∃ t', e = .returned (.tuple #[.agg #[.int .i64 t'.k, .int .i64 t'.a, .int .i64 t'.b, .int .i64 t'.c, .int .i64 t'.o, .int .i64 t'.v, .slice t'.p t'.l.length t'.n], .bool B9]) ∧ Below w.heap.size w w' ∧ StpO (y :: r) w w' t' := by
  have mixed : Tryd.prog.follows .mixedOrders = true := by kernel_rfl
  obtain ⟨b, off, rfl, hb, hcs⟩ := hr.at (m := 0) (by simp)
  have e0 := hcs 0 (by simp) 0 (by omega)
  have e1 : w.cell? ⟨b, off, none⟩ = some (.string ⟨y.toArray⟩) := by simpa [encX] using e0
  have hki : idxX verbL y = 2 := by rw [idx_kind.1 (by rw [hk]; decide), hk]
  obtain ⟨W0, hW0⟩ : ∃ W0, w.alloc (.cells #[.int .i64 0, .int .i64 0, .int .i64 0, .int .i64 0, .int .i64 0, .int .i64 0, .slice none 0 0] 32) = W0 := ⟨_, rfl⟩
  have hg0 : Gr w W0 := by rw [← hW0]; exact (Gr.refl _).alloc _
  have hB0 : Box W0 w.heap.size zeroS := hW0 ▸ box_new w
  have g0 := hg0.cellG (a := ⟨b, off, none⟩) hb e1
  have hIx : Hid (∀ n os, Calls Tryd.prog 22 #[.slice (some ⟨0, 0, none⟩) 10 10, .string ⟨y.toArray⟩] (grow (W0.drewN n) os) fun e w' => e = .returned (.int .i64 2) ∧ ∃ q os', w' = grow ((grow (W0.drewN n) os).drewN q) os') := fun n os => index_any verbL y (some ⟨0, 0, none⟩) 10 _ ((hv.below hg0.below).below (show Gr W0 _ from ⟨n, os, rfl⟩).below).row (by decide) hki
  have hH : Hid (Gr w W0 ∧ Box W0 w.heap.size zeroS ∧ RowX w (some ⟨b, off, none⟩) (y :: r) ∧ (∀ x ∈ y :: r, x.length ≤ 2000) ∧ stpB (y :: r) = B9 ∧ kindP y = 2) := ⟨hg0, hB0, hr, hx, hB9, hk⟩
  obtain ⟨m, hm⟩ : ∃ m, (y :: r).length = m := ⟨_, rfl⟩
  have hmr : Hid (r.length + 1 = m) := by show _ = _; rw [← hm]; rfl
  rw [hm] at hl hcap ⊢
  have hm1 : 1 ≤ m := by rw [← hm]; simp
  have hlz : (0 : Int) < (m : Int) := by omega
  clear hcs e0 hr hv hk hki hg0 hB0 hm hx hB9
  go_enter Tryd.func11, Tryd.ntmps11
  go_wp2_with fail
  clear hW0
  refine wp_region_quiet_grown mixed (by kernel_rfl) ?_
  repeat (go_big_quiet_step (first | (go_at_call 22; refine Calls.grown_of (hIx.out _ _)) | fail))
  refine wpQuiet_nil ?_
  rintro _ ⟨⟨nq2, osq2⟩, rfl⟩
  obtain ⟨W1, hW1⟩ : ∃ W1, grow (W0.drewN nq2) osq2 = W1 := ⟨_, rfl⟩
  have hg1 : Hid (Gr W0 W1) := by show Gr _ _; rw [← hW1]; exact ⟨nq2, osq2, rfl⟩
  rw [hW1]
  clear hW1 g0 e1 hIx
  obtain ⟨W2, hW2⟩ : ∃ W2, W1.alloc (.cells #[.int .i64 0, .int .i64 2, .int .i64 5, .int .i64 3, .int .i64 5, .int .i64 3, .int .i64 3, .int .i64 2, .int .i64 3, .int .i64 4] 3) = W2 := ⟨_, rfl⟩
  have hg2 : Hid (Gr W1 W2) := by show Gr _ _; rw [← hW2]; exact (Gr.refl _).alloc _
  have q0 : W2.cell? ⟨W1.heap.size, 2, none⟩ = some (.int .i64 5) := by rw [← hW2]; exact box1 (w := W1) (Gr.refl _) rfl
  have hB2 : Hid (Box W2 w.heap.size zeroS ∧ Below w.heap.size w W2) := ⟨(hH.out.2.1.below hg1.out.below).below hg2.out.below, ((hH.out.1.trans hg1.out).trans hg2.out).below⟩
  by_cases hmm : m = 5
  rotate_left
  focus
    have hmz : ((m : Int) != 5) = true := by simp; omega
    have hbad : Hid (stepP (y :: r) = none) := step_len rfl (by rw [hH.out.2.2.2.2.2]; have := hmr.out; show r.length ≠ 4; omega)
    have c0 := hB2.out.1.c0
    have c1 := hB2.out.1.c1
    have c2 := hB2.out.1.c2
    have c3 := hB2.out.1.c3
    have c4 := hB2.out.1.c4
    have c5 := hB2.out.1.c5
    have c6 := hB2.out.1.c6
    have fz := hB2.out.1.fz
    go_wp2
    exact bodyPost_ret (v := .tuple #[.agg #[.int .i64 0, .int .i64 0, .int .i64 0, .int .i64 0, .int .i64 0, .int .i64 0, .slice none 0 0], .bool false]) (by simp [results, Tryd.results11, go_sem, c0, c1, c2, c3, c4, c5, c6]) rfl ⟨zeroS, by rw [← hH.out.2.2.2.2.1, stpB_none hbad.out]; rfl, below_set7 hB2.out.2 (Nat.le_refl _) _ _ _ _ _ _ _, fun t ht => by rw [hbad.out] at ht; cases ht⟩
  subst hmm
  have hrl : r.length = 4 := by have := hmr.out; omega
  obtain ⟨x1, x2, x3, x4, hr12⟩ : ∃ x1 x2 x3 x4, r = [x1, x2, x3, x4] := by
    match r, hrl with
    | [x1, x2, x3, x4], _ => exact ⟨x1, x2, x3, x4, rfl⟩
  subst hr12
  have hg3 : Hid (Gr W2 (W2.alloc (.cells #[.int .i64 2, .int .i64 0, .int .i64 0, .int .i64 0, .int .i64 0, .int .i64 0, .slice none 0 0] 32))) := (Gr.refl _).alloc _
  have hXB : Hid (Box (W2.alloc (.cells #[.int .i64 2, .int .i64 0, .int .i64 0, .int .i64 0, .int .i64 0, .int .i64 0, .slice none 0 0] 32)) W2.heap.size (bareK 2)) := ⟨box1 (w := W2) (Gr.refl _) rfl, box1 (w := W2) (Gr.refl _) rfl, box1 (w := W2) (Gr.refl _) rfl, box1 (w := W2) (Gr.refl _) rfl, box1 (w := W2) (Gr.refl _) rfl, box1 (w := W2) (Gr.refl _) rfl, box1 (w := W2) (Gr.refl _) rfl, fun j => World.frozen?_alloc_at (w := W2) _ _ W2.heap.size j rfl, by simp⟩
  have hBR : Hid (Box (W2.alloc (.cells #[.int .i64 2, .int .i64 0, .int .i64 0, .int .i64 0, .int .i64 0, .int .i64 0, .slice none 0 0] 32)) w.heap.size zeroS ∧ Below w.heap.size w (W2.alloc (.cells #[.int .i64 2, .int .i64 0, .int .i64 0, .int .i64 0, .int .i64 0, .int .i64 0, .slice none 0 0] 32)) ∧ w.heap.size < W2.heap.size) := ⟨hB2.out.1.below hg3.out.below, hB2.out.2.trans (hg3.out.below.mono hB2.out.2.size), hB2.out.1.lt⟩
  have hst : Hid (stepP [y, x1, x2, x3, x4] = whereP x1 x2 x3 x4) := step_where hH.out.2.2.2.2.2
  obtain ⟨W4, hW4⟩ : ∃ W4, (W2.alloc (.cells #[.int .i64 2, .int .i64 0, .int .i64 0, .int .i64 0, .int .i64 0, .int .i64 0, .slice none 0 0] 32)).alloc (.cells #[.string ⟨#[]⟩, .string ⟨#[60]⟩, .string ⟨#[61]⟩, .string ⟨#[62]⟩] 9) = W4 := ⟨_, rfl⟩
  have hg4 : Hid (Gr (W2.alloc (.cells #[.int .i64 2, .int .i64 0, .int .i64 0, .int .i64 0, .int .i64 0, .int .i64 0, .slice none 0 0] 32)) W4) := by show Gr _ _; rw [← hW4]; exact (Gr.refl _).alloc _
  have hX4 : Hid (Box W4 w.heap.size zeroS ∧ Box W4 W2.heap.size (bareK 2) ∧ Below w.heap.size w W4) := ⟨hBR.out.1.below hg4.out.below, hXB.out.below hg4.out.below, hBR.out.2.1.trans (hg4.out.below.mono hBR.out.2.1.size)⟩
  have e3 := (row5 (hH.out.2.2.1.below hX4.out.2.2)).2.2.2.1
  have hrs : RowX W4 (some ⟨W2.heap.size + 1, 0, none⟩) signsL := by
    have := row_signs (W2.alloc (.cells #[.int .i64 2, .int .i64 0, .int .i64 0, .int .i64 0, .int .i64 0, .int .i64 0, .slice none 0 0] 32))
    rw [hW4, show ((W2.alloc (.cells #[.int .i64 2, .int .i64 0, .int .i64 0, .int .i64 0, .int .i64 0, .int .i64 0, .slice none 0 0] 32))).heap.size = W2.heap.size + 1 by simp] at this
    exact this
  obtain ⟨I, hI⟩ : ∃ I, idxX signsL x3 = I := ⟨_, rfl⟩
  have hIx0 := index_any signsL x3 (some ⟨W2.heap.size + 1, 0, none⟩) 4 W4 hrs (by decide) hI
  have hIx : Hid _ := hIx0
  have hIH : Hid (idxX signsL x3 = I) := hI
  have hc1 : ¬ cap = 1 := by omega
  clear hIx0 hI hrs hrl hmr
  go_wp2_with fail
  clear hW4 hW2 q0 e3
  refine Calls.mono (show Calls _ _ _ _ _ from hIx.out) ?_
  rintro e w5 ⟨rfl, nq5, osq5, rfl⟩
  obtain ⟨W5, hW5⟩ : ∃ W5, grow (W4.drewN nq5) osq5 = W5 := ⟨_, rfl⟩
  have hg5 : Hid (Gr W4 W5) := by show Gr _ _; rw [← hW5]; exact ⟨nq5, osq5, rfl⟩
  rw [hW5]
  clear hW5 hIx
  have hX5 : Hid (Box W5 w.heap.size zeroS ∧ Box W5 W2.heap.size (bareK 2) ∧ Below w.heap.size w W5) := ⟨hX4.out.1.below hg5.out.below, hX4.out.2.1.below hg5.out.below, hX4.out.2.2.trans (hg5.out.below.mono hX4.out.2.2.size)⟩
  have hlt2 := hBR.out.2.2
  have x4c := hX5.out.2.1.c4
  have xfz := hX5.out.2.1.fz
  obtain ⟨w6, hw6⟩ : ∃ w6, W5.setCell ⟨W2.heap.size, 4, none⟩ (.int .i64 I) = w6 := ⟨_, rfl⟩
  have hX6 : Hid (Box w6 w.heap.size zeroS ∧ Box w6 W2.heap.size ⟨2, 0, 0, 0, I, 0, none, 0, []⟩ ∧ Below w.heap.size w w6) := by
    show _ ∧ _
    rw [← hw6]
    exact ⟨hX5.out.1.other (by omega), hX5.out.2.1.set 4 _ rfl rfl rfl rfl rfl rfl rfl, hX5.out.2.2.setCell (p := ⟨W2.heap.size, 4, none⟩) (by show _ ≤ W2.heap.size; omega) _⟩
  obtain ⟨k0, k1, k2, k3, k4⟩ := row5 (hH.out.2.2.1.below hX6.out.2.2)
  have x4d := hX6.out.2.1.c4
  have hc2 : ¬ cap = 2 := by omega
  have hc3 : ¬ cap = 3 := by omega
  have hc4 : ¬ cap = 4 := by omega
  go_wp2_with fail
  go_region
  clear hw6 x4c x4d xfz k0 k1 k2 k3 k4
  obtain ⟨W7, hW7⟩ : ∃ W7, (w6.alloc (.cells #[.string ⟨y.toArray⟩, .string ⟨x1.toArray⟩, .string ⟨x2.toArray⟩, .string ⟨x4.toArray⟩] 9)).drew = W7 := ⟨_, rfl⟩
  have hg7 : Hid (Gr w6 W7) := by show Gr _ _; rw [← hW7]; exact ((Gr.refl _).alloc _).drew
  have hX7 : Hid (Box W7 w.heap.size zeroS ∧ Box W7 W2.heap.size ⟨2, 0, 0, 0, I, 0, none, 0, []⟩ ∧ Below w.heap.size w W7) := ⟨hX6.out.1.below hg7.out.below, hX6.out.2.1.below hg7.out.below, hX6.out.2.2.trans (hg7.out.below.mono hX6.out.2.2.size)⟩
  have hr7 : Hid (RowX W7 (some ⟨w6.heap.size, 1, none⟩) [x1, x2, x4]) := by show RowX _ _ _; rw [← hW7]; exact row_three w6 y x1 x2 x4
  rw [hW7]
  clear hW7
  by_cases hs : signP x3 = 0
  · have hI1 : I < 1 := by have := (idx_sign x3).1.2 hs; rw [hIH.out] at this; exact this
    have hbad : Hid (stepP [y, x1, x2, x3, x4] = none) := by show _ = _; rw [hst.out]; unfold whereP; rw [if_pos hs]
    have c0 := hX7.out.1.c0
    have c1 := hX7.out.1.c1
    have c2 := hX7.out.1.c2
    have c3 := hX7.out.1.c3
    have c4 := hX7.out.1.c4
    have c5 := hX7.out.1.c5
    have c6 := hX7.out.1.c6
    have fz := hX7.out.1.fz
    have x4d := hX7.out.2.1.c4
    simp only at x4d
    go_wp2
    exact bodyPost_ret (v := .tuple #[.agg #[.int .i64 0, .int .i64 0, .int .i64 0, .int .i64 0, .int .i64 0, .int .i64 0, .slice none 0 0], .bool false]) (by simp [results, Tryd.results11, go_sem, c0, c1, c2, c3, c4, c5, c6]) rfl ⟨zeroS, by rw [← hH.out.2.2.2.2.1, stpB_none hbad.out]; rfl, below_set7 hX7.out.2.2 (Nat.le_refl _) _ _ _ _ _ _ _, fun t ht => by rw [hbad.out] at ht; cases ht⟩
  have hI1 : ¬ I < 1 := by have := mt (idx_sign x3).1.1 hs; rw [hIH.out] at this; exact this
  have hIs : Hid (signP x3 = I ∧ ¬ signP x3 = 0) := ⟨by rw [← (idx_sign x3).2 hs, hIH.out], hs⟩
  obtain ⟨B, hB⟩ : ∃ B, whsB [x1, x2, x4] = B := ⟨_, rfl⟩
  have hWh0 := wholes_any [x1, x2, x4] (some ⟨w6.heap.size, 1, none⟩) 3 W7 hr7.out (by simp) (fun x hx => hH.out.2.2.2.1 x (by simp at hx ⊢; rcases hx with h | h | h <;> simp [h])) hB
  have hWh : Hid _ := hWh0
  have hBH : Hid (whsB [x1, x2, x4] = B) := hB
  have x4d := hX7.out.2.1.c4
  simp only at x4d
  clear hWh0 hB hs
  go_wp2_with fail
  clear x4d
  refine Calls.mono (show Calls _ _ _ _ _ from hWh.out) ?_
  rintro e w8 ⟨v, rfl, b8, hO⟩
  have hX8 : Hid (Box w8 w.heap.size zeroS ∧ Box w8 W2.heap.size ⟨2, 0, 0, 0, I, 0, none, 0, []⟩ ∧ Below w.heap.size w w8) := ⟨hX7.out.1.below b8, hX7.out.2.1.below b8, hX7.out.2.2.trans (b8.mono hX7.out.2.2.size)⟩
  have c0 := hX8.out.1.c0
  have c1 := hX8.out.1.c1
  have c2 := hX8.out.1.c2
  have c3 := hX8.out.1.c3
  have c4 := hX8.out.1.c4
  have c5 := hX8.out.1.c5
  have c6 := hX8.out.1.c6
  have fz := hX8.out.1.fz
  cases B
  · have hbad : Hid (stepP [y, x1, x2, x3, x4] = none) := by
      show _ = _
      rw [hst.out]
      exact where_nums_none hBH.out
    clear hWh hO b8
    go_wp2
    exact bodyPost_ret (v := .tuple #[.agg #[.int .i64 0, .int .i64 0, .int .i64 0, .int .i64 0, .int .i64 0, .int .i64 0, .slice none 0 0], .bool false]) (by simp [results, Tryd.results11, go_sem, c0, c1, c2, c3, c4, c5, c6]) rfl ⟨zeroS, by rw [← hH.out.2.2.2.2.1, stpB_none hbad.out]; rfl, below_set7 hX8.out.2.2 (Nat.le_refl _) _ _ _ _ _ _ _, fun t ht => by rw [hbad.out] at ht; cases ht⟩
  · obtain ⟨y0, y1, y2, hnl, hwp⟩ := where_nums (x3 := x3) hIs.out.2 hBH.out
    obtain ⟨uA, uc, rfl, _, hrow8, _, hfl8, _⟩ := OwnG.full encI_len (hO _ hnl)
    have hgood : Hid (stepP [y, x1, x2, x3, x4] = some ⟨2, y0, 0, y1, I, y2, none, 0, []⟩) := by show _ = _; rw [hst.out, hwp, hIs.out.1]
    obtain ⟨vb, vo, rfl, hvc⟩ := rowI_cells hrow8 (by simp)
    have hs7 := hX7.out.2.1.lt
    have hvb : vb ≠ W2.heap.size := by have h9 := (hfl8 _ rfl).1; simp at h9; omega
    have hvb2 : W2.heap.size ≠ vb := fun e => hvb e.symm
    have v0 : w8.cell? ⟨vb, vo, none⟩ = some (.int .i64 y0) := hvc 0 (by simp)
    have v1 : w8.cell? ⟨vb, vo + 1, none⟩ = some (.int .i64 y1) := hvc 1 (by simp)
    have v2 : w8.cell? ⟨vb, vo + 2, none⟩ = some (.int .i64 y2) := hvc 2 (by simp)
    have z0 := hX8.out.2.1.c0
    have z1 := hX8.out.2.1.c1
    have z2 := hX8.out.2.1.c2
    have z3 := hX8.out.2.1.c3
    have z4 := hX8.out.2.1.c4
    have z5 := hX8.out.2.1.c5
    have z6 := hX8.out.2.1.c6
    have xfz := hX8.out.2.1.fz
    have hne : w.heap.size ≠ W2.heap.size := by omega
    have hne2 : W2.heap.size ≠ w.heap.size := fun e => hne e.symm
    have hwx : w.heap.size ≤ W2.heap.size := by omega
    simp only at z0 z1 z2 z3 z4 z5 z6
    clear hWh hO b8 hrow8 hvc hnl hwp hfl8 hs7 hlt2
    generalize W2.heap.size = XB at *
    go_wp2
    go_region
    go_wp2
    exact bodyPost_ret (v := .tuple #[.agg #[.int .i64 2, .int .i64 y0, .int .i64 0, .int .i64 y1, .int .i64 I, .int .i64 y2, .slice none 0 0], .bool true]) (by simp [results, Tryd.results11, go_sem, c0, c1, c2, c3, c4, c5, c6]) rfl ⟨⟨2, y0, 0, y1, I, y2, none, 0, []⟩, by rw [← hH.out.2.2.2.2.1, stpB_some hgood.out]; rfl, (below_set7 (Below.setCell (p := ⟨XB, 5, none⟩) (Below.setCell (p := ⟨XB, 3, none⟩) (Below.setCell (p := ⟨XB, 1, none⟩) hX8.out.2.2 hwx _) hwx _) hwx _) (Nat.le_refl _) _ _ _ _ _ _ _).drew, fun t ht => by rw [hgood.out] at ht; rw [← Option.some.inj ht]; exact ⟨rfl, ⟨Or.inl rfl, by simp [maxLen], fun _ => rfl⟩, fun a ha => by cases ha⟩⟩
end Go.Proofs.YtoodkgmpggabdaaDoor
