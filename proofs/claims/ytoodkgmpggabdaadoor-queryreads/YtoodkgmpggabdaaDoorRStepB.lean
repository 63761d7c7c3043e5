/-
  viewref.readStep: kinds whose parts are numbers alone.
-/
import Derived.Test.YtoodkgmpggabdaaDoorRStepA
namespace Go.Proofs.YtoodkgmpggabdaaDoor
open Go.RowKit Go.Sort

/-- The step of a line's words. -/
def stepP (ws : List (List UInt8)) : Option Stp := match ws with
  | [] => none
  | y :: r => if kindP y = 0 ∨ r.length ≠ (partL (kindP y)).length then none else partsP (bareK (kindP y)) (partL (kindP y)) r
theorem lineP_step (x : List UInt8) : lineP x = stepP (splitC 32 x) := rfl
def stpB (ws : List (List UInt8)) : Bool := (stepP ws).isSome
/-- What readStep tells of words that are a line. -/
def StpO (ws : List (List UInt8)) (w w' : World) (t' : Stp) : Prop := ∀ t, stepP ws = some t → clr t' = clr t ∧ Held w' t' ∧ ∀ a, t'.p = some a → w.heap.size ≤ a.block ∧ a.block < w'.heap.size
theorem stpB_none {ws : List (List UInt8)} (h : stepP ws = none) : stpB ws = false := by unfold stpB; rw [h]; rfl
theorem stpB_some {ws : List (List UInt8)} {t : Stp} (h : stepP ws = some t) : stpB ws = true := by unfold stpB; rw [h]; rfl
theorem row_tail {w : World} {b off : Nat} {y : List UInt8} {r : List (List UInt8)} (h : RowX w (some ⟨b, off, none⟩) (y :: r)) : RowX w (some ⟨b, off + 1, none⟩) r := by
  rcases h with h | ⟨b', off', hA, hb, hc⟩
  · cases h
  · injection hA with hA
    injection hA with h1 h2
    subst h1 h2
    refine Or.inr ⟨b, off + 1, rfl, hb, fun j hj i hi => ?_⟩
    have := hc (j + 1) (by simpa using hj) i hi
    rw [show off + (j + 1) * 1 + i = off + 1 + j * 1 + i by omega] at this
    exact this
theorem rowI_cells {w : World} {A : Option Addr} {l : List Int} (h : RowI w A l) (h0 : l ≠ []) : ∃ b off, A = some ⟨b, off, none⟩ ∧ ∀ j (hj : j < l.length), w.cell? ⟨b, off + j, none⟩ = some (.int .i64 l[j]) := by
  obtain ⟨b, off, hA, _, hc⟩ := h.at (m := 0) (List.length_pos_iff.2 h0)
  refine ⟨b, off, hA, fun j hj => ?_⟩
  have := hc j hj 0 (by omega)
  simpa [encI] using this

def setF (s : Stp) (p : UInt8) (n : Int) : Stp := if p = 65 then { s with a := n } else if p = 66 then { s with b := n } else if p = 67 then { s with c := n } else { s with v := n }
def setAll : Stp → List UInt8 → List Int → Stp
  | s, p :: ps, n :: l => setAll (setF s p n) ps l
  | s, _, _ => s
theorem partN {s : Stp} {p : UInt8} {x : List UInt8} (h1 : p ≠ 79) (h2 : p ≠ 76) : partP s p x = (numP x).map (setF s p) := by
  unfold partP setF
  rw [if_neg h1, if_neg h2]
  cases numP x <;> rfl
theorem partsN : ∀ (ps : List UInt8) (xs : List (List UInt8)) (s : Stp), (∀ p ∈ ps, p ≠ 79 ∧ p ≠ 76) → ps.length = xs.length → partsP s ps xs = (numsP xs).map (setAll s ps)
  | [], [], _, _, _ => rfl
  | [], _ :: _, _, _, h => by simp at h
  | _ :: _, [], _, _, h => by simp at h
  | p :: ps, x :: xs, s, hp, hl => by
    have h0 := hp p (List.mem_cons_self ..)
    have ih := fun t => partsN ps xs t (fun q hq => hp q (List.mem_cons_of_mem _ hq)) (by simpa using hl)
    unfold partsP numsP
    rw [partN h0.1 h0.2]
    cases numP x with
    | none => rfl
    | some n =>
      show partsP (setF s p n) ps xs = _
      rw [ih]
      cases numsP xs <;> rfl
theorem step_len {ws : List (List UInt8)} {y : List UInt8} {r : List (List UInt8)} (hw : ws = y :: r) (h : r.length ≠ (partL (kindP y)).length) : stepP ws = none := by
  subst hw
  unfold stepP
  exact if_pos (Or.inr h)
theorem step_nums {ws : List (List UInt8)} {y : List UInt8} {r : List (List UInt8)} {K : Int} (hw : ws = y :: r) (hk : kindP y = K) (h0 : K ≠ 0) (hl : r.length = (partL K).length) (hp : ∀ p ∈ partL K, p ≠ 79 ∧ p ≠ 76) : stepP ws = (numsP r).map (setAll (bareK K) (partL K)) := by
  subst hw
  unfold stepP
  simp only [hk]
  rw [if_neg (fun h => h.elim h0 (fun k => k hl))]
  exact partsN _ _ _ hp hl.symm
theorem numsP_len : ∀ {xs : List (List UInt8)} {l : List Int}, numsP xs = some l → l.length = xs.length
  | [], l, h => by simp [numsP] at h; subst h; rfl
  | x :: xs, l, h => by
    unfold numsP at h
    cases e : numP x with
    | none => rw [e] at h; cases h
    | some n =>
      rw [e] at h
      cases e2 : numsP xs with
      | none => rw [e2] at h; cases h
      | some a =>
        rw [e2] at h
        obtain rfl := Option.some.inj h
        simp [numsP_len e2]


set_option maxRecDepth 100000 in
set_option maxHeartbeats 4000000 in
theorem rstep_1 (y : List UInt8) (r : List (List UInt8)) (A : Option Addr) (cap : Nat) (w : World) (hr : RowX w A (y :: r)) (hl : (y :: r).length ≤ 2000) (hcap : (y :: r).length ≤ cap) (hx : ∀ x ∈ y :: r, x.length ≤ 2000) (hv : Verbs w) (hk : kindP y = 1) {B9 : Bool} (hB9 : stpB (y :: r) = B9) :
    Calls Tryd.prog 11 #[.slice A (y :: r).length cap] w fun e w' => ∃ t', e = .returned (.tuple #[.agg #[.int .i64 t'.k, .int .i64 t'.a, .int .i64 t'.b, .int .i64 t'.c, .int .i64 t'.o, .int .i64 t'.v, .slice t'.p t'.l.length t'.n], .bool B9]) ∧ Below w.heap.size w w' ∧ StpO (y :: r) w w' t' := by
  have mixed : Tryd.prog.follows .mixedOrders = true := by kernel_rfl
  obtain ⟨b, off, rfl, hb, hcs⟩ := hr.at (m := 0) (by simp)
  have e0 := hcs 0 (by simp) 0 (by omega)
  have e1 : w.cell? ⟨b, off, none⟩ = some (.string ⟨y.toArray⟩) := by simpa [encX] using e0
  have hki : idxX verbL y = 1 := by rw [idx_kind.1 (by rw [hk]; decide), hk]
  obtain ⟨W0, hW0⟩ : ∃ W0, w.alloc (.cells #[.int .i64 0, .int .i64 0, .int .i64 0, .int .i64 0, .int .i64 0, .int .i64 0, .slice none 0 0] 32) = W0 := ⟨_, rfl⟩
  have hg0 : Gr w W0 := by rw [← hW0]; exact (Gr.refl _).alloc _
  have hB0 : Box W0 w.heap.size zeroS := hW0 ▸ box_new w
  have g0 := hg0.cellG (a := ⟨b, off, none⟩) hb e1
  have hIx : Hid (∀ n os, Calls Tryd.prog 22 #[.slice (some ⟨0, 0, none⟩) 10 10, .string ⟨y.toArray⟩] (grow (W0.drewN n) os) fun e w' => e = .returned (.int .i64 1) ∧ ∃ q os', w' = grow ((grow (W0.drewN n) os).drewN q) os') := fun n os => index_any verbL y (some ⟨0, 0, none⟩) 10 _ ((hv.below hg0.below).below (show Gr W0 _ from ⟨n, os, rfl⟩).below).row (by decide) hki
  have hH : Hid (Gr w W0 ∧ Box W0 w.heap.size zeroS ∧ RowX w (some ⟨b, off, none⟩) (y :: r) ∧ (∀ x ∈ y :: r, x.length ≤ 2000) ∧ stpB (y :: r) = B9 ∧ kindP y = 1) := ⟨hg0, hB0, hr, hx, hB9, hk⟩
  obtain ⟨m, hm⟩ : ∃ m, (y :: r).length = m := ⟨_, rfl⟩
  have hmr : Hid (r.length + 1 = m) := by show _ = _; rw [← hm]; rfl
  rw [hm] at hl hcap ⊢
  have hm1 : 1 ≤ m := by rw [← hm]; simp
  have hlz : (0 : Int) < (m : Int) := by omega
  clear hcs e0 hr hv hk hki hg0 hB0 hm hx hB9
  go_enter Tryd.func11, Tryd.ntmps11
  go_wp2_with fail
  clear hW0
  refine wp_region_quiet_grown mixed (by kernel_rfl) ?_
  repeat (go_big_quiet_step (first | (go_at_call 22; refine Calls.grown_of (hIx.out _ _)) | fail))
  refine wpQuiet_nil ?_
  rintro _ ⟨⟨nq2, osq2⟩, rfl⟩
  obtain ⟨W1, hW1⟩ : ∃ W1, grow (W0.drewN nq2) osq2 = W1 := ⟨_, rfl⟩
  have hg1 : Hid (Gr W0 W1) := by show Gr _ _; rw [← hW1]; exact ⟨nq2, osq2, rfl⟩
  rw [hW1]
  clear hW1 g0 e1 hIx
  obtain ⟨W2, hW2⟩ : ∃ W2, W1.alloc (.cells #[.int .i64 0, .int .i64 2, .int .i64 5, .int .i64 3, .int .i64 5, .int .i64 3, .int .i64 3, .int .i64 2, .int .i64 3, .int .i64 4] 3) = W2 := ⟨_, rfl⟩
  have hg2 : Hid (Gr W1 W2) := by show Gr _ _; rw [← hW2]; exact (Gr.refl _).alloc _
  have q0 : W2.cell? ⟨W1.heap.size, 1, none⟩ = some (.int .i64 2) := by rw [← hW2]; exact box1 (w := W1) (Gr.refl _) rfl
  have hB2 : Hid (Box W2 w.heap.size zeroS ∧ Below w.heap.size w W2) := ⟨(hH.out.2.1.below hg1.out.below).below hg2.out.below, ((hH.out.1.trans hg1.out).trans hg2.out).below⟩
  by_cases hmm : m = 2
  rotate_left
  focus
    have hmz : ((m : Int) != 2) = true := by simp; omega
    have hbad : Hid (stepP (y :: r) = none) := step_len rfl (by rw [hH.out.2.2.2.2.2]; have := hmr.out; show r.length ≠ 1; omega)
    have c0 := hB2.out.1.c0
    have c1 := hB2.out.1.c1
    have c2 := hB2.out.1.c2
    have c3 := hB2.out.1.c3
    have c4 := hB2.out.1.c4
    have c5 := hB2.out.1.c5
    have c6 := hB2.out.1.c6
    have fz := hB2.out.1.fz
    go_wp2
    exact bodyPost_ret (v := .tuple #[.agg #[.int .i64 0, .int .i64 0, .int .i64 0, .int .i64 0, .int .i64 0, .int .i64 0, .slice none 0 0], .bool false]) (by simp [results, Tryd.results11, go_sem, c0, c1, c2, c3, c4, c5, c6]) rfl ⟨zeroS, by rw [← hH.out.2.2.2.2.1, stpB_none hbad.out]; rfl, below_set7 hB2.out.2 (Nat.le_refl _) _ _ _ _ _ _ _, fun t ht => by rw [hbad.out] at ht; cases ht⟩
  subst hmm
  have hrl : r.length = 1 := by have := hmr.out; omega
  have hg3 : Hid (Gr W2 (W2.alloc (.cells #[.int .i64 1, .int .i64 0, .int .i64 0, .int .i64 0, .int .i64 0, .int .i64 0, .slice none 0 0] 32))) := (Gr.refl _).alloc _
  have hXB : Hid (Box (W2.alloc (.cells #[.int .i64 1, .int .i64 0, .int .i64 0, .int .i64 0, .int .i64 0, .int .i64 0, .slice none 0 0] 32)) W2.heap.size (bareK 1)) := by
    show Box _ _ _
    exact ⟨box1 (w := W2) (Gr.refl _) rfl, box1 (w := W2) (Gr.refl _) rfl, box1 (w := W2) (Gr.refl _) rfl, box1 (w := W2) (Gr.refl _) rfl, box1 (w := W2) (Gr.refl _) rfl, box1 (w := W2) (Gr.refl _) rfl, box1 (w := W2) (Gr.refl _) rfl, fun j => World.frozen?_alloc_at (w := W2) _ _ W2.heap.size j rfl, by simp⟩
  have hBR : Hid (Box (W2.alloc (.cells #[.int .i64 1, .int .i64 0, .int .i64 0, .int .i64 0, .int .i64 0, .int .i64 0, .slice none 0 0] 32)) w.heap.size zeroS ∧ Below w.heap.size w (W2.alloc (.cells #[.int .i64 1, .int .i64 0, .int .i64 0, .int .i64 0, .int .i64 0, .int .i64 0, .slice none 0 0] 32)) ∧ w.heap.size < W2.heap.size) := ⟨hB2.out.1.below hg3.out.below, hB2.out.2.trans (hg3.out.below.mono hB2.out.2.size), hB2.out.1.lt⟩
  obtain ⟨B, hB⟩ : ∃ B, whsB r = B := ⟨_, rfl⟩
  have hWh0 := wholes_any r (some ⟨b, off + 1, none⟩) (cap - 1) (W2.alloc (.cells #[.int .i64 1, .int .i64 0, .int .i64 0, .int .i64 0, .int .i64 0, .int .i64 0, .slice none 0 0] 32)) (row_tail (hH.out.2.2.1.below hBR.out.2.1)) (by omega) (fun x hx => hH.out.2.2.2.1 x (List.mem_cons_of_mem _ hx)) hB
  rw [hrl] at hWh0
  have hWh : Hid _ := hWh0
  have hc1 : ¬ cap = 1 := by omega
  have hst : Hid (stepP (y :: r) = (numsP r).map (setAll (bareK 1) (partL 1))) := step_nums rfl hH.out.2.2.2.2.2 (by decide) (by rw [hrl]; rfl) (by decide)
  have hBH : Hid (whsB r = B ∧ r.length = 1) := ⟨hB, hrl⟩
  clear hWh0 hB hrl hmr
  go_wp2_with fail
  clear hW2 q0
  refine Calls.mono (show Calls _ _ _ _ _ from hWh.out) ?_
  rintro e w4 ⟨v, rfl, hb4, hO⟩
  have hX4 : Hid (Box w4 w.heap.size zeroS ∧ Box w4 W2.heap.size (bareK 1) ∧ Below w.heap.size w w4) := ⟨hBR.out.1.below hb4, hXB.out.below hb4, hBR.out.2.1.trans (hb4.mono hBR.out.2.1.size)⟩
  have c0 := hX4.out.1.c0
  have c1 := hX4.out.1.c1
  have c2 := hX4.out.1.c2
  have c3 := hX4.out.1.c3
  have c4 := hX4.out.1.c4
  have c5 := hX4.out.1.c5
  have c6 := hX4.out.1.c6
  have fz := hX4.out.1.fz
  cases B
  · have hbad : Hid (stepP (y :: r) = none) := by
      show _ = _
      rw [hst.out]
      have := hBH.out.1
      unfold whsB at this
      cases e : numsP r with
      | none => rfl
      | some l => rw [e] at this; cases this
    clear hWh hO hb4
    go_wp2
    exact bodyPost_ret (v := .tuple #[.agg #[.int .i64 0, .int .i64 0, .int .i64 0, .int .i64 0, .int .i64 0, .int .i64 0, .slice none 0 0], .bool false]) (by simp [results, Tryd.results11, go_sem, c0, c1, c2, c3, c4, c5, c6]) rfl ⟨zeroS, by rw [← hH.out.2.2.2.2.1, stpB_none hbad.out]; rfl, below_set7 hX4.out.2.2 (Nat.le_refl _) _ _ _ _ _ _ _, fun t ht => by rw [hbad.out] at ht; cases ht⟩
  · obtain ⟨l, hnl⟩ : ∃ l, numsP r = some l := by
      have := hBH.out.1
      unfold whsB at this
      cases e : numsP r with
      | none => rw [e] at this; cases this
      | some l => exact ⟨l, rfl⟩
    have hll : l.length = 1 := (numsP_len hnl).trans hBH.out.2
    obtain ⟨vA, vc, rfl, _, hrow, _, hfl, _⟩ := OwnG.full encI_len (hO l hnl)
    have hgood : Hid (stepP (y :: r) = some (setAll (bareK 1) (partL 1) l)) := by show _ = _; rw [hst.out, hnl]; rfl
    obtain ⟨vb, vo, rfl, hvc⟩ := rowI_cells hrow (fun e => by rw [e] at hll; cases hll)
    have hvb : vb ≠ W2.heap.size := by have h9 := (hfl _ rfl).1; simp at h9; omega
    have hvb2 : W2.heap.size ≠ vb := fun e => hvb e.symm
    clear hfl
    match l, hll with
    | [y0], _ =>
      have v0 : w4.cell? ⟨vb, vo, none⟩ = some (.int .i64 y0) := (hvc 0 (by simp))
      have x0 := hX4.out.2.1.c0
      have x1 := hX4.out.2.1.c1
      have x2 := hX4.out.2.1.c2
      have x3 := hX4.out.2.1.c3
      have x4 := hX4.out.2.1.c4
      have x5 := hX4.out.2.1.c5
      have x6 := hX4.out.2.1.c6
      have xfz := hX4.out.2.1.fz
      have hne : w.heap.size ≠ W2.heap.size := by have := hBR.out.2.2; omega
      have hne2 : W2.heap.size ≠ w.heap.size := fun e => hne e.symm
      have hwx : w.heap.size ≤ W2.heap.size := by have := hBR.out.2.2; omega
      simp only [bareK] at x0 x1 x2 x3 x4 x5 x6
      clear hWh hO hb4 hrow hvc hnl
      generalize W2.heap.size = XB at *
      go_wp2
      skip
      exact bodyPost_ret (v := .tuple #[.agg #[.int .i64 1, .int .i64 y0, .int .i64 0, .int .i64 0, .int .i64 0, .int .i64 0, .slice none 0 0], .bool true]) (by simp [results, Tryd.results11, go_sem, c0, c1, c2, c3, c4, c5, c6]) rfl ⟨⟨1, y0, 0, 0, 0, 0, none, 0, []⟩, by rw [← hH.out.2.2.2.2.1, stpB_some hgood.out]; rfl, below_set7 (Below.setCell (p := ⟨XB, 1, none⟩) hX4.out.2.2 hwx _) (Nat.le_refl _) _ _ _ _ _ _ _, fun t ht => by rw [hgood.out] at ht; rw [← Option.some.inj ht]; exact ⟨rfl, ⟨Or.inl rfl, by simp [maxLen], fun _ => rfl⟩, fun a ha => by cases ha⟩⟩


set_option maxRecDepth 100000 in
set_option maxHeartbeats 4000000 in
theorem rstep_5 (y : List UInt8) (r : List (List UInt8)) (A : Option Addr) (cap : Nat) (w : World) (hr : RowX w A (y :: r)) (hl : (y :: r).length ≤ 2000) (hcap : (y :: r).length ≤ cap) (hx : ∀ x ∈ y :: r, x.length ≤ 2000) (hv : Verbs w) (hk : kindP y = 5) {B9 : Bool} (hB9 : stpB (y :: r) = B9) :
    Calls Tryd.prog 11 #[.slice A (y :: r).length cap] w fun e w' => ∃ t', e = .returned (.tuple #[.agg #[.int .i64 t'.k, .int .i64 t'.a, .int .i64 t'.b, .int .i64 t'.c, .int .i64 t'.o, .int .i64 t'.v, .slice t'.p t'.l.length t'.n], .bool B9]) ∧ Below w.heap.size w w' ∧ StpO (y :: r) w w' t' := by
  have mixed : Tryd.prog.follows .mixedOrders = true := by kernel_rfl
  obtain ⟨b, off, rfl, hb, hcs⟩ := hr.at (m := 0) (by simp)
  have e0 := hcs 0 (by simp) 0 (by omega)
  have e1 : w.cell? ⟨b, off, none⟩ = some (.string ⟨y.toArray⟩) := by simpa [encX] using e0
  have hki : idxX verbL y = 5 := by rw [idx_kind.1 (by rw [hk]; decide), hk]
  obtain ⟨W0, hW0⟩ : ∃ W0, w.alloc (.cells #[.int .i64 0, .int .i64 0, .int .i64 0, .int .i64 0, .int .i64 0, .int .i64 0, .slice none 0 0] 32) = W0 := ⟨_, rfl⟩
  have hg0 : Gr w W0 := by rw [← hW0]; exact (Gr.refl _).alloc _
  have hB0 : Box W0 w.heap.size zeroS := hW0 ▸ box_new w
  have g0 := hg0.cellG (a := ⟨b, off, none⟩) hb e1
  have hIx : Hid (∀ n os, Calls Tryd.prog 22 #[.slice (some ⟨0, 0, none⟩) 10 10, .string ⟨y.toArray⟩] (grow (W0.drewN n) os) fun e w' => e = .returned (.int .i64 5) ∧ ∃ q os', w' = grow ((grow (W0.drewN n) os).drewN q) os') := fun n os => index_any verbL y (some ⟨0, 0, none⟩) 10 _ ((hv.below hg0.below).below (show Gr W0 _ from ⟨n, os, rfl⟩).below).row (by decide) hki
  have hH : Hid (Gr w W0 ∧ Box W0 w.heap.size zeroS ∧ RowX w (some ⟨b, off, none⟩) (y :: r) ∧ (∀ x ∈ y :: r, x.length ≤ 2000) ∧ stpB (y :: r) = B9 ∧ kindP y = 5) := ⟨hg0, hB0, hr, hx, hB9, hk⟩
  obtain ⟨m, hm⟩ : ∃ m, (y :: r).length = m := ⟨_, rfl⟩
  have hmr : Hid (r.length + 1 = m) := by show _ = _; rw [← hm]; rfl
  rw [hm] at hl hcap ⊢
  have hm1 : 1 ≤ m := by rw [← hm]; simp
  have hlz : (0 : Int) < (m : Int) := by omega
  clear hcs e0 hr hv hk hki hg0 hB0 hm hx hB9
  go_enter Tryd.func11, Tryd.ntmps11
  go_wp2_with fail
  clear hW0
  refine wp_region_quiet_grown mixed (by kernel_rfl) ?_
  repeat (go_big_quiet_step (first | (go_at_call 22; refine Calls.grown_of (hIx.out _ _)) | fail))
  refine wpQuiet_nil ?_
  rintro _ ⟨⟨nq2, osq2⟩, rfl⟩
  obtain ⟨W1, hW1⟩ : ∃ W1, grow (W0.drewN nq2) osq2 = W1 := ⟨_, rfl⟩
  have hg1 : Hid (Gr W0 W1) := by show Gr _ _; rw [← hW1]; exact ⟨nq2, osq2, rfl⟩
  rw [hW1]
  clear hW1 g0 e1 hIx
  obtain ⟨W2, hW2⟩ : ∃ W2, W1.alloc (.cells #[.int .i64 0, .int .i64 2, .int .i64 5, .int .i64 3, .int .i64 5, .int .i64 3, .int .i64 3, .int .i64 2, .int .i64 3, .int .i64 4] 3) = W2 := ⟨_, rfl⟩
  have hg2 : Hid (Gr W1 W2) := by show Gr _ _; rw [← hW2]; exact (Gr.refl _).alloc _
  have q0 : W2.cell? ⟨W1.heap.size, 5, none⟩ = some (.int .i64 3) := by rw [← hW2]; exact box1 (w := W1) (Gr.refl _) rfl
  have hB2 : Hid (Box W2 w.heap.size zeroS ∧ Below w.heap.size w W2) := ⟨(hH.out.2.1.below hg1.out.below).below hg2.out.below, ((hH.out.1.trans hg1.out).trans hg2.out).below⟩
  by_cases hmm : m = 3
  rotate_left
  focus
    have hmz : ((m : Int) != 3) = true := by simp; omega
    have hbad : Hid (stepP (y :: r) = none) := step_len rfl (by rw [hH.out.2.2.2.2.2]; have := hmr.out; show r.length ≠ 2; omega)
    have c0 := hB2.out.1.c0
    have c1 := hB2.out.1.c1
    have c2 := hB2.out.1.c2
    have c3 := hB2.out.1.c3
    have c4 := hB2.out.1.c4
    have c5 := hB2.out.1.c5
    have c6 := hB2.out.1.c6
    have fz := hB2.out.1.fz
    go_wp2
    exact bodyPost_ret (v := .tuple #[.agg #[.int .i64 0, .int .i64 0, .int .i64 0, .int .i64 0, .int .i64 0, .int .i64 0, .slice none 0 0], .bool false]) (by simp [results, Tryd.results11, go_sem, c0, c1, c2, c3, c4, c5, c6]) rfl ⟨zeroS, by rw [← hH.out.2.2.2.2.1, stpB_none hbad.out]; rfl, below_set7 hB2.out.2 (Nat.le_refl _) _ _ _ _ _ _ _, fun t ht => by rw [hbad.out] at ht; cases ht⟩
  subst hmm
  have hrl : r.length = 2 := by have := hmr.out; omega
  have hg3 : Hid (Gr W2 (W2.alloc (.cells #[.int .i64 5, .int .i64 0, .int .i64 0, .int .i64 0, .int .i64 0, .int .i64 0, .slice none 0 0] 32))) := (Gr.refl _).alloc _
  have hXB : Hid (Box (W2.alloc (.cells #[.int .i64 5, .int .i64 0, .int .i64 0, .int .i64 0, .int .i64 0, .int .i64 0, .slice none 0 0] 32)) W2.heap.size (bareK 5)) := by
    show Box _ _ _
    exact ⟨box1 (w := W2) (Gr.refl _) rfl, box1 (w := W2) (Gr.refl _) rfl, box1 (w := W2) (Gr.refl _) rfl, box1 (w := W2) (Gr.refl _) rfl, box1 (w := W2) (Gr.refl _) rfl, box1 (w := W2) (Gr.refl _) rfl, box1 (w := W2) (Gr.refl _) rfl, fun j => World.frozen?_alloc_at (w := W2) _ _ W2.heap.size j rfl, by simp⟩
  have hBR : Hid (Box (W2.alloc (.cells #[.int .i64 5, .int .i64 0, .int .i64 0, .int .i64 0, .int .i64 0, .int .i64 0, .slice none 0 0] 32)) w.heap.size zeroS ∧ Below w.heap.size w (W2.alloc (.cells #[.int .i64 5, .int .i64 0, .int .i64 0, .int .i64 0, .int .i64 0, .int .i64 0, .slice none 0 0] 32)) ∧ w.heap.size < W2.heap.size) := ⟨hB2.out.1.below hg3.out.below, hB2.out.2.trans (hg3.out.below.mono hB2.out.2.size), hB2.out.1.lt⟩
  obtain ⟨B, hB⟩ : ∃ B, whsB r = B := ⟨_, rfl⟩
  have hWh0 := wholes_any r (some ⟨b, off + 1, none⟩) (cap - 1) (W2.alloc (.cells #[.int .i64 5, .int .i64 0, .int .i64 0, .int .i64 0, .int .i64 0, .int .i64 0, .slice none 0 0] 32)) (row_tail (hH.out.2.2.1.below hBR.out.2.1)) (by omega) (fun x hx => hH.out.2.2.2.1 x (List.mem_cons_of_mem _ hx)) hB
  rw [hrl] at hWh0
  have hWh : Hid _ := hWh0
  have hc1 : ¬ cap = 1 := by omega
  have hst : Hid (stepP (y :: r) = (numsP r).map (setAll (bareK 5) (partL 5))) := step_nums rfl hH.out.2.2.2.2.2 (by decide) (by rw [hrl]; rfl) (by decide)
  have hBH : Hid (whsB r = B ∧ r.length = 2) := ⟨hB, hrl⟩
  clear hWh0 hB hrl hmr
  go_wp2_with fail
  clear hW2 q0
  refine Calls.mono (show Calls _ _ _ _ _ from hWh.out) ?_
  rintro e w4 ⟨v, rfl, hb4, hO⟩
  have hX4 : Hid (Box w4 w.heap.size zeroS ∧ Box w4 W2.heap.size (bareK 5) ∧ Below w.heap.size w w4) := ⟨hBR.out.1.below hb4, hXB.out.below hb4, hBR.out.2.1.trans (hb4.mono hBR.out.2.1.size)⟩
  have c0 := hX4.out.1.c0
  have c1 := hX4.out.1.c1
  have c2 := hX4.out.1.c2
  have c3 := hX4.out.1.c3
  have c4 := hX4.out.1.c4
  have c5 := hX4.out.1.c5
  have c6 := hX4.out.1.c6
  have fz := hX4.out.1.fz
  cases B
  · have hbad : Hid (stepP (y :: r) = none) := by
      show _ = _
      rw [hst.out]
      have := hBH.out.1
      unfold whsB at this
      cases e : numsP r with
      | none => rfl
      | some l => rw [e] at this; cases this
    clear hWh hO hb4
    go_wp2
    exact bodyPost_ret (v := .tuple #[.agg #[.int .i64 0, .int .i64 0, .int .i64 0, .int .i64 0, .int .i64 0, .int .i64 0, .slice none 0 0], .bool false]) (by simp [results, Tryd.results11, go_sem, c0, c1, c2, c3, c4, c5, c6]) rfl ⟨zeroS, by rw [← hH.out.2.2.2.2.1, stpB_none hbad.out]; rfl, below_set7 hX4.out.2.2 (Nat.le_refl _) _ _ _ _ _ _ _, fun t ht => by rw [hbad.out] at ht; cases ht⟩
  · obtain ⟨l, hnl⟩ : ∃ l, numsP r = some l := by
      have := hBH.out.1
      unfold whsB at this
      cases e : numsP r with
      | none => rw [e] at this; cases this
      | some l => exact ⟨l, rfl⟩
    have hll : l.length = 2 := (numsP_len hnl).trans hBH.out.2
    obtain ⟨vA, vc, rfl, _, hrow, _, hfl, _⟩ := OwnG.full encI_len (hO l hnl)
    have hgood : Hid (stepP (y :: r) = some (setAll (bareK 5) (partL 5) l)) := by show _ = _; rw [hst.out, hnl]; rfl
    obtain ⟨vb, vo, rfl, hvc⟩ := rowI_cells hrow (fun e => by rw [e] at hll; cases hll)
    have hvb : vb ≠ W2.heap.size := by have h9 := (hfl _ rfl).1; simp at h9; omega
    have hvb2 : W2.heap.size ≠ vb := fun e => hvb e.symm
    clear hfl
    match l, hll with
    | [y0, y1], _ =>
      have v0 : w4.cell? ⟨vb, vo, none⟩ = some (.int .i64 y0) := (hvc 0 (by simp))
      have v1 : w4.cell? ⟨vb, vo + 1, none⟩ = some (.int .i64 y1) := hvc 1 (by simp)
      have x0 := hX4.out.2.1.c0
      have x1 := hX4.out.2.1.c1
      have x2 := hX4.out.2.1.c2
      have x3 := hX4.out.2.1.c3
      have x4 := hX4.out.2.1.c4
      have x5 := hX4.out.2.1.c5
      have x6 := hX4.out.2.1.c6
      have xfz := hX4.out.2.1.fz
      have hne : w.heap.size ≠ W2.heap.size := by have := hBR.out.2.2; omega
      have hne2 : W2.heap.size ≠ w.heap.size := fun e => hne e.symm
      have hwx : w.heap.size ≤ W2.heap.size := by have := hBR.out.2.2; omega
      simp only [bareK] at x0 x1 x2 x3 x4 x5 x6
      clear hWh hO hb4 hrow hvc hnl
      generalize W2.heap.size = XB at *
      go_wp2
      skip
      exact bodyPost_ret (v := .tuple #[.agg #[.int .i64 5, .int .i64 y0, .int .i64 y1, .int .i64 0, .int .i64 0, .int .i64 0, .slice none 0 0], .bool true]) (by simp [results, Tryd.results11, go_sem, c0, c1, c2, c3, c4, c5, c6]) rfl ⟨⟨5, y0, y1, 0, 0, 0, none, 0, []⟩, by rw [← hH.out.2.2.2.2.1, stpB_some hgood.out]; rfl, below_set7 (Below.setCell (p := ⟨XB, 2, none⟩) (Below.setCell (p := ⟨XB, 1, none⟩) hX4.out.2.2 hwx _) hwx _) (Nat.le_refl _) _ _ _ _ _ _ _, fun t ht => by rw [hgood.out] at ht; rw [← Option.some.inj ht]; exact ⟨rfl, ⟨Or.inl rfl, by simp [maxLen], fun _ => rfl⟩, fun a ha => by cases ha⟩⟩


set_option maxRecDepth 100000 in
set_option maxHeartbeats 4000000 in
theorem rstep_6 (y : List UInt8) (r : List (List UInt8)) (A : Option Addr) (cap : Nat) (w : World) (hr : RowX w A (y :: r)) (hl : (y :: r).length ≤ 2000) (hcap : (y :: r).length ≤ cap) (hx : ∀ x ∈ y :: r, x.length ≤ 2000) (hv : Verbs w) (hk : kindP y = 6) {B9 : Bool} (hB9 : stpB (y :: r) = B9) :
    Calls Tryd.prog 11 #[.slice A (y :: r).length cap] w fun e w' => ∃ t', e = .returned (.tuple #[.agg #[.int .i64 t'.k, .int .i64 t'.a, .int .i64 t'.b, .int .i64 t'.c, .int .i64 t'.o, .int .i64 t'.v, .slice t'.p t'.l.length t'.n], .bool B9]) ∧ Below w.heap.size w w' ∧ StpO (y :: r) w w' t' := by
  have mixed : Tryd.prog.follows .mixedOrders = true := by kernel_rfl
  obtain ⟨b, off, rfl, hb, hcs⟩ := hr.at (m := 0) (by simp)
  have e0 := hcs 0 (by simp) 0 (by omega)
  have e1 : w.cell? ⟨b, off, none⟩ = some (.string ⟨y.toArray⟩) := by simpa [encX] using e0
  have hki : idxX verbL y = 6 := by rw [idx_kind.1 (by rw [hk]; decide), hk]
  obtain ⟨W0, hW0⟩ : ∃ W0, w.alloc (.cells #[.int .i64 0, .int .i64 0, .int .i64 0, .int .i64 0, .int .i64 0, .int .i64 0, .slice none 0 0] 32) = W0 := ⟨_, rfl⟩
  have hg0 : Gr w W0 := by rw [← hW0]; exact (Gr.refl _).alloc _
  have hB0 : Box W0 w.heap.size zeroS := hW0 ▸ box_new w
  have g0 := hg0.cellG (a := ⟨b, off, none⟩) hb e1
  have hIx : Hid (∀ n os, Calls Tryd.prog 22 #[.slice (some ⟨0, 0, none⟩) 10 10, .string ⟨y.toArray⟩] (grow (W0.drewN n) os) fun e w' => e = .returned (.int .i64 6) ∧ ∃ q os', w' = grow ((grow (W0.drewN n) os).drewN q) os') := fun n os => index_any verbL y (some ⟨0, 0, none⟩) 10 _ ((hv.below hg0.below).below (show Gr W0 _ from ⟨n, os, rfl⟩).below).row (by decide) hki
  have hH : Hid (Gr w W0 ∧ Box W0 w.heap.size zeroS ∧ RowX w (some ⟨b, off, none⟩) (y :: r) ∧ (∀ x ∈ y :: r, x.length ≤ 2000) ∧ stpB (y :: r) = B9 ∧ kindP y = 6) := ⟨hg0, hB0, hr, hx, hB9, hk⟩
  obtain ⟨m, hm⟩ : ∃ m, (y :: r).length = m := ⟨_, rfl⟩
  have hmr : Hid (r.length + 1 = m) := by show _ = _; rw [← hm]; rfl
  rw [hm] at hl hcap ⊢
  have hm1 : 1 ≤ m := by rw [← hm]; simp
  have hlz : (0 : Int) < (m : Int) := by omega
  clear hcs e0 hr hv hk hki hg0 hB0 hm hx hB9
  go_enter Tryd.func11, Tryd.ntmps11
  go_wp2_with fail
  clear hW0
  refine wp_region_quiet_grown mixed (by kernel_rfl) ?_
  repeat (go_big_quiet_step (first | (go_at_call 22; refine Calls.grown_of (hIx.out _ _)) | fail))
  refine wpQuiet_nil ?_
  rintro _ ⟨⟨nq2, osq2⟩, rfl⟩
  obtain ⟨W1, hW1⟩ : ∃ W1, grow (W0.drewN nq2) osq2 = W1 := ⟨_, rfl⟩
  have hg1 : Hid (Gr W0 W1) := by show Gr _ _; rw [← hW1]; exact ⟨nq2, osq2, rfl⟩
  rw [hW1]
  clear hW1 g0 e1 hIx
  obtain ⟨W2, hW2⟩ : ∃ W2, W1.alloc (.cells #[.int .i64 0, .int .i64 2, .int .i64 5, .int .i64 3, .int .i64 5, .int .i64 3, .int .i64 3, .int .i64 2, .int .i64 3, .int .i64 4] 3) = W2 := ⟨_, rfl⟩
  have hg2 : Hid (Gr W1 W2) := by show Gr _ _; rw [← hW2]; exact (Gr.refl _).alloc _
  have q0 : W2.cell? ⟨W1.heap.size, 6, none⟩ = some (.int .i64 3) := by rw [← hW2]; exact box1 (w := W1) (Gr.refl _) rfl
  have hB2 : Hid (Box W2 w.heap.size zeroS ∧ Below w.heap.size w W2) := ⟨(hH.out.2.1.below hg1.out.below).below hg2.out.below, ((hH.out.1.trans hg1.out).trans hg2.out).below⟩
  by_cases hmm : m = 3
  rotate_left
  focus
    have hmz : ((m : Int) != 3) = true := by simp; omega
    have hbad : Hid (stepP (y :: r) = none) := step_len rfl (by rw [hH.out.2.2.2.2.2]; have := hmr.out; show r.length ≠ 2; omega)
    have c0 := hB2.out.1.c0
    have c1 := hB2.out.1.c1
    have c2 := hB2.out.1.c2
    have c3 := hB2.out.1.c3
    have c4 := hB2.out.1.c4
    have c5 := hB2.out.1.c5
    have c6 := hB2.out.1.c6
    have fz := hB2.out.1.fz
    go_wp2
    exact bodyPost_ret (v := .tuple #[.agg #[.int .i64 0, .int .i64 0, .int .i64 0, .int .i64 0, .int .i64 0, .int .i64 0, .slice none 0 0], .bool false]) (by simp [results, Tryd.results11, go_sem, c0, c1, c2, c3, c4, c5, c6]) rfl ⟨zeroS, by rw [← hH.out.2.2.2.2.1, stpB_none hbad.out]; rfl, below_set7 hB2.out.2 (Nat.le_refl _) _ _ _ _ _ _ _, fun t ht => by rw [hbad.out] at ht; cases ht⟩
  subst hmm
  have hrl : r.length = 2 := by have := hmr.out; omega
  have hg3 : Hid (Gr W2 (W2.alloc (.cells #[.int .i64 6, .int .i64 0, .int .i64 0, .int .i64 0, .int .i64 0, .int .i64 0, .slice none 0 0] 32))) := (Gr.refl _).alloc _
  have hXB : Hid (Box (W2.alloc (.cells #[.int .i64 6, .int .i64 0, .int .i64 0, .int .i64 0, .int .i64 0, .int .i64 0, .slice none 0 0] 32)) W2.heap.size (bareK 6)) := by
    show Box _ _ _
    exact ⟨box1 (w := W2) (Gr.refl _) rfl, box1 (w := W2) (Gr.refl _) rfl, box1 (w := W2) (Gr.refl _) rfl, box1 (w := W2) (Gr.refl _) rfl, box1 (w := W2) (Gr.refl _) rfl, box1 (w := W2) (Gr.refl _) rfl, box1 (w := W2) (Gr.refl _) rfl, fun j => World.frozen?_alloc_at (w := W2) _ _ W2.heap.size j rfl, by simp⟩
  have hBR : Hid (Box (W2.alloc (.cells #[.int .i64 6, .int .i64 0, .int .i64 0, .int .i64 0, .int .i64 0, .int .i64 0, .slice none 0 0] 32)) w.heap.size zeroS ∧ Below w.heap.size w (W2.alloc (.cells #[.int .i64 6, .int .i64 0, .int .i64 0, .int .i64 0, .int .i64 0, .int .i64 0, .slice none 0 0] 32)) ∧ w.heap.size < W2.heap.size) := ⟨hB2.out.1.below hg3.out.below, hB2.out.2.trans (hg3.out.below.mono hB2.out.2.size), hB2.out.1.lt⟩
  obtain ⟨B, hB⟩ : ∃ B, whsB r = B := ⟨_, rfl⟩
  have hWh0 := wholes_any r (some ⟨b, off + 1, none⟩) (cap - 1) (W2.alloc (.cells #[.int .i64 6, .int .i64 0, .int .i64 0, .int .i64 0, .int .i64 0, .int .i64 0, .slice none 0 0] 32)) (row_tail (hH.out.2.2.1.below hBR.out.2.1)) (by omega) (fun x hx => hH.out.2.2.2.1 x (List.mem_cons_of_mem _ hx)) hB
  rw [hrl] at hWh0
  have hWh : Hid _ := hWh0
  have hc1 : ¬ cap = 1 := by omega
  have hst : Hid (stepP (y :: r) = (numsP r).map (setAll (bareK 6) (partL 6))) := step_nums rfl hH.out.2.2.2.2.2 (by decide) (by rw [hrl]; rfl) (by decide)
  have hBH : Hid (whsB r = B ∧ r.length = 2) := ⟨hB, hrl⟩
  clear hWh0 hB hrl hmr
  go_wp2_with fail
  clear hW2 q0
  refine Calls.mono (show Calls _ _ _ _ _ from hWh.out) ?_
  rintro e w4 ⟨v, rfl, hb4, hO⟩
  have hX4 : Hid (Box w4 w.heap.size zeroS ∧ Box w4 W2.heap.size (bareK 6) ∧ Below w.heap.size w w4) := ⟨hBR.out.1.below hb4, hXB.out.below hb4, hBR.out.2.1.trans (hb4.mono hBR.out.2.1.size)⟩
  have c0 := hX4.out.1.c0
  have c1 := hX4.out.1.c1
  have c2 := hX4.out.1.c2
  have c3 := hX4.out.1.c3
  have c4 := hX4.out.1.c4
  have c5 := hX4.out.1.c5
  have c6 := hX4.out.1.c6
  have fz := hX4.out.1.fz
  cases B
  · have hbad : Hid (stepP (y :: r) = none) := by
      show _ = _
      rw [hst.out]
      have := hBH.out.1
      unfold whsB at this
      cases e : numsP r with
      | none => rfl
      | some l => rw [e] at this; cases this
    clear hWh hO hb4
    go_wp2
    exact bodyPost_ret (v := .tuple #[.agg #[.int .i64 0, .int .i64 0, .int .i64 0, .int .i64 0, .int .i64 0, .int .i64 0, .slice none 0 0], .bool false]) (by simp [results, Tryd.results11, go_sem, c0, c1, c2, c3, c4, c5, c6]) rfl ⟨zeroS, by rw [← hH.out.2.2.2.2.1, stpB_none hbad.out]; rfl, below_set7 hX4.out.2.2 (Nat.le_refl _) _ _ _ _ _ _ _, fun t ht => by rw [hbad.out] at ht; cases ht⟩
  · obtain ⟨l, hnl⟩ : ∃ l, numsP r = some l := by
      have := hBH.out.1
      unfold whsB at this
      cases e : numsP r with
      | none => rw [e] at this; cases this
      | some l => exact ⟨l, rfl⟩
    have hll : l.length = 2 := (numsP_len hnl).trans hBH.out.2
    obtain ⟨vA, vc, rfl, _, hrow, _, hfl, _⟩ := OwnG.full encI_len (hO l hnl)
    have hgood : Hid (stepP (y :: r) = some (setAll (bareK 6) (partL 6) l)) := by show _ = _; rw [hst.out, hnl]; rfl
    obtain ⟨vb, vo, rfl, hvc⟩ := rowI_cells hrow (fun e => by rw [e] at hll; cases hll)
    have hvb : vb ≠ W2.heap.size := by have h9 := (hfl _ rfl).1; simp at h9; omega
    have hvb2 : W2.heap.size ≠ vb := fun e => hvb e.symm
    clear hfl
    match l, hll with
    | [y0, y1], _ =>
      have v0 : w4.cell? ⟨vb, vo, none⟩ = some (.int .i64 y0) := (hvc 0 (by simp))
      have v1 : w4.cell? ⟨vb, vo + 1, none⟩ = some (.int .i64 y1) := hvc 1 (by simp)
      have x0 := hX4.out.2.1.c0
      have x1 := hX4.out.2.1.c1
      have x2 := hX4.out.2.1.c2
      have x3 := hX4.out.2.1.c3
      have x4 := hX4.out.2.1.c4
      have x5 := hX4.out.2.1.c5
      have x6 := hX4.out.2.1.c6
      have xfz := hX4.out.2.1.fz
      have hne : w.heap.size ≠ W2.heap.size := by have := hBR.out.2.2; omega
      have hne2 : W2.heap.size ≠ w.heap.size := fun e => hne e.symm
      have hwx : w.heap.size ≤ W2.heap.size := by have := hBR.out.2.2; omega
      simp only [bareK] at x0 x1 x2 x3 x4 x5 x6
      clear hWh hO hb4 hrow hvc hnl
      generalize W2.heap.size = XB at *
      go_wp2
      skip
      exact bodyPost_ret (v := .tuple #[.agg #[.int .i64 6, .int .i64 y0, .int .i64 y1, .int .i64 0, .int .i64 0, .int .i64 0, .slice none 0 0], .bool true]) (by simp [results, Tryd.results11, go_sem, c0, c1, c2, c3, c4, c5, c6]) rfl ⟨⟨6, y0, y1, 0, 0, 0, none, 0, []⟩, by rw [← hH.out.2.2.2.2.1, stpB_some hgood.out]; rfl, below_set7 (Below.setCell (p := ⟨XB, 2, none⟩) (Below.setCell (p := ⟨XB, 1, none⟩) hX4.out.2.2 hwx _) hwx _) (Nat.le_refl _) _ _ _ _ _ _ _, fun t ht => by rw [hgood.out] at ht; rw [← Option.some.inj ht]; exact ⟨rfl, ⟨Or.inl rfl, by simp [maxLen], fun _ => rfl⟩, fun a ha => by cases ha⟩⟩


set_option maxRecDepth 100000 in
set_option maxHeartbeats 4000000 in
theorem rstep_7 (y : List UInt8) (r : List (List UInt8)) (A : Option Addr) (cap : Nat) (w : World) (hr : RowX w A (y :: r)) (hl : (y :: r).length ≤ 2000) (hcap : (y :: r).length ≤ cap) (hx : ∀ x ∈ y :: r, x.length ≤ 2000) (hv : Verbs w) (hk : kindP y = 7) {B9 : Bool} (hB9 : stpB (y :: r) = B9) :
    Calls Tryd.prog 11 #[.slice A (y :: r).length cap] w fun e w' => ∃ t', e = .returned (.tuple #[.agg #[.int .i64 t'.k, .int .i64 t'.a, .int .i64 t'.b, .int .i64 t'.c, .int .i64 t'.o, .int .i64 t'.v, .slice t'.p t'.l.length t'.n], .bool B9]) ∧ Below w.heap.size w w' ∧ StpO (y :: r) w w' t' := by
  have mixed : Tryd.prog.follows .mixedOrders = true := by kernel_rfl
  obtain ⟨b, off, rfl, hb, hcs⟩ := hr.at (m := 0) (by simp)
  have e0 := hcs 0 (by simp) 0 (by omega)
  have e1 : w.cell? ⟨b, off, none⟩ = some (.string ⟨y.toArray⟩) := by simpa [encX] using e0
  have hki : idxX verbL y = 7 := by rw [idx_kind.1 (by rw [hk]; decide), hk]
  obtain ⟨W0, hW0⟩ : ∃ W0, w.alloc (.cells #[.int .i64 0, .int .i64 0, .int .i64 0, .int .i64 0, .int .i64 0, .int .i64 0, .slice none 0 0] 32) = W0 := ⟨_, rfl⟩
  have hg0 : Gr w W0 := by rw [← hW0]; exact (Gr.refl _).alloc _
  have hB0 : Box W0 w.heap.size zeroS := hW0 ▸ box_new w
  have g0 := hg0.cellG (a := ⟨b, off, none⟩) hb e1
  have hIx : Hid (∀ n os, Calls Tryd.prog 22 #[.slice (some ⟨0, 0, none⟩) 10 10, .string ⟨y.toArray⟩] (grow (W0.drewN n) os) fun e w' => e = .returned (.int .i64 7) ∧ ∃ q os', w' = grow ((grow (W0.drewN n) os).drewN q) os') := fun n os => index_any verbL y (some ⟨0, 0, none⟩) 10 _ ((hv.below hg0.below).below (show Gr W0 _ from ⟨n, os, rfl⟩).below).row (by decide) hki
  have hH : Hid (Gr w W0 ∧ Box W0 w.heap.size zeroS ∧ RowX w (some ⟨b, off, none⟩) (y :: r) ∧ (∀ x ∈ y :: r, x.length ≤ 2000) ∧ stpB (y :: r) = B9 ∧ kindP y = 7) := ⟨hg0, hB0, hr, hx, hB9, hk⟩
  obtain ⟨m, hm⟩ : ∃ m, (y :: r).length = m := ⟨_, rfl⟩
  have hmr : Hid (r.length + 1 = m) := by show _ = _; rw [← hm]; rfl
  rw [hm] at hl hcap ⊢
  have hm1 : 1 ≤ m := by rw [← hm]; simp
  have hlz : (0 : Int) < (m : Int) := by omega
  clear hcs e0 hr hv hk hki hg0 hB0 hm hx hB9
  go_enter Tryd.func11, Tryd.ntmps11
  go_wp2_with fail
  clear hW0
  refine wp_region_quiet_grown mixed (by kernel_rfl) ?_
  repeat (go_big_quiet_step (first | (go_at_call 22; refine Calls.grown_of (hIx.out _ _)) | fail))
  refine wpQuiet_nil ?_
  rintro _ ⟨⟨nq2, osq2⟩, rfl⟩
  obtain ⟨W1, hW1⟩ : ∃ W1, grow (W0.drewN nq2) osq2 = W1 := ⟨_, rfl⟩
  have hg1 : Hid (Gr W0 W1) := by show Gr _ _; rw [← hW1]; exact ⟨nq2, osq2, rfl⟩
  rw [hW1]
  clear hW1 g0 e1 hIx
  obtain ⟨W2, hW2⟩ : ∃ W2, W1.alloc (.cells #[.int .i64 0, .int .i64 2, .int .i64 5, .int .i64 3, .int .i64 5, .int .i64 3, .int .i64 3, .int .i64 2, .int .i64 3, .int .i64 4] 3) = W2 := ⟨_, rfl⟩
  have hg2 : Hid (Gr W1 W2) := by show Gr _ _; rw [← hW2]; exact (Gr.refl _).alloc _
  have q0 : W2.cell? ⟨W1.heap.size, 7, none⟩ = some (.int .i64 2) := by rw [← hW2]; exact box1 (w := W1) (Gr.refl _) rfl
  have hB2 : Hid (Box W2 w.heap.size zeroS ∧ Below w.heap.size w W2) := ⟨(hH.out.2.1.below hg1.out.below).below hg2.out.below, ((hH.out.1.trans hg1.out).trans hg2.out).below⟩
  by_cases hmm : m = 2
  rotate_left
  focus
    have hmz : ((m : Int) != 2) = true := by simp; omega
    have hbad : Hid (stepP (y :: r) = none) := step_len rfl (by rw [hH.out.2.2.2.2.2]; have := hmr.out; show r.length ≠ 1; omega)
    have c0 := hB2.out.1.c0
    have c1 := hB2.out.1.c1
    have c2 := hB2.out.1.c2
    have c3 := hB2.out.1.c3
    have c4 := hB2.out.1.c4
    have c5 := hB2.out.1.c5
    have c6 := hB2.out.1.c6
    have fz := hB2.out.1.fz
    go_wp2
    exact bodyPost_ret (v := .tuple #[.agg #[.int .i64 0, .int .i64 0, .int .i64 0, .int .i64 0, .int .i64 0, .int .i64 0, .slice none 0 0], .bool false]) (by simp [results, Tryd.results11, go_sem, c0, c1, c2, c3, c4, c5, c6]) rfl ⟨zeroS, by rw [← hH.out.2.2.2.2.1, stpB_none hbad.out]; rfl, below_set7 hB2.out.2 (Nat.le_refl _) _ _ _ _ _ _ _, fun t ht => by rw [hbad.out] at ht; cases ht⟩
  subst hmm
  have hrl : r.length = 1 := by have := hmr.out; omega
  have hg3 : Hid (Gr W2 (W2.alloc (.cells #[.int .i64 7, .int .i64 0, .int .i64 0, .int .i64 0, .int .i64 0, .int .i64 0, .slice none 0 0] 32))) := (Gr.refl _).alloc _
  have hXB : Hid (Box (W2.alloc (.cells #[.int .i64 7, .int .i64 0, .int .i64 0, .int .i64 0, .int .i64 0, .int .i64 0, .slice none 0 0] 32)) W2.heap.size (bareK 7)) := by
    show Box _ _ _
    exact ⟨box1 (w := W2) (Gr.refl _) rfl, box1 (w := W2) (Gr.refl _) rfl, box1 (w := W2) (Gr.refl _) rfl, box1 (w := W2) (Gr.refl _) rfl, box1 (w := W2) (Gr.refl _) rfl, box1 (w := W2) (Gr.refl _) rfl, box1 (w := W2) (Gr.refl _) rfl, fun j => World.frozen?_alloc_at (w := W2) _ _ W2.heap.size j rfl, by simp⟩
  have hBR : Hid (Box (W2.alloc (.cells #[.int .i64 7, .int .i64 0, .int .i64 0, .int .i64 0, .int .i64 0, .int .i64 0, .slice none 0 0] 32)) w.heap.size zeroS ∧ Below w.heap.size w (W2.alloc (.cells #[.int .i64 7, .int .i64 0, .int .i64 0, .int .i64 0, .int .i64 0, .int .i64 0, .slice none 0 0] 32)) ∧ w.heap.size < W2.heap.size) := ⟨hB2.out.1.below hg3.out.below, hB2.out.2.trans (hg3.out.below.mono hB2.out.2.size), hB2.out.1.lt⟩
  obtain ⟨B, hB⟩ : ∃ B, whsB r = B := ⟨_, rfl⟩
  have hWh0 := wholes_any r (some ⟨b, off + 1, none⟩) (cap - 1) (W2.alloc (.cells #[.int .i64 7, .int .i64 0, .int .i64 0, .int .i64 0, .int .i64 0, .int .i64 0, .slice none 0 0] 32)) (row_tail (hH.out.2.2.1.below hBR.out.2.1)) (by omega) (fun x hx => hH.out.2.2.2.1 x (List.mem_cons_of_mem _ hx)) hB
  rw [hrl] at hWh0
  have hWh : Hid _ := hWh0
  have hc1 : ¬ cap = 1 := by omega
  have hst : Hid (stepP (y :: r) = (numsP r).map (setAll (bareK 7) (partL 7))) := step_nums rfl hH.out.2.2.2.2.2 (by decide) (by rw [hrl]; rfl) (by decide)
  have hBH : Hid (whsB r = B ∧ r.length = 1) := ⟨hB, hrl⟩
  clear hWh0 hB hrl hmr
  go_wp2_with fail
  clear hW2 q0
  refine Calls.mono (show Calls _ _ _ _ _ from hWh.out) ?_
  rintro e w4 ⟨v, rfl, hb4, hO⟩
  have hX4 : Hid (Box w4 w.heap.size zeroS ∧ Box w4 W2.heap.size (bareK 7) ∧ Below w.heap.size w w4) := ⟨hBR.out.1.below hb4, hXB.out.below hb4, hBR.out.2.1.trans (hb4.mono hBR.out.2.1.size)⟩
  have c0 := hX4.out.1.c0
  have c1 := hX4.out.1.c1
  have c2 := hX4.out.1.c2
  have c3 := hX4.out.1.c3
  have c4 := hX4.out.1.c4
  have c5 := hX4.out.1.c5
  have c6 := hX4.out.1.c6
  have fz := hX4.out.1.fz
  cases B
  · have hbad : Hid (stepP (y :: r) = none) := by
      show _ = _
      rw [hst.out]
      have := hBH.out.1
      unfold whsB at this
      cases e : numsP r with
      | none => rfl
      | some l => rw [e] at this; cases this
    clear hWh hO hb4
    go_wp2
    exact bodyPost_ret (v := .tuple #[.agg #[.int .i64 0, .int .i64 0, .int .i64 0, .int .i64 0, .int .i64 0, .int .i64 0, .slice none 0 0], .bool false]) (by simp [results, Tryd.results11, go_sem, c0, c1, c2, c3, c4, c5, c6]) rfl ⟨zeroS, by rw [← hH.out.2.2.2.2.1, stpB_none hbad.out]; rfl, below_set7 hX4.out.2.2 (Nat.le_refl _) _ _ _ _ _ _ _, fun t ht => by rw [hbad.out] at ht; cases ht⟩
  · obtain ⟨l, hnl⟩ : ∃ l, numsP r = some l := by
      have := hBH.out.1
      unfold whsB at this
      cases e : numsP r with
      | none => rw [e] at this; cases this
      | some l => exact ⟨l, rfl⟩
    have hll : l.length = 1 := (numsP_len hnl).trans hBH.out.2
    obtain ⟨vA, vc, rfl, _, hrow, _, hfl, _⟩ := OwnG.full encI_len (hO l hnl)
    have hgood : Hid (stepP (y :: r) = some (setAll (bareK 7) (partL 7) l)) := by show _ = _; rw [hst.out, hnl]; rfl
    obtain ⟨vb, vo, rfl, hvc⟩ := rowI_cells hrow (fun e => by rw [e] at hll; cases hll)
    have hvb : vb ≠ W2.heap.size := by have h9 := (hfl _ rfl).1; simp at h9; omega
    have hvb2 : W2.heap.size ≠ vb := fun e => hvb e.symm
    clear hfl
    match l, hll with
    | [y0], _ =>
      have v0 : w4.cell? ⟨vb, vo, none⟩ = some (.int .i64 y0) := (hvc 0 (by simp))
      have x0 := hX4.out.2.1.c0
      have x1 := hX4.out.2.1.c1
      have x2 := hX4.out.2.1.c2
      have x3 := hX4.out.2.1.c3
      have x4 := hX4.out.2.1.c4
      have x5 := hX4.out.2.1.c5
      have x6 := hX4.out.2.1.c6
      have xfz := hX4.out.2.1.fz
      have hne : w.heap.size ≠ W2.heap.size := by have := hBR.out.2.2; omega
      have hne2 : W2.heap.size ≠ w.heap.size := fun e => hne e.symm
      have hwx : w.heap.size ≤ W2.heap.size := by have := hBR.out.2.2; omega
      simp only [bareK] at x0 x1 x2 x3 x4 x5 x6
      clear hWh hO hb4 hrow hvc hnl
      generalize W2.heap.size = XB at *
      go_wp2
      skip
      exact bodyPost_ret (v := .tuple #[.agg #[.int .i64 7, .int .i64 y0, .int .i64 0, .int .i64 0, .int .i64 0, .int .i64 0, .slice none 0 0], .bool true]) (by simp [results, Tryd.results11, go_sem, c0, c1, c2, c3, c4, c5, c6]) rfl ⟨⟨7, y0, 0, 0, 0, 0, none, 0, []⟩, by rw [← hH.out.2.2.2.2.1, stpB_some hgood.out]; rfl, below_set7 (Below.setCell (p := ⟨XB, 1, none⟩) hX4.out.2.2 hwx _) (Nat.le_refl _) _ _ _ _ _ _ _, fun t ht => by rw [hgood.out] at ht; rw [← Option.some.inj ht]; exact ⟨rfl, ⟨Or.inl rfl, by simp [maxLen], fun _ => rfl⟩, fun a ha => by cases ha⟩⟩


set_option maxRecDepth 100000 in
set_option maxHeartbeats 4000000 in
theorem rstep_8 (y : List UInt8) (r : List (List UInt8)) (A : Option Addr) (cap : Nat) (w : World) (hr : RowX w A (y :: r)) (hl : (y :: r).length ≤ 2000) (hcap : (y :: r).length ≤ cap) (hx : ∀ x ∈ y :: r, x.length ≤ 2000) (hv : Verbs w) (hk : kindP y = 8) {B9 : Bool} (hB9 : stpB (y :: r) = B9) :
    Calls Tryd.prog 11 #[.slice A (y :: r).length cap] w fun e w' => ∃ t', e = .returned (.tuple #[.agg #[.int .i64 t'.k, .int .i64 t'.a, .int .i64 t'.b, .int .i64 t'.c, .int .i64 t'.o, .int .i64 t'.v, .slice t'.p t'.l.length t'.n], .bool B9]) ∧ Below w.heap.size w w' ∧ StpO (y :: r) w w' t' := by
  have mixed : Tryd.prog.follows .mixedOrders = true := by kernel_rfl
  obtain ⟨b, off, rfl, hb, hcs⟩ := hr.at (m := 0) (by simp)
  have e0 := hcs 0 (by simp) 0 (by omega)
  have e1 : w.cell? ⟨b, off, none⟩ = some (.string ⟨y.toArray⟩) := by simpa [encX] using e0
  have hki : idxX verbL y = 8 := by rw [idx_kind.1 (by rw [hk]; decide), hk]
  obtain ⟨W0, hW0⟩ : ∃ W0, w.alloc (.cells #[.int .i64 0, .int .i64 0, .int .i64 0, .int .i64 0, .int .i64 0, .int .i64 0, .slice none 0 0] 32) = W0 := ⟨_, rfl⟩
  have hg0 : Gr w W0 := by rw [← hW0]; exact (Gr.refl _).alloc _
  have hB0 : Box W0 w.heap.size zeroS := hW0 ▸ box_new w
  have g0 := hg0.cellG (a := ⟨b, off, none⟩) hb e1
  have hIx : Hid (∀ n os, Calls Tryd.prog 22 #[.slice (some ⟨0, 0, none⟩) 10 10, .string ⟨y.toArray⟩] (grow (W0.drewN n) os) fun e w' => e = .returned (.int .i64 8) ∧ ∃ q os', w' = grow ((grow (W0.drewN n) os).drewN q) os') := fun n os => index_any verbL y (some ⟨0, 0, none⟩) 10 _ ((hv.below hg0.below).below (show Gr W0 _ from ⟨n, os, rfl⟩).below).row (by decide) hki
  have hH : Hid (Gr w W0 ∧ Box W0 w.heap.size zeroS ∧ RowX w (some ⟨b, off, none⟩) (y :: r) ∧ (∀ x ∈ y :: r, x.length ≤ 2000) ∧ stpB (y :: r) = B9 ∧ kindP y = 8) := ⟨hg0, hB0, hr, hx, hB9, hk⟩
  obtain ⟨m, hm⟩ : ∃ m, (y :: r).length = m := ⟨_, rfl⟩
  have hmr : Hid (r.length + 1 = m) := by show _ = _; rw [← hm]; rfl
  rw [hm] at hl hcap ⊢
  have hm1 : 1 ≤ m := by rw [← hm]; simp
  have hlz : (0 : Int) < (m : Int) := by omega
  clear hcs e0 hr hv hk hki hg0 hB0 hm hx hB9
  go_enter Tryd.func11, Tryd.ntmps11
  go_wp2_with fail
  clear hW0
  refine wp_region_quiet_grown mixed (by kernel_rfl) ?_
  repeat (go_big_quiet_step (first | (go_at_call 22; refine Calls.grown_of (hIx.out _ _)) | fail))
  refine wpQuiet_nil ?_
  rintro _ ⟨⟨nq2, osq2⟩, rfl⟩
  obtain ⟨W1, hW1⟩ : ∃ W1, grow (W0.drewN nq2) osq2 = W1 := ⟨_, rfl⟩
  have hg1 : Hid (Gr W0 W1) := by show Gr _ _; rw [← hW1]; exact ⟨nq2, osq2, rfl⟩
  rw [hW1]
  clear hW1 g0 e1 hIx
  obtain ⟨W2, hW2⟩ : ∃ W2, W1.alloc (.cells #[.int .i64 0, .int .i64 2, .int .i64 5, .int .i64 3, .int .i64 5, .int .i64 3, .int .i64 3, .int .i64 2, .int .i64 3, .int .i64 4] 3) = W2 := ⟨_, rfl⟩
  have hg2 : Hid (Gr W1 W2) := by show Gr _ _; rw [← hW2]; exact (Gr.refl _).alloc _
  have q0 : W2.cell? ⟨W1.heap.size, 8, none⟩ = some (.int .i64 3) := by rw [← hW2]; exact box1 (w := W1) (Gr.refl _) rfl
  have hB2 : Hid (Box W2 w.heap.size zeroS ∧ Below w.heap.size w W2) := ⟨(hH.out.2.1.below hg1.out.below).below hg2.out.below, ((hH.out.1.trans hg1.out).trans hg2.out).below⟩
  by_cases hmm : m = 3
  rotate_left
  focus
    have hmz : ((m : Int) != 3) = true := by simp; omega
    have hbad : Hid (stepP (y :: r) = none) := step_len rfl (by rw [hH.out.2.2.2.2.2]; have := hmr.out; show r.length ≠ 2; omega)
    have c0 := hB2.out.1.c0
    have c1 := hB2.out.1.c1
    have c2 := hB2.out.1.c2
    have c3 := hB2.out.1.c3
    have c4 := hB2.out.1.c4
    have c5 := hB2.out.1.c5
    have c6 := hB2.out.1.c6
    have fz := hB2.out.1.fz
    go_wp2
    exact bodyPost_ret (v := .tuple #[.agg #[.int .i64 0, .int .i64 0, .int .i64 0, .int .i64 0, .int .i64 0, .int .i64 0, .slice none 0 0], .bool false]) (by simp [results, Tryd.results11, go_sem, c0, c1, c2, c3, c4, c5, c6]) rfl ⟨zeroS, by rw [← hH.out.2.2.2.2.1, stpB_none hbad.out]; rfl, below_set7 hB2.out.2 (Nat.le_refl _) _ _ _ _ _ _ _, fun t ht => by rw [hbad.out] at ht; cases ht⟩
  subst hmm
  have hrl : r.length = 2 := by have := hmr.out; omega
  have hg3 : Hid (Gr W2 (W2.alloc (.cells #[.int .i64 8, .int .i64 0, .int .i64 0, .int .i64 0, .int .i64 0, .int .i64 0, .slice none 0 0] 32))) := (Gr.refl _).alloc _
  have hXB : Hid (Box (W2.alloc (.cells #[.int .i64 8, .int .i64 0, .int .i64 0, .int .i64 0, .int .i64 0, .int .i64 0, .slice none 0 0] 32)) W2.heap.size (bareK 8)) := by
    show Box _ _ _
    exact ⟨box1 (w := W2) (Gr.refl _) rfl, box1 (w := W2) (Gr.refl _) rfl, box1 (w := W2) (Gr.refl _) rfl, box1 (w := W2) (Gr.refl _) rfl, box1 (w := W2) (Gr.refl _) rfl, box1 (w := W2) (Gr.refl _) rfl, box1 (w := W2) (Gr.refl _) rfl, fun j => World.frozen?_alloc_at (w := W2) _ _ W2.heap.size j rfl, by simp⟩
  have hBR : Hid (Box (W2.alloc (.cells #[.int .i64 8, .int .i64 0, .int .i64 0, .int .i64 0, .int .i64 0, .int .i64 0, .slice none 0 0] 32)) w.heap.size zeroS ∧ Below w.heap.size w (W2.alloc (.cells #[.int .i64 8, .int .i64 0, .int .i64 0, .int .i64 0, .int .i64 0, .int .i64 0, .slice none 0 0] 32)) ∧ w.heap.size < W2.heap.size) := ⟨hB2.out.1.below hg3.out.below, hB2.out.2.trans (hg3.out.below.mono hB2.out.2.size), hB2.out.1.lt⟩
  obtain ⟨B, hB⟩ : ∃ B, whsB r = B := ⟨_, rfl⟩
  have hWh0 := wholes_any r (some ⟨b, off + 1, none⟩) (cap - 1) (W2.alloc (.cells #[.int .i64 8, .int .i64 0, .int .i64 0, .int .i64 0, .int .i64 0, .int .i64 0, .slice none 0 0] 32)) (row_tail (hH.out.2.2.1.below hBR.out.2.1)) (by omega) (fun x hx => hH.out.2.2.2.1 x (List.mem_cons_of_mem _ hx)) hB
  rw [hrl] at hWh0
  have hWh : Hid _ := hWh0
  have hc1 : ¬ cap = 1 := by omega
  have hst : Hid (stepP (y :: r) = (numsP r).map (setAll (bareK 8) (partL 8))) := step_nums rfl hH.out.2.2.2.2.2 (by decide) (by rw [hrl]; rfl) (by decide)
  have hBH : Hid (whsB r = B ∧ r.length = 2) := ⟨hB, hrl⟩
  clear hWh0 hB hrl hmr
  go_wp2_with fail
  clear hW2 q0
  refine Calls.mono (show Calls _ _ _ _ _ from hWh.out) ?_
  rintro e w4 ⟨v, rfl, hb4, hO⟩
  have hX4 : Hid (Box w4 w.heap.size zeroS ∧ Box w4 W2.heap.size (bareK 8) ∧ Below w.heap.size w w4) := ⟨hBR.out.1.below hb4, hXB.out.below hb4, hBR.out.2.1.trans (hb4.mono hBR.out.2.1.size)⟩
  have c0 := hX4.out.1.c0
  have c1 := hX4.out.1.c1
  have c2 := hX4.out.1.c2
  have c3 := hX4.out.1.c3
  have c4 := hX4.out.1.c4
  have c5 := hX4.out.1.c5
  have c6 := hX4.out.1.c6
  have fz := hX4.out.1.fz
  cases B
  · have hbad : Hid (stepP (y :: r) = none) := by
      show _ = _
      rw [hst.out]
      have := hBH.out.1
      unfold whsB at this
      cases e : numsP r with
      | none => rfl
      | some l => rw [e] at this; cases this
    clear hWh hO hb4
    go_wp2
    exact bodyPost_ret (v := .tuple #[.agg #[.int .i64 0, .int .i64 0, .int .i64 0, .int .i64 0, .int .i64 0, .int .i64 0, .slice none 0 0], .bool false]) (by simp [results, Tryd.results11, go_sem, c0, c1, c2, c3, c4, c5, c6]) rfl ⟨zeroS, by rw [← hH.out.2.2.2.2.1, stpB_none hbad.out]; rfl, below_set7 hX4.out.2.2 (Nat.le_refl _) _ _ _ _ _ _ _, fun t ht => by rw [hbad.out] at ht; cases ht⟩
  · obtain ⟨l, hnl⟩ : ∃ l, numsP r = some l := by
      have := hBH.out.1
      unfold whsB at this
      cases e : numsP r with
      | none => rw [e] at this; cases this
      | some l => exact ⟨l, rfl⟩
    have hll : l.length = 2 := (numsP_len hnl).trans hBH.out.2
    obtain ⟨vA, vc, rfl, _, hrow, _, hfl, _⟩ := OwnG.full encI_len (hO l hnl)
    have hgood : Hid (stepP (y :: r) = some (setAll (bareK 8) (partL 8) l)) := by show _ = _; rw [hst.out, hnl]; rfl
    obtain ⟨vb, vo, rfl, hvc⟩ := rowI_cells hrow (fun e => by rw [e] at hll; cases hll)
    have hvb : vb ≠ W2.heap.size := by have h9 := (hfl _ rfl).1; simp at h9; omega
    have hvb2 : W2.heap.size ≠ vb := fun e => hvb e.symm
    clear hfl
    match l, hll with
    | [y0, y1], _ =>
      have v0 : w4.cell? ⟨vb, vo, none⟩ = some (.int .i64 y0) := (hvc 0 (by simp))
      have v1 : w4.cell? ⟨vb, vo + 1, none⟩ = some (.int .i64 y1) := hvc 1 (by simp)
      have x0 := hX4.out.2.1.c0
      have x1 := hX4.out.2.1.c1
      have x2 := hX4.out.2.1.c2
      have x3 := hX4.out.2.1.c3
      have x4 := hX4.out.2.1.c4
      have x5 := hX4.out.2.1.c5
      have x6 := hX4.out.2.1.c6
      have xfz := hX4.out.2.1.fz
      have hne : w.heap.size ≠ W2.heap.size := by have := hBR.out.2.2; omega
      have hne2 : W2.heap.size ≠ w.heap.size := fun e => hne e.symm
      have hwx : w.heap.size ≤ W2.heap.size := by have := hBR.out.2.2; omega
      simp only [bareK] at x0 x1 x2 x3 x4 x5 x6
      clear hWh hO hb4 hrow hvc hnl
      generalize W2.heap.size = XB at *
      go_wp2
      skip
      exact bodyPost_ret (v := .tuple #[.agg #[.int .i64 8, .int .i64 y0, .int .i64 0, .int .i64 y1, .int .i64 0, .int .i64 0, .slice none 0 0], .bool true]) (by simp [results, Tryd.results11, go_sem, c0, c1, c2, c3, c4, c5, c6]) rfl ⟨⟨8, y0, 0, y1, 0, 0, none, 0, []⟩, by rw [← hH.out.2.2.2.2.1, stpB_some hgood.out]; rfl, below_set7 (Below.setCell (p := ⟨XB, 3, none⟩) (Below.setCell (p := ⟨XB, 1, none⟩) hX4.out.2.2 hwx _) hwx _) (Nat.le_refl _) _ _ _ _ _ _ _, fun t ht => by rw [hgood.out] at ht; rw [← Option.some.inj ht]; exact ⟨rfl, ⟨Or.inl rfl, by simp [maxLen], fun _ => rfl⟩, fun a ha => by cases ha⟩⟩
end Go.Proofs.YtoodkgmpggabdaaDoor
