/-
  What is handed in, opened: a list of steps.
  The first steps of a query tell what they do alone; one more step.
-/
import Derived.Test.YtkmhofkchnhpdaaM13
import Derived.Test.YtkmhofkchnhpdaaM17
import Derived.Test.YtkmhofkchnhpdaaM29
namespace Go.Proofs.Ytkmhofkchnhpdaa
open Go.ChangeShapes Go.WideShapes Go.ChangeAt Go.RowKit Go.Deep

variable {H : Type} {enc : TypeId × Value → H} {W : World}

theorem list7 {cs : List Value} (h : cs.length = 7) : ∃ a b c d e f g, cs = [a, b, c, d, e, f, g] := by
  match cs, h with
  | [a, b, c, d, e, f, g], _ => exact ⟨a, b, c, d, e, f, g, rfl⟩

set_option maxRecDepth 100000 in
theorem open_step {fuel : Nat} {cs : List Value} {x : DataW H × List MemPlace} (hl : cs.length = 7) (h : DataW.trod enc Try.prog W 0 (fun _ => true) true fuel 27 cs = some x) : ∃ y : Stp, cs = encQ y ∧ RowI W y.p y.l ∧ y.l.length ≤ maxLen ∧ (y.p = none → y.n = 0) := by
  obtain ⟨v0, v1, v2, v3, v4, v5, v6, rfl⟩ := list7 hl
  obtain ⟨xs, n, _, _, _, hxl, hf⟩ := DataW.trod_struct Try.underlying27 h
  have c1 : Try.prog.cellsOf 3 = 1 := by kernel_rfl
  have c2 : Try.prog.cellsOf 25 = 1 := by kernel_rfl
  have hx7 : xs.length = 7 := hxl
  match xs, hx7 with
  | [y0, y1, y2, y3, y4, y5, y6], _ =>
    have g0 := hf 0 _ rfl
    have g1 := hf 1 _ rfl
    have g2 := hf 2 _ rfl
    have g3 := hf 3 _ rfl
    have g4 := hf 4 _ rfl
    have g5 := hf 5 _ rfl
    have g6 := hf 6 _ rfl
    simp [c1, c2] at g0 g1 g2 g3 g4 g5 g6
    obtain ⟨z0, e0, _⟩ := DataW.trod_int Try.underlying3 g0
    obtain ⟨z1, e1, _⟩ := DataW.trod_int Try.underlying3 g1
    obtain ⟨z2, e2, _⟩ := DataW.trod_int Try.underlying3 g2
    obtain ⟨z3, e3, _⟩ := DataW.trod_int Try.underlying3 g3
    obtain ⟨z4, e4, _⟩ := DataW.trod_int Try.underlying3 g4
    obtain ⟨z5, e5, _⟩ := DataW.trod_int Try.underlying3 g5
    obtain ⟨A, cap, l, e6, hA, hr, hm⟩ := open_row g6
    simp only [List.cons.injEq, and_true] at e0 e1 e2 e3 e4 e5 e6
    exact ⟨⟨z0, z1, z2, z3, z4, z5, A, cap, l⟩, by rw [e0, e1, e2, e3, e4, e5, e6]; rfl, hr, hm, hA⟩

set_option maxRecDepth 100000 in
theorem open_steps {r : Reach} {b0 : Nat} {v : Value} {d : DataW H} {p : List MemPlace} (hv : Value.okWide Try.prog W r b0 22 v) (h : DataW.Trod enc Try.prog W 0 (fun _ => true) true 22 v d p) :
    ∃ A cap l, v = .slice A (l : List Stp).length cap ∧ (A = none → cap = 0) ∧ Stps W A l ∧ l.length ≤ maxLen := by
  obtain ⟨aL, lenL, capL, rfl⟩ := okWide_slice Try.underlying22 hv
  obtain ⟨fuel, hf⟩ := h
  rcases open_slice Try.underlying22 hf with ⟨hcs, _⟩ | ⟨a, len, cap, m, n, D, Pl, hcs, _, hl, hm, hmm, hx, hi⟩
  · simp [Value.cells] at hcs
    obtain ⟨rfl, rfl, rfl⟩ := hcs
    exact ⟨none, 0, [], rfl, by simp, ⟨Or.inl rfl, fun x hx => by cases hx⟩, by simp⟩
  · simp [Value.cells] at hcs
    obtain ⟨rfl, rfl, rfl⟩ := hcs
    have c2 : Try.prog.cellsOf 27 = 7 := by kernel_rfl
    have hlm : lenL ≤ m := by rw [hmm]; simp; exact hl
    haveI : Inhabited Stp := ⟨⟨0, 0, 0, 0, 0, 0, none, 0, []⟩⟩
    obtain ⟨Z, hZ⟩ := choose_lt (α := Stp) (n := lenL) (p := fun i z => (∀ j, j < 7 → W.cell? (a.add (i * 7 + j)) = (encQ z)[j]?) ∧ RowI W z.p z.l ∧ z.l.length ≤ maxLen ∧ (z.p = none → z.n = 0)) (fun i hi' => by
      obtain ⟨cs', h1, h2⟩ := hi i (by omega)
      rw [c2] at h1
      obtain ⟨_, hlen, hcell⟩ := World.cells?_some h1
      obtain ⟨y, hy, hy2⟩ := open_step hlen h2
      refine ⟨y, fun j hj => ?_, hy2⟩
      have := hcell j (by omega)
      rw [add_add] at this
      rw [this, ← hy, List.getElem?_eq_getElem (by omega)])
    refine ⟨some a, capL, (List.range lenL).map Z, by simp, (fun h => by cases h), ⟨?_, fun x hx => ?_⟩, by simp; omega⟩
    · by_cases h0 : lenL = 0
      · exact Or.inl (by rw [h0]; rfl)
      · have hc0 := (hZ 0 (by omega)).1 0 (by omega)
        obtain ⟨b, off, spot⟩ := a
        have hc1 : W.cell? (Addr.add ⟨b, off, spot⟩ (0 * 7 + 0)) = some (.int .i64 (Z 0).k) := hc0
        have hspot : spot = none := by simpa [Addr.add] using World.cell?_spot hc1
        subst hspot
        refine Or.inr ⟨b, off, rfl, ?_, fun j hj i hi5 => ?_⟩
        · have := World.block_lt_of_cell? W _ hc1
          simpa [Addr.add_lit] using this
        · have hj' : j < lenL := by simpa using hj
          have := (hZ j hj').1 i hi5
          simp only [Addr.add_lit, ← Nat.add_assoc] at this
          simpa using this
    · obtain ⟨i, hi', rfl⟩ := List.mem_map.1 hx
      exact (hZ i (by simpa using hi')).2

end Go.Proofs.Ytkmhofkchnhpdaa

namespace Go.Proofs.Ytkmhofkchnhpdaa

theorem allE_append {a b : List Zit} : ∀ (q r : List Stp) (S : List (List Zit)), allE a b q S = 0 → allE a b (q ++ r) S = allE a b r (allF a b q S)
  | [], _, _, _ => rfl
  | s :: t, r, S, h => by
    obtain ⟨h1, h2, h3⟩ := allE_cons h
    rw [h3, ← allE_append t r _ h2]
    show (if tellE s a b S = 0 then _ else _) = _
    rw [if_pos h1]
    rfl
theorem allF_append {a b : List Zit} : ∀ (q r : List Stp) (S : List (List Zit)), allE a b q S = 0 → allF a b (q ++ r) S = allF a b r (allF a b q S)
  | [], _, _, _ => rfl
  | s :: t, r, S, h => by
    obtain ⟨h1, h2, h3⟩ := allE_cons h
    rw [h3, ← allF_append t r _ h2]
    show (if tellE s a b S = 0 then _ else _) = _
    rw [if_pos h1]
    rfl
theorem allE_left {a b : List Zit} : ∀ (q r : List Stp) (S : List (List Zit)), allE a b (q ++ r) S = 0 → allE a b q S = 0
  | [], _, _, _ => rfl
  | s :: t, r, S, h => by
    obtain ⟨h1, h2, _⟩ := allE_cons (t := t ++ r) h
    show (if tellE s a b S = 0 then _ else _) = _
    rw [if_pos h1]
    exact allE_left t r _ h2
theorem allF_pre {a b : List Zit} : ∀ (r : List Stp) (S : List (List Zit)), allE a b r S = 0 → ∀ i, i < S.length → (allF a b r S).getD i [] = S.getD i []
  | [], _, _, _, _ => rfl
  | s :: t, S, h, i, hi => by
    obtain ⟨_, h2, h3⟩ := allE_cons h
    rw [h3, allF_pre t _ h2 i (by simp; omega), getD_snoc, if_pos hi]
theorem widsF_append : ∀ (q r : List Stp) (ah : List Int), widsF (q ++ r) ah = (widsF q ah).bind (widsF r)
  | [], _, _ => rfl
  | s :: t, r, ah => by
    show (if widW s ah = 0 then none else widsF (t ++ r) (ah ++ [widW s ah])) = (if widW s ah = 0 then none else widsF t (ah ++ [widW s ah])).bind (widsF r)
    by_cases e : widW s ah = 0
    · rw [if_pos e, if_pos e]; rfl
    · rw [if_neg e, if_neg e]; exact widsF_append t r _
theorem widsF_left {q r : List Stp} (h : (widsF (q ++ r) []).isSome = true) : (widsF q []).isSome = true := by
  rw [widsF_append] at h
  cases e : widsF q [] with
  | none => rw [e] at h; cases h
  | some l => rfl
theorem errQ_ok {q : List Stp} (h1 : q ≠ []) (h2 : q.length ≤ 8) (h3 : (widsF q []).isSome = true) : errQ q = 0 := by
  unfold errQ
  rw [if_neg (by have := List.length_pos_iff.2 h1; omega), if_neg (by omega), if_pos h3]
theorem ahdE_q {q q' : List Stp} {a b : List Zit} (h : ahdE q a b = 0) (hq : errQ q' = 0) : ahdE q' a b = 0 := by
  unfold ahdE at h ⊢
  rw [if_pos hq]
  have h1 := (ahdE_parts (q := q) (a := a) (b := b) (by unfold ahdE; exact h)).1
  rw [if_pos h1] at h
  exact h
/-- The first steps. -/
theorem first_steps {q : List Stp} {a b : List Zit} (h : plnE q a b = 0) {k : Nat} (hk : k < q.length) : plnE (q.take (k + 1)) a b = 0 ∧ evlF (q.take (k + 1)) a b = (plnF q a b).getD k [] := by
  obtain ⟨h1, h2, h3⟩ := plnE_parts h
  obtain ⟨q1, q2, q3⟩ := errQ_wids (ahdE_parts h1).1
  have hq : q = q.take (k + 1) ++ q.drop (k + 1) := (List.take_append_drop _ _).symm
  have hl : (q.take (k + 1)).length = k + 1 := by simp; omega
  have e1 : allE a b (q.take (k + 1)) [] = 0 := allE_left _ (q.drop (k + 1)) [] (by rw [← hq]; exact h2)
  have e2 : errQ (q.take (k + 1)) = 0 := errQ_ok (fun e => by rw [e] at hl; cases hl) (by omega) (widsF_left (r := q.drop (k + 1)) (by rw [← hq]; exact q3))
  have e3 : ahdE (q.take (k + 1)) a b = 0 := ahdE_q h1 e2
  have e4 : plnE (q.take (k + 1)) a b = 0 := by unfold plnE; rw [if_pos e3]; exact e1
  refine ⟨e4, ?_⟩
  obtain ⟨_, _, e5⟩ := plnE_parts e4
  have hw := (ahdE_parts h1).2.2.2
  obtain ⟨_, m1, m2⟩ := all_right hw.1 hw.2 (q.take (k + 1)) [] [] (errQ_wids e2).2.2 Ahd.nil e1
  unfold evlF
  rw [e5, h3, hl]
  have : allF a b q [] = allF a b (q.drop (k + 1)) (allF a b (q.take (k + 1)) []) := by rw [← allF_append _ _ _ e1, ← hq]
  rw [this, allF_pre _ _ (by rw [← allE_append _ _ _ e1, ← hq]; exact h2) k (by rw [m2, hl]; simp)]
  simp
/-- The widths behind a query's steps. -/
theorem ahd_of {q : List Stp} {a b : List Zit} (h : plnE q a b = 0) : ∃ ah, widsF q [] = some ah ∧ Ahd (plnF q a b) ah ∧ (∀ x ∈ ah, x ≠ 0) := by
  obtain ⟨h1, h2, h3⟩ := plnE_parts h
  obtain ⟨q1, q2, q3⟩ := errQ_wids (ahdE_parts h1).1
  have hw := (ahdE_parts h1).2.2.2
  rw [h3]
  have key : ∀ (r : List Stp) (S : List (List Zit)) (ah : List Int), (widsF r ah).isSome = true → Ahd S ah → (∀ x ∈ ah, x ≠ 0) → allE a b r S = 0 → ∃ ah', widsF r ah = some ah' ∧ Ahd (allF a b r S) ah' ∧ ∀ x ∈ ah', x ≠ 0 := by
    intro r
    induction r with
    | nil => intro S ah _ hS hn _; exact ⟨ah, rfl, hS, hn⟩
    | cons s t ih =>
      intro S ah hw' hS hn he
      obtain ⟨w1, w2⟩ := widsF_cons hw'
      obtain ⟨e1, e2, e3⟩ := allE_cons he
      obtain ⟨r1, r2⟩ := tell_right w1 hS hw.1 hw.2 e1
      obtain ⟨ah', k1, k2, k3⟩ := ih _ _ w2 (hS.snoc r1 r2) (fun x hx => by
        rcases List.mem_append.1 hx with e | e
        · exact hn x e
        · rw [List.mem_singleton.1 e]; exact w1) e2
      refine ⟨ah', ?_, by rw [e3]; exact k2, k3⟩
      show (if widW s ah = 0 then none else widsF t (ah ++ [widW s ah])) = _
      rw [if_neg w1]; exact k1
  exact key q [] [] q3 Ahd.nil (fun x hx => by cases hx) h2
/-- One more step. -/
theorem one_more {q : List Stp} {a b : List Zit} (h : plnE q a b = 0) (h7 : q.length ≤ 7) {ah : List Int} (hah : widsF q [] = some ah) {s : Stp} (hw : widW s ah ≠ 0) (ht : tellE s a b (plnF q a b) = 0) : plnE (q ++ [s]) a b = 0 ∧ plnF (q ++ [s]) a b = plnF q a b ++ [tellF s a b (plnF q a b)] ∧ evlF (q ++ [s]) a b = tellF s a b (plnF q a b) := by
  obtain ⟨h1, h2, h3⟩ := plnE_parts h
  have hw2 : (widsF (q ++ [s]) []).isSome = true := by
    rw [widsF_append, hah]
    show (if widW s ah = 0 then none else widsF [] (ah ++ [widW s ah])).isSome = true
    rw [if_neg hw]; rfl
  have e2 : errQ (q ++ [s]) = 0 := errQ_ok (by simp) (by simp; omega) hw2
  have e3 := ahdE_q h1 e2
  have e4 : allE a b (q ++ [s]) [] = 0 := by
    rw [allE_append _ _ _ h2, ← h3]
    show (if tellE s a b (plnF q a b) = 0 then 0 else _) = 0
    rw [if_pos ht]
  have e5 : plnE (q ++ [s]) a b = 0 := by unfold plnE; rw [if_pos e3]; exact e4
  have e6 : plnF (q ++ [s]) a b = plnF q a b ++ [tellF s a b (plnF q a b)] := by
    obtain ⟨_, _, k⟩ := plnE_parts e5
    rw [k, allF_append _ _ _ h2, ← h3]
    show (if tellE s a b (plnF q a b) = 0 then _ else _) = _
    rw [if_pos ht]; rfl
  refine ⟨e5, e6, ?_⟩
  have hl := (plnF_len h).1
  unfold evlF
  rw [e6, getD_snoc, hl]
  simp
theorem dist_right {l : List Zit} (h : errZ l = 0) : normE (distL l) = 0 ∧ normL (distL l) = distL l ∧ errZ (distL l) = 0 ∧ distL (distL l) = distL l := by
  obtain ⟨h1, h2, h3⟩ := (errZ_iff l).1 h
  have hrise : Rise (distL l) := by
    unfold distL Rise
    rw [List.pairwise_map]
    exact (h3.filter _)
  have hmem : ∀ x ∈ distL l, okR x.1 = true ∧ x.2 = 1 := fun x hx => by
    unfold distL at hx
    obtain ⟨y, hy, rfl⟩ := List.mem_map.1 hx
    exact ⟨(okZ_parts (h2 y (List.mem_filter.1 hy).1)).1, rfl⟩
  have hok : ∀ x ∈ distL l, okZ x = true := fun x hx => by
    obtain ⟨k1, k2⟩ := hmem x hx
    unfold okZ
    rw [k1, k2]; rfl
  have hlen : (distL l).length ≤ 400 := by
    unfold distL
    rw [List.length_map]
    exact Nat.le_trans (List.length_filter_le _ _) h1
  have herr : errZ (distL l) = 0 := (errZ_iff _).2 ⟨hlen, hok, hrise⟩
  have htot : distL l = totL (distL l) := IsTot.eq ⟨hrise, okZ_noz hok, fun _ => rfl⟩
  have hE : normE (distL l) = 0 := by
    unfold normE
    rw [if_neg (by omega), if_pos]
    · unfold totE
      rw [← htot, if_pos]
      rw [List.all_eq_true]
      intro x hx
      rw [(hmem x hx).2]; rfl
    · rw [List.all_eq_true]
      intro x hx
      rw [(hmem x hx).1, (hmem x hx).2]; rfl
  refine ⟨hE, ?_, herr, ?_⟩
  · unfold normL; rw [if_pos hE, ← htot]
  · have key : ∀ m : List Zit, (∀ x ∈ m, x.2 = 1) → distL m = m := fun m hm => by
      unfold distL
      rw [List.filter_eq_self.2 (fun x hx => by rw [hm x hx]; rfl)]
      have : m.map (fun x => (x.1, (1 : Int))) = m.map id := List.map_congr_left fun x hx => by
        have := hm x hx
        cases x
        simp at this
        simp [this]
      rw [this, List.map_id]
    exact key _ fun x hx => (hmem x hx).2
end Go.Proofs.Ytkmhofkchnhpdaa
