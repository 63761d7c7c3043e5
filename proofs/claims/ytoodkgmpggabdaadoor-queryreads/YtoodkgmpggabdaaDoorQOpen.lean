/-
  What is handed in, opened: a list of steps.
-/
import Derived.Test.YtoodkgmpggabdaaDoorIOpen
import Derived.Test.YtoodkgmpggabdaaDoorQWids
namespace Go.Proofs.YtoodkgmpggabdaaDoor
open Go.ChangeShapes Go.WideShapes Go.ChangeAt Go.RowKit Go.Deep

variable {H : Type} {enc : TypeId × Value → H} {W : World}

theorem list7 {cs : List Value} (h : cs.length = 7) : ∃ a b c d e f g, cs = [a, b, c, d, e, f, g] := by
  match cs, h with
  | [a, b, c, d, e, f, g], _ => exact ⟨a, b, c, d, e, f, g, rfl⟩

set_option maxRecDepth 100000 in
theorem open_step {fuel : Nat} {cs : List Value} {x : DataW H × List MemPlace} (hl : cs.length = 7) (h : DataW.trod enc Tryd.prog W 0 (fun _ => true) true fuel 32 cs = some x) : ∃ y : Stp, cs = encQ y ∧ RowI W y.p y.l ∧ y.l.length ≤ maxLen ∧ (y.p = none → y.n = 0) := by
  obtain ⟨v0, v1, v2, v3, v4, v5, v6, rfl⟩ := list7 hl
  obtain ⟨xs, n, _, _, _, hxl, hf⟩ := DataW.trod_struct Tryd.underlying32 h
  have c1 : Tryd.prog.cellsOf 3 = 1 := by kernel_rfl
  have c2 : Tryd.prog.cellsOf 30 = 1 := by kernel_rfl
  have hx7 : xs.length = 7 := hxl
  match xs, hx7 with
  | [y0, y1, y2, y3, y4, y5, y6], _ =>
    have g0 := hf 0 _ rfl
    have g1 := hf 1 _ rfl
    have g2 := hf 2 _ rfl
    have g3 := hf 3 _ rfl
    have g4 := hf 4 _ rfl
    have g5 := hf 5 _ rfl
    have g6 := hf 6 _ rfl
    simp [c1, c2] at g0 g1 g2 g3 g4 g5 g6
    obtain ⟨z0, e0, _⟩ := DataW.trod_int Tryd.underlying3 g0
    obtain ⟨z1, e1, _⟩ := DataW.trod_int Tryd.underlying3 g1
    obtain ⟨z2, e2, _⟩ := DataW.trod_int Tryd.underlying3 g2
    obtain ⟨z3, e3, _⟩ := DataW.trod_int Tryd.underlying3 g3
    obtain ⟨z4, e4, _⟩ := DataW.trod_int Tryd.underlying3 g4
    obtain ⟨z5, e5, _⟩ := DataW.trod_int Tryd.underlying3 g5
    obtain ⟨A, cap, l, e6, hA, hr, hm⟩ := open_row g6
    simp only [List.cons.injEq, and_true] at e0 e1 e2 e3 e4 e5 e6
    exact ⟨⟨z0, z1, z2, z3, z4, z5, A, cap, l⟩, by rw [e0, e1, e2, e3, e4, e5, e6]; rfl, hr, hm, hA⟩

set_option maxRecDepth 100000 in
theorem open_steps {r : Reach} {b0 : Nat} {v : Value} {d : DataW H} {p : List MemPlace} (hv : Value.okWide Tryd.prog W r b0 22 v) (h : DataW.Trod enc Tryd.prog W 0 (fun _ => true) true 22 v d p) :
    ∃ A cap l, v = .slice A (l : List Stp).length cap ∧ (A = none → cap = 0) ∧ Stps W A l ∧ l.length ≤ maxLen := by
  obtain ⟨aL, lenL, capL, rfl⟩ := okWide_slice Tryd.underlying22 hv
  obtain ⟨fuel, hf⟩ := h
  rcases open_slice Tryd.underlying22 hf with ⟨hcs, _⟩ | ⟨a, len, cap, m, n, D, Pl, hcs, _, hl, hm, hmm, hx, hi⟩
  · simp [Value.cells] at hcs
    obtain ⟨rfl, rfl, rfl⟩ := hcs
    exact ⟨none, 0, [], rfl, by simp, ⟨Or.inl rfl, fun x hx => by cases hx⟩, by simp⟩
  · simp [Value.cells] at hcs
    obtain ⟨rfl, rfl, rfl⟩ := hcs
    have c2 : Tryd.prog.cellsOf 32 = 7 := by kernel_rfl
    have hlm : lenL ≤ m := by rw [hmm]; simp; exact hl
    haveI : Inhabited Stp := ⟨⟨0, 0, 0, 0, 0, 0, none, 0, []⟩⟩
    obtain ⟨Z, hZ⟩ := choose_lt (α := Stp) (n := lenL) (p := fun i z => (∀ j, j < 7 → W.cell? (a.add (i * 7 + j)) = (encQ z)[j]?) ∧ RowI W z.p z.l ∧ z.l.length ≤ maxLen ∧ (z.p = none → z.n = 0)) (fun i hi' => by
      obtain ⟨cs', h1, h2⟩ := hi i (by omega)
      rw [c2] at h1
      obtain ⟨_, hlen, hcell⟩ := World.cells?_some h1
      obtain ⟨y, hy, hy2⟩ := open_step hlen h2
      refine ⟨y, fun j hj => ?_, hy2⟩
      have := hcell j (by omega)
      rw [add_add] at this
      rw [this, ← hy, List.getElem?_eq_getElem (by omega)])
    refine ⟨some a, capL, (List.range lenL).map Z, by simp, (fun h => by cases h), ⟨?_, fun x hx => ?_⟩, by simp; omega⟩
    · by_cases h0 : lenL = 0
      · exact Or.inl (by rw [h0]; rfl)
      · have hc0 := (hZ 0 (by omega)).1 0 (by omega)
        obtain ⟨b, off, spot⟩ := a
        have hc1 : W.cell? (Addr.add ⟨b, off, spot⟩ (0 * 7 + 0)) = some (.int .i64 (Z 0).k) := hc0
        have hspot : spot = none := by simpa [Addr.add] using World.cell?_spot hc1
        subst hspot
        refine Or.inr ⟨b, off, rfl, ?_, fun j hj i hi5 => ?_⟩
        · have := World.block_lt_of_cell? W _ hc1
          simpa [Addr.add_lit] using this
        · have hj' : j < lenL := by simpa using hj
          have := (hZ j hj').1 i hi5
          simp only [Addr.add_lit, ← Nat.add_assoc] at this
          simpa using this
    · obtain ⟨i, hi', rfl⟩ := List.mem_map.1 hx
      exact (hZ i (by simpa using hi')).2

end Go.Proofs.YtoodkgmpggabdaaDoor
