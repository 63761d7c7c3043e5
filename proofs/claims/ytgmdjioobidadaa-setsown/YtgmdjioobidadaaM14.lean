/-
  What is handed in, opened: a row of numbers.
  What is handed in, opened: a row of numbers, a list of items.
-/
import Derived.Test.YtgmdjioobidadaaM13
import Derived.Test.YtgmdjioobidadaaM02
import Derived.Test.YtgmdjioobidadaaM04
namespace Go.Proofs.Ytgmdjioobidadaa
open Go.ChangeShapes Go.WideShapes Go.ChangeAt Go.RowKit Go.Deep

variable {H : Type} {enc : TypeId × Value → H} {W : World}

set_option maxRecDepth 100000 in
theorem open_row {fuel : Nat} {cs : List Value} {x : DataW H × List MemPlace} (h : DataW.trod enc Try.prog W 0 (fun _ => true) true fuel 24 cs = some x) :
    ∃ A cap l, cs = [.slice A (l : List Int).length cap] ∧ (A = none → cap = 0) ∧ RowI W A l ∧ l.length ≤ maxLen := by
  rcases open_slice Try.underlying24 h with ⟨hcs, _⟩ | ⟨a, len, cap, m, n, D, Pl, hcs, _, hl, hm, hmm, hx, hi⟩
  · exact ⟨none, 0, [], hcs, fun _ => rfl, Or.inl rfl, by simp⟩
  · have c1 : Try.prog.cellsOf 3 = 1 := by kernel_rfl
    have hlm : len ≤ m := by rw [hmm]; simp; exact hl
    obtain ⟨Z, hZ⟩ := choose_lt (α := Int) (n := len) (p := fun i z => W.cell? (a.add i) = some (.int .i64 z)) (fun i hi' => by
      obtain ⟨cs', h1, h2⟩ := hi i (by omega)
      rw [c1] at h1
      obtain ⟨_, hlen, hcell⟩ := World.cells?_some h1
      obtain ⟨z, e, _⟩ := DataW.trod_int Try.underlying3 h2
      refine ⟨z, ?_⟩
      have := hcell 0 (by omega)
      rw [add_add] at this
      simp only [Nat.mul_one, Nat.add_zero] at this
      rw [this]
      simp [e])
    refine ⟨some a, cap, (List.range len).map Z, by rw [hcs]; simp, (fun h => by cases h), ?_, by simp; omega⟩
    by_cases h0 : len = 0
    · exact Or.inl (by rw [h0]; rfl)
    · have hc0 := hZ 0 (by omega)
      obtain ⟨b, off, spot⟩ := a
      have hspot : spot = none := by simpa [Addr.add] using World.cell?_spot hc0
      subst hspot
      refine Or.inr ⟨b, off, rfl, ?_, fun j hj i hi1 => ?_⟩
      · have := World.block_lt_of_cell? W _ hc0
        simpa [Addr.add_lit] using this
      · have hj' : j < len := by simpa using hj
        have := hZ j hj'
        obtain rfl : i = 0 := by omega
        simp only [Addr.add_lit] at this
        simpa [encI] using this

end Go.Proofs.Ytgmdjioobidadaa

namespace Go.Proofs.Ytgmdjioobidadaa
open Go.ChangeShapes Go.WideShapes Go.ChangeAt Go.RowKit Go.Deep

variable {H : Type} {enc : TypeId × Value → H} {W : World}

set_option maxRecDepth 100000 in
theorem open_item {fuel : Nat} {cs : List Value} {x : DataW H × List MemPlace} (hl : cs.length = 2) (h : DataW.trod enc Try.prog W 0 (fun _ => true) true fuel 45 cs = some x) : ∃ y : Itm, cs = encT y ∧ RowI W y.p y.r ∧ y.r.length ≤ maxLen ∧ (y.p = none → y.c = 0) := by
  match cs, hl with
  | [v0, v1], _ =>
    obtain ⟨y0, y1, n, _, _, t0, t1⟩ := trod_struct2 Try.underlying45 h
    have c1 : Try.prog.cellsOf 3 = 1 := by kernel_rfl
    have c2 : Try.prog.cellsOf 24 = 1 := by kernel_rfl
    simp only [c1, c2] at t0 t1
    obtain ⟨A, cap, l, hl, hA, hr, hm⟩ := open_row t0
    obtain ⟨z, e, _⟩ := DataW.trod_int Try.underlying3 t1
    simp at hl e
    exact ⟨⟨A, cap, l, z⟩, by rw [hl, e]; rfl, hr, hm, hA⟩

set_option maxRecDepth 100000 in
theorem open_itemsT {fuel : Nat} {cs : List Value} {x : DataW H × List MemPlace} (h : DataW.trod enc Try.prog W 0 (fun _ => true) true fuel 23 cs = some x) :
    ∃ A cap l, cs = [.slice A (l : List Itm).length cap] ∧ NilC A l.length cap ∧ Items W A l ∧ l.length ≤ maxLen := by
  rcases open_slice Try.underlying23 h with ⟨hcs, _⟩ | ⟨a, lenL, capL, m, n, D, Pl, hcs, _, hl, hm, hmm, hx, hi⟩
  · exact ⟨none, 0, [], hcs, fun _ => rfl, ⟨Or.inl rfl, fun x hx => by cases hx⟩, by simp⟩
  · have c2 : Try.prog.cellsOf 45 = 2 := by kernel_rfl
    have hlm : lenL ≤ m := by rw [hmm]; simp; exact hl
    haveI : Inhabited Itm := ⟨⟨none, 0, [], 0⟩⟩
    obtain ⟨Z, hZ⟩ := choose_lt (α := Itm) (n := lenL) (p := fun i z => (∀ j, j < 2 → W.cell? (a.add (i * 2 + j)) = (encT z)[j]?) ∧ RowI W z.p z.r ∧ z.r.length ≤ maxLen ∧ (z.p = none → z.c = 0)) (fun i hi' => by
      obtain ⟨cs', h1, h2⟩ := hi i (by omega)
      rw [c2] at h1
      obtain ⟨_, hlen, hcell⟩ := World.cells?_some h1
      obtain ⟨y, hy, hy2⟩ := open_item hlen h2
      refine ⟨y, fun j hj => ?_, hy2⟩
      have := hcell j (by omega)
      rw [add_add] at this
      rw [this, ← hy, List.getElem?_eq_getElem (by omega)])
    refine ⟨some a, capL, (List.range lenL).map Z, by rw [hcs]; simp, NilC.mk (fun h => by cases h) (by simp; exact hl), ⟨?_, fun x hx => ?_⟩, by simp; omega⟩
    · by_cases h0 : lenL = 0
      · exact Or.inl (by rw [h0]; rfl)
      · have hc0 := (hZ 0 (by omega)).1 0 (by omega)
        obtain ⟨b, off, spot⟩ := a
        have hc1 : W.cell? (Addr.add ⟨b, off, spot⟩ (0 * 2 + 0)) = some (.slice (Z 0).p (Z 0).r.length (Z 0).c) := hc0
        have hspot : spot = none := by simpa [Addr.add] using World.cell?_spot hc1
        subst hspot
        refine Or.inr ⟨b, off, rfl, ?_, fun j hj i hi5 => ?_⟩
        · have := World.block_lt_of_cell? W _ hc1
          simpa [Addr.add_lit] using this
        · have hj' : j < lenL := by simpa using hj
          have := (hZ j hj').1 i hi5
          simp only [Addr.add_lit, ← Nat.add_assoc] at this
          simpa using this
    · obtain ⟨i, hi', rfl⟩ := List.mem_map.1 hx
      exact (hZ i (by simpa using hi')).2

set_option maxRecDepth 100000 in
theorem open_items {r : Reach} {b0 : Nat} {v : Value} {d : DataW H} {p : List MemPlace} (hv : Value.okWide Try.prog W r b0 23 v) (h : DataW.Trod enc Try.prog W 0 (fun _ => true) true 23 v d p) :
    ∃ A cap l, v = .slice A (l : List Itm).length cap ∧ NilC A l.length cap ∧ Items W A l ∧ l.length ≤ maxLen := by
  obtain ⟨aL, lenL, capL, rfl⟩ := okWide_slice Try.underlying23 hv
  obtain ⟨fuel, hf⟩ := h
  obtain ⟨A, cap, l, hcs, h1⟩ := open_itemsT hf
  refine ⟨A, cap, l, ?_, h1⟩
  simpa [Value.cells] using hcs


end Go.Proofs.Ytgmdjioobidadaa
