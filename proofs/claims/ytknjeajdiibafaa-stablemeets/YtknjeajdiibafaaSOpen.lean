/-
  What is handed in, opened: a list of contexts.
-/
import Derived.Test.YtknjeajdiibafaaTOpen
import Derived.Test.YtknjeajdiibafaaSBase
namespace Go.Proofs.Ytknjeajdiibafaa
open Go.ChangeShapes Go.WideShapes Go.ChangeAt Go.RowKit Go.Deep

variable {H : Type} {enc : TypeId × Value → H} {W : World}

set_option maxRecDepth 100000 in
theorem open_ctxsT {fuel : Nat} {cs : List Value} {x : DataW H × List MemPlace} (h : DataW.trod enc Try.prog W 0 (fun _ => true) true fuel 29 cs = some x) :
    ∃ A cap l, cs = [.slice A (l : List Cx).length cap] ∧ (A = none → cap = 0) ∧ Cxs W A l ∧ l.length ≤ maxLen ∧ ((∀ n ∈ x.1.weights Try.prog 29, n ≤ reachBytes) → l.length * 56 ≤ 140737488351232) := by
  rcases open_slice Try.underlying29 h with ⟨hcs, _⟩ | ⟨a, lenL, capL, m, n, D, Pl, hcs, _, hl, hm, hmm, hx, hi⟩
  · exact ⟨none, 0, [], hcs, fun _ => rfl, ⟨Or.inl rfl, fun x hx => by cases hx⟩, by simp, fun _ => by simp⟩
  · have c5 : Try.prog.cellsOf 25 = 5 := by kernel_rfl
    have b56 : Try.prog.bytesOf 25 = 56 := by kernel_rfl
    have hlm : lenL ≤ m := by rw [hmm]; simp; exact hl
    haveI : Inhabited Cx := ⟨⟨⟨0, 0, 0, 0, []⟩, none, 0⟩⟩
    obtain ⟨Z, hZ⟩ := choose_lt (α := Cx) (n := lenL) (p := fun i z => (∀ j, j < 5 → W.cell? (a.add (i * 5 + j)) = (encX z)[j]?) ∧ Row W z.p z.c.l ∧ z.c.l.length ≤ maxLen ∧ (z.p = none → z.n = 0)) (fun i hi' => by
      obtain ⟨cs', h1, h2⟩ := hi i (by omega)
      rw [c5] at h1
      obtain ⟨_, hlen, hcell⟩ := World.cells?_some h1
      obtain ⟨c, A, cap, hy, hA, hr, hml⟩ := open_ctxc hlen h2
      refine ⟨⟨c, A, cap⟩, fun j hj => ?_, hr, hml, hA⟩
      have := hcell j (by omega)
      rw [add_add] at this
      rw [this]
      show _ = [_, _, _, _, _][j]?
      rw [← hy, List.getElem?_eq_getElem (by omega)])
    refine ⟨some a, capL, (List.range lenL).map Z, by rw [hcs]; simp, (fun h => by cases h), ⟨?_, fun x hx => ?_⟩, by simp; omega, fun hw => ?_⟩
    · by_cases h0 : lenL = 0
      · exact Or.inl (by rw [h0]; rfl)
      · have hc0 := (hZ 0 (by omega)).1 0 (by omega)
        obtain ⟨b, off, spot⟩ := a
        have hc1 : W.cell? (Addr.add ⟨b, off, spot⟩ (0 * 5 + 0)) = some (.int .i64 (Z 0).c.c0) := hc0
        have hspot : spot = none := by simpa [Addr.add] using World.cell?_spot hc1
        subst hspot
        refine Or.inr ⟨b, off, rfl, ?_, fun j hj i hi5 => ?_⟩
        · have := World.block_lt_of_cell? W _ hc1
          simpa [Addr.add_lit] using this
        · have hj' : j < lenL := by simpa using hj
          have := (hZ j hj').1 i hi5
          simp only [Addr.add_lit, ← Nat.add_assoc] at this
          simpa using this
    · obtain ⟨i, hi', rfl⟩ := List.mem_map.1 hx
      exact (hZ i (by simpa using hi')).2
    · rw [hx] at hw
      have := hw ((((List.range lenL).map D).length + ((List.range (m - lenL)).map fun j => D (lenL + j)).length) * Try.prog.bytesOf 25) (by simp [DataW.weights, Try.underlying29])
      have hb : reachBytes ≤ 140737488351232 := by decide
      rw [b56] at this
      simp only [List.length_map, List.length_range] at this ⊢
      omega

set_option maxRecDepth 100000 in
theorem open_ctxs {r : Reach} {b0 : Nat} {v : Value} {d : DataW H} {p : List MemPlace} (hv : Value.okWide Try.prog W r b0 29 v) (h : DataW.Trod enc Try.prog W 0 (fun _ => true) true 29 v d p) :
    ∃ A cap l, v = .slice A (l : List Cx).length cap ∧ (A = none → cap = 0) ∧ Cxs W A l ∧ l.length ≤ maxLen ∧ ((∀ n ∈ d.weights Try.prog 29, n ≤ reachBytes) → l.length * 56 ≤ 140737488351232) := by
  obtain ⟨aL, lenL, capL, rfl⟩ := okWide_slice Try.underlying29 hv
  obtain ⟨fuel, hf⟩ := h
  obtain ⟨A, cap, l, hcs, h1⟩ := open_ctxsT hf
  refine ⟨A, cap, l, ?_, h1⟩
  simpa [Value.cells] using hcs

end Go.Proofs.Ytknjeajdiibafaa
