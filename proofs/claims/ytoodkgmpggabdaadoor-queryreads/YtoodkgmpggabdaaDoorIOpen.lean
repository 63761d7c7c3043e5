/-
  What is handed in, opened: a row of numbers.
-/
import Derived.Test.YtoodkgmpggabdaaDoorOpen


import Derived.Test.YtoodkgmpggabdaaDoorQInts

namespace Go.Proofs.YtoodkgmpggabdaaDoor
open Go.ChangeShapes Go.WideShapes Go.ChangeAt Go.RowKit Go.Deep

variable {H : Type} {enc : TypeId × Value → H} {W : World}

set_option maxRecDepth 100000 in
theorem open_row {fuel : Nat} {cs : List Value} {x : DataW H × List MemPlace} (h : DataW.trod enc Tryd.prog W 0 (fun _ => true) true fuel 30 cs = some x) :
    ∃ A cap l, cs = [.slice A (l : List Int).length cap] ∧ (A = none → cap = 0) ∧ RowI W A l ∧ l.length ≤ maxLen := by
  rcases open_slice Tryd.underlying30 h with ⟨hcs, _⟩ | ⟨a, len, cap, m, n, D, Pl, hcs, _, hl, hm, hmm, hx, hi⟩
  · exact ⟨none, 0, [], hcs, fun _ => rfl, Or.inl rfl, by simp⟩
  · have c1 : Tryd.prog.cellsOf 3 = 1 := by kernel_rfl
    have hlm : len ≤ m := by rw [hmm]; simp; exact hl
    obtain ⟨Z, hZ⟩ := choose_lt (α := Int) (n := len) (p := fun i z => W.cell? (a.add i) = some (.int .i64 z)) (fun i hi' => by
      obtain ⟨cs', h1, h2⟩ := hi i (by omega)
      rw [c1] at h1
      obtain ⟨_, hlen, hcell⟩ := World.cells?_some h1
      obtain ⟨z, e, _⟩ := DataW.trod_int Tryd.underlying3 h2
      refine ⟨z, ?_⟩
      have := hcell 0 (by omega)
      rw [add_add] at this
      simp only [Nat.mul_one, Nat.add_zero] at this
      rw [this]
      simp [e])
    refine ⟨some a, cap, (List.range len).map Z, by rw [hcs]; simp, (fun h => by cases h), ?_, by simp; omega⟩
    by_cases h0 : len = 0
    · exact Or.inl (by rw [h0]; rfl)
    · have hc0 := hZ 0 (by omega)
      obtain ⟨b, off, spot⟩ := a
      have hspot : spot = none := by simpa [Addr.add] using World.cell?_spot hc0
      subst hspot
      refine Or.inr ⟨b, off, rfl, ?_, fun j hj i hi1 => ?_⟩
      · have := World.block_lt_of_cell? W _ hc0
        simpa [Addr.add_lit] using this
      · have hj' : j < len := by simpa using hj
        have := hZ j hj'
        obtain rfl : i = 0 := by omega
        simp only [Addr.add_lit] at this
        simpa [encI] using this

end Go.Proofs.YtoodkgmpggabdaaDoor
