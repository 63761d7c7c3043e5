/-
  slices.Equal at numbers.
-/


import Derived.Test.YtoodkgmpggabdaaDoorQInts
import Derived.Test.YtoodkgmpggabdaaDoorShelfE
import Derived.Shelf.Slices.Cells

namespace Go.Proofs.YtoodkgmpggabdaaDoor
open Go.RowKit Go.Sort Go.Shelf Go.Lib


theorem rowI_cellK {w : World} {b off : Nat} {l : List Int} (h : RowI w (some ⟨b, off, none⟩) l) : ∀ j, j < l.length → w.cell? ⟨b, off + j, none⟩ = some (.int .i64 (l.getD j 0)) := by
  intro j hj
  obtain ⟨b', off', hA, _, hc⟩ := h.at hj
  obtain ⟨rfl, rfl⟩ : b = b' ∧ off = off' := by injection hA with hA; injection hA with h1 h2; exact ⟨h1, h2⟩
  have := hc j hj 0 (by omega)
  have e : l.getD j 0 = l[j] := by simp [hj]
  rw [e]
  simpa [encI] using this
/-- slices.Equal at numbers. -/
theorem equalI_anyK (l m : List Int) (A B : Option Addr) (c d : Nat) (w : World) (hl : l.length ≤ 9223372036854775807) (hm : m.length ≤ 9223372036854775807) (hr : RowI w A l) (hs : RowI w B m) :
    Calls Tryd.prog 15 #[.slice A l.length c, .slice B m.length d] w fun e w' => e = .returned (.bool (decide (l = m))) ∧ Gr w w' := by
  by_cases h0 : l = []
  · subst h0
    have h := Any.slices_Equal_int_empty Tryd.equalInt A B c m.length d w hm
    change Calls Tryd.prog 15 _ _ _ at h
    refine h.mono ?_
    rintro e w' ⟨rfl, rfl⟩
    refine ⟨?_, Gr.refl _⟩
    have : decide (m.length = 0) = decide ([] = m) := by cases m <;> simp
    rw [this]
  · by_cases h1 : m = []
    · subst h1
      have hpos : 0 < l.length := List.length_pos_iff.2 h0
      have hlz : ((l.length : Int) != 0) = true := by simp; omega
      have hd0 : decide (l = []) = false := by simp [h0]
      rw [hd0]
      clear hd0 h0
      go_enter Tryd.func15, Tryd.ntmps15
      go_wp2
      go_ret
      exact ⟨rfl, Gr.refl _⟩
    · have hpos : 0 < l.length := List.length_pos_iff.2 h0
      have hpos1 : 0 < m.length := List.length_pos_iff.2 h1
      obtain ⟨b, off, rfl, _, _⟩ := hr.at hpos
      obtain ⟨b', off', rfl, _, _⟩ := hs.at hpos1
      have h := Any.slices_Equal_int Tryd.equalInt b off l.length c b' off' m.length d l m w (Nat.le_refl _) (Nat.le_refl _) hl hm (rowI_cellK hr) (rowI_cellK hs)
      change Calls Tryd.prog 15 _ _ _ at h
      refine h.mono ?_
      rintro e w' ⟨rfl, q, rfl⟩
      refine ⟨?_, ⟨q, #[], by rw [grow_empty]⟩⟩
      simp only [List.take_length]
      by_cases hlm : l = m <;> simp [hlm]

end Go.Proofs.YtoodkgmpggabdaaDoor
