/-
  The library's slices.Sort, Compact and Equal at ints, and slices.SortFunc at cells: where their functions and types stand in this program.
  slices.Equal at numbers.
-/
import Derived.Shelf.Slices.Equal
import Derived.Ground.NamesProg
import Derived.Ground.Names2Prog
import Derived.Test.YtgmdjioobidadaaProg
import Derived.Test.YtgmdjioobidadaaM02
import Derived.Shelf.Slices.Cells
namespace Go.Proofs
open Go.Shelf
def Try.equalInt_ren : Go.Shelf.Ren := ⟨fun | 111 => 33 | n => n, fun | 28 => 24 | 3 => 3 | 4 => 4 | 0 => 0 | n => n, fun | n => n⟩
theorem Try.equalInt : Go.Proofs.Lays.n111 Try.prog Try.equalInt_ren := {
  mixed := by kernel_rfl
  f111 := Try.func33.trans (congrArg some (by kernel_rfl))
  t0 := Try.underlying0
  a0 := Try.isAgg0
  z0 := Try.sizeOf0
  v0 := Try.zeroValue0
  t3 := Try.underlying3
  a3 := Try.isAgg3
  z3 := Try.sizeOf3
  v3 := Try.zeroValue3
  t4 := Try.underlying4
  a4 := Try.isAgg4
  z4 := Try.sizeOf4
  v4 := Try.zeroValue4
  t28 := Try.underlying24
  a28 := Try.isAgg24
  z28 := Try.sizeOf24
  v28 := Try.zeroValue24 }
end Go.Proofs

namespace Go.Proofs.Ytgmdjioobidadaa
open Go.RowKit Go.Sort Go.Shelf Go.Lib


theorem rowI_cellK {w : World} {b off : Nat} {l : List Int} (h : RowI w (some ⟨b, off, none⟩) l) : ∀ j, j < l.length → w.cell? ⟨b, off + j, none⟩ = some (.int .i64 (l.getD j 0)) := by
  intro j hj
  obtain ⟨b', off', hA, _, hc⟩ := h.at hj
  obtain ⟨rfl, rfl⟩ : b = b' ∧ off = off' := by injection hA with hA; injection hA with h1 h2; exact ⟨h1, h2⟩
  have := hc j hj 0 (by omega)
  have e : l.getD j 0 = l[j] := by simp [hj]
  rw [e]
  simpa [encI] using this
/-- slices.Equal at numbers. -/
theorem equalI_anyK (l m : List Int) (A B : Option Addr) (c d : Nat) (w : World) (hl : l.length ≤ 9223372036854775807) (hm : m.length ≤ 9223372036854775807) (hr : RowI w A l) (hs : RowI w B m) :
    Calls Try.prog 33 #[.slice A l.length c, .slice B m.length d] w fun e w' => e = .returned (.bool (decide (l = m))) ∧ Gr w w' := by
  by_cases h0 : l = []
  · subst h0
    have h := Any.slices_Equal_int_empty Try.equalInt A B c m.length d w hm
    change Calls Try.prog 33 _ _ _ at h
    refine h.mono ?_
    rintro e w' ⟨rfl, rfl⟩
    refine ⟨?_, Gr.refl _⟩
    have : decide (m.length = 0) = decide ([] = m) := by cases m <;> simp
    rw [this]
  · by_cases h1 : m = []
    · subst h1
      have hpos : 0 < l.length := List.length_pos_iff.2 h0
      have hlz : ((l.length : Int) != 0) = true := by simp; omega
      have hd0 : decide (l = []) = false := by simp [h0]
      rw [hd0]
      clear hd0 h0
      go_enter Try.func33, Try.ntmps33
      go_wp2
      go_ret
      exact ⟨rfl, Gr.refl _⟩
    · have hpos : 0 < l.length := List.length_pos_iff.2 h0
      have hpos1 : 0 < m.length := List.length_pos_iff.2 h1
      obtain ⟨b, off, rfl, _, _⟩ := hr.at hpos
      obtain ⟨b', off', rfl, _, _⟩ := hs.at hpos1
      have h := Any.slices_Equal_int Try.equalInt b off l.length c b' off' m.length d l m w (Nat.le_refl _) (Nat.le_refl _) hl hm (rowI_cellK hr) (rowI_cellK hs)
      change Calls Try.prog 33 _ _ _ at h
      refine h.mono ?_
      rintro e w' ⟨rfl, q, rfl⟩
      refine ⟨?_, ⟨q, #[], by rw [grow_empty]⟩⟩
      simp only [List.take_length]
      by_cases hlm : l = m <;> simp [hlm]

end Go.Proofs.Ytgmdjioobidadaa
