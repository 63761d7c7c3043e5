/-
  Plain facts: Packed takes the dots in their order; so it makes what fold makes.
-/
import Derived.Test.YtknjeajdiibafaaPacked
namespace Go.Proofs.Ytknjeajdiibafaa
open Go.RowKit Go.Sort

/-- The dots in the order in which Packed takes them. -/
def selN : Nat → List (Int × Int) → List (Int × Int)
  | 0, _ => []
  | n + 1, l => l.getD (lix l n) (0, 0) :: selN n (l.eraseIdx (lix l n))

theorem packN_sel : ∀ (n : Nat) (c : Ctx) (l : List (Int × Int)), packN n c l = (selN n l).foldl pstep c
  | 0, _, _ => rfl
  | n + 1, c, l => by
    show packN n _ _ = List.foldl pstep (pstep c _) _
    rw [packN_sel n]

theorem lix_least (l : List (Int × Int)) : ∀ i, i < l.length → ∀ j, j ≤ i → leD (l.getD (lix l i) (0, 0)) (l.getD j (0, 0)) := by
  intro i
  induction i with
  | zero =>
    intro _ j hj
    obtain rfl : j = 0 := by omega
    exact leD_refl _
  | succ i ih =>
    intro hi j hj
    have ih' := ih (by omega)
    show leD (l.getD (if _ then _ else _) _) _
    by_cases hb : befB (l.getD (i + 1) (0, 0)) (l.getD (lix l i) (0, 0)) = true
    · rw [if_pos hb]
      by_cases e : j = i + 1
      · rw [e]; exact leD_refl _
      · have h1 := ih' j (by omega)
        have h2 : leD (l.getD (i + 1) (0, 0)) (l.getD (lix l i) (0, 0)) := by
          rw [leD_iff]
          have := (befB_iff _ _).1 hb
          omega
        exact leD_trans h2 h1
    · rw [if_neg hb]
      by_cases e : j = i + 1
      · rw [e]
        show befB _ _ = false
        simpa using hb
      · exact ih' j (by omega)

theorem erase_perm {l : List (Int × Int)} {k : Nat} (h : k < l.length) : (l.getD k (0, 0) :: l.eraseIdx k).Perm l := by
  have e : l.getD k (0, 0) = l[k] := by simp [h]
  rw [e, List.eraseIdx_eq_take_drop_succ]
  have h2 : l = l.take k ++ l[k] :: l.drop (k + 1) := by rw [List.getElem_cons_drop, List.take_append_drop]
  exact (List.perm_middle.symm).trans (List.Perm.of_eq h2.symm)

theorem selN_perm : ∀ (n : Nat) (l : List (Int × Int)), l.length = n → (selN n l).Perm l
  | 0, l, h => by rw [List.eq_nil_of_length_eq_zero h]; exact List.Perm.refl _
  | n + 1, l, h => by
    have hk : lix l n < l.length := by have := lix_le l n; omega
    have hl : (l.eraseIdx (lix l n)).length = n := by rw [List.length_eraseIdx, if_pos hk]; omega
    exact ((selN_perm n _ hl).cons _).trans (erase_perm hk)

theorem selN_sorted : ∀ (n : Nat) (l : List (Int × Int)), l.length = n → (selN n l).Pairwise leD
  | 0, _, _ => List.Pairwise.nil
  | n + 1, l, h => by
    have hk : lix l n < l.length := by have := lix_le l n; omega
    have hl : (l.eraseIdx (lix l n)).length = n := by rw [List.length_eraseIdx, if_pos hk]; omega
    refine List.pairwise_cons.2 ⟨fun y hy => ?_, selN_sorted n _ hl⟩
    have hy1 := (selN_perm n _ hl).mem_iff.1 hy
    have hy2 := List.mem_of_mem_eraseIdx hy1
    obtain ⟨j, hj, rfl⟩ := List.getElem_of_mem hy2
    have := lix_least l n (by omega) j (by omega)
    have e : l.getD j (0, 0) = l[j] := by simp [hj]
    rw [e] at this
    exact this

theorem pack_fold {c : Ctx} (hc : c.l = []) {l : List (Int × Int)} (hr : ∀ x ∈ l, rightB x = true) : packN l.length c l = foldS c l := by
  rw [packN_sel, foldS_pstep hc hr]
  congr 1
  exact sorted_eq (selN_sorted _ l rfl) (srt_sorted l) ((selN_perm _ l rfl).trans (srt_perm l).symm)

end Go.Proofs.Ytknjeajdiibafaa
