/-
  query.Print: the text of a query.
-/
import Derived.Test.YtoodkgmpggabdaaDoorQLine
namespace Go.Proofs.YtoodkgmpggabdaaDoor
open Go.RowKit Go.Sort

/-- A query's text. -/
def textT (q : List Stp) : List UInt8 := q.flatMap fun s => lineT s ++ [10]
theorem lineT_len {s : Stp} (h : Fine s) : (lineT s).length ≤ 5005 := by
  unfold lineT
  have h1 := join_le [32] 1000 (wordL s.k :: (partL s.k).map (fun p => partT s p.toNat)) (fun x hx => by
    rcases List.mem_cons.1 hx with e | e
    · rw [e]; exact Nat.le_trans (wordL_len s.k) (by omega)
    · obtain ⟨p, _, rfl⟩ := List.mem_map.1 e
      exact partT_len h _)
  have h2 := partL_len s.k
  have h3 : (wordL s.k :: (partL s.k).map (fun p => partT s p.toNat)).length ≤ 5 := by simp; omega
  have h4 := Nat.mul_le_mul h3 (Nat.le_refl (1000 + [(32 : UInt8)].length))
  simp only [List.length_cons, List.length_nil] at h1 h4 ⊢
  omega

/-- What Print tells. -/
def printT (q : List Stp) : List UInt8 := if errQ q = 0 then textT q else []
theorem pick_ne {s : Stp} {ah : List Int} (h : widW s ah ≠ 0) (hk : s.k = 3) : s.l ≠ [] := by
  intro e
  apply h
  rw [wid3 hk, e]
  simp [inB]
theorem widsF_fine : ∀ (q : List Stp) (ah : List Int), (∀ x ∈ ah, 0 ≤ x ∧ x ≤ 8) → ah.length + q.length ≤ 8 → (widsF q ah).isSome = true → ∀ s ∈ q, Fine s ∧ (s.k = 3 → s.l ≠ [])
  | [], _, _, _, _ => fun s hs => by cases hs
  | s :: t, ah, h1, h2, h3 => by
    have h3' : (if widW s ah = 0 then none else widsF t (ah ++ [widW s ah])).isSome = true := h3
    by_cases e : widW s ah = 0
    · rw [if_pos e] at h3'; cases h3'
    · rw [if_neg e] at h3'
      have hb := widW_b s h1
      have ih := widsF_fine t (ah ++ [widW s ah]) (fun x hx => by
        rcases List.mem_append.1 hx with k | k
        · exact h1 x k
        · rw [List.mem_singleton.1 k]; exact hb) (by simp at h2 ⊢; omega) h3'
      intro u hu
      rcases List.mem_cons.1 hu with k | k
      · subst k
        simp at h2
        exact ⟨widW_fine e (by omega) h1, pick_ne e⟩
      · exact ih u k
theorem errQ_fine {q : List Stp} (h : errQ q = 0) : ∀ s ∈ q, Fine s ∧ (s.k = 3 → s.l ≠ []) := by
  have h8 := (widsL_len h).2
  refine widsF_fine q [] (fun x hx => by cases hx) (by simpa using h8) ?_
  unfold errQ at h
  by_cases h0 : q.length = 0
  · rw [if_pos h0] at h; cases h
  · rw [if_neg h0, if_neg (by omega)] at h
    by_cases k : (widsF q []).isSome = true
    · exact k
    · rw [if_neg k] at h; cases h
theorem errQ_ne {q : List Stp} (h : errQ q = 0) : q ≠ [] := by
  intro e
  rw [e] at h
  exact absurd h (by decide)
theorem textT_take {q : List Stp} {j : Nat} (h : j < q.length) : textT (q.take (j + 1)) = textT (q.take j) ++ lineT q[j] ++ [10] := by
  unfold textT
  rw [List.take_succ_eq_append_getElem h, List.flatMap_append, List.flatMap_cons, List.flatMap_nil, List.append_nil, List.append_assoc]
theorem textT_len : ∀ q : List Stp, (∀ s ∈ q, Fine s) → (textT q).length ≤ q.length * 5006
  | [], _ => by simp [textT]
  | s :: t, h => by
    have h1 := textT_len t fun x hx => h x (List.mem_cons_of_mem _ hx)
    have h2 := lineT_len (h s (List.mem_cons_self ..))
    have e : textT (s :: t) = lineT s ++ [10] ++ textT t := by simp [textT]
    rw [e]
    simp only [List.length_append, List.length_cons, List.length_nil, Nat.succ_mul] at h1 ⊢
    omega
theorem textT_ne {q : List Stp} (h : q ≠ []) : textT q ≠ [] := by
  cases q with
  | nil => exact absurd rfl h
  | cons s t => simp [textT]

end Go.Proofs.YtoodkgmpggabdaaDoor
