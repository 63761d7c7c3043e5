/-
  The numbers of a step that may stand in a query are small.
-/
import Derived.Test.YtoodkgmpggabdaaDoorQRefM
namespace Go.Proofs.YtoodkgmpggabdaaDoor

/-- A small number. -/
def Small (n : Int) : Prop := -1073741824 ≤ n ∧ n ≤ 1073741824
/-- All numbers of a step are small, and its list is short. -/
structure Fine (s : Stp) : Prop where
  a : Small s.a
  b : Small s.b
  c : Small s.c
  o : Small s.o
  v : Small s.v
  l : s.l.length ≤ 8 ∧ ∀ x ∈ s.l, Small x
theorem small_in {n lo hi : Int} (h : inB n lo hi = true) (h1 : -1073741824 ≤ lo) (h2 : hi ≤ 1073741824) : Small n := by
  simp only [inB, Bool.and_eq_true, decide_eq_true_eq] at h
  exact ⟨by omega, by omega⟩
theorem small_zero {n : Int} (h : decide (n = 0) = true) : Small n := by
  have : n = 0 := by simpa using h
  exact ⟨by omega, by omega⟩
theorem fine_nil {l : List Int} (h : l.isEmpty = true) : l.length ≤ 8 ∧ ∀ x ∈ l, Small x := by
  have : l = [] := by simpa using h
  subst this
  exact ⟨by simp, fun x hx => by cases hx⟩
theorem widW_fine {s : Stp} {ah : List Int} (h : widW s ah ≠ 0) (hl : ah.length ≤ 8) (hah : ∀ x ∈ ah, 0 ≤ x ∧ x ≤ 8) : Fine s := by
  have ga := getD_b hah s.a.toNat
  have gb := getD_b hah s.b.toNat
  by_cases h9 : 1 ≤ s.k ∧ s.k ≤ 9
  · have hk : s.k = 1 ∨ s.k = 2 ∨ s.k = 3 ∨ s.k = 4 ∨ s.k = 5 ∨ s.k = 6 ∨ s.k = 7 ∨ s.k = 8 ∨ s.k = 9 := by omega
    rcases hk with hk | hk | hk | hk | hk | hk | hk | hk | hk
    · rw [wid1 hk] at h
      have t := Classical.not_not.1 (fun e => h (if_neg e))
      simp only [Bool.and_eq_true] at t
      obtain ⟨⟨⟨⟨⟨t1, t2⟩, t3⟩, t4⟩, t5⟩, t6⟩ := t
      exact ⟨small_in t1 (by omega) (by omega), small_zero t2, small_zero t3, small_zero t4, small_zero t5, fine_nil t6⟩
    · rw [wid2 hk] at h
      have t := Classical.not_not.1 (fun e => h (if_neg e))
      simp only [Bool.and_eq_true] at t
      obtain ⟨⟨⟨⟨⟨t1, t2⟩, t3⟩, t4⟩, t5⟩, t6⟩ := t
      exact ⟨small_in t1 (by omega) (by omega), small_zero t2, small_in t6 (by omega) (by omega), small_in t4 (by omega) (by omega), small_in t5 (by omega) (by omega), fine_nil t3⟩
    · rw [wid3 hk] at h
      have t := Classical.not_not.1 (fun e => h (if_neg e))
      simp only [Bool.and_eq_true] at t
      obtain ⟨⟨⟨⟨⟨⟨t1, t2⟩, t3⟩, t4⟩, t5⟩, t6⟩, t7⟩ := t
      exact ⟨small_in t1 (by omega) (by omega), small_zero t2, small_zero t5, small_zero t6, small_zero t7, ⟨by simp only [inB, Bool.and_eq_true, decide_eq_true_eq] at t3; omega, fun x hx => small_in (List.all_eq_true.1 t4 x hx) (by omega) (by omega)⟩⟩
    · rw [wid4 hk] at h
      have t := Classical.not_not.1 (fun e => h (if_neg e))
      simp only [Bool.and_eq_true] at t
      obtain ⟨⟨⟨⟨⟨⟨t1, t2⟩, t3⟩, t4⟩, t5⟩, t6⟩, t7⟩ := t
      exact ⟨small_in t1 (by omega) (by omega), small_in t2 (by omega) (by omega), small_in t6 (by omega) (by omega), small_zero t7, small_in t5 (by omega) (by omega), fine_nil t3⟩
    · rw [wid5 hk] at h
      have t := Classical.not_not.1 (fun e => h (if_neg e))
      simp only [Bool.and_eq_true] at t
      obtain ⟨⟨⟨⟨⟨⟨t1, t2⟩, t3⟩, t4⟩, t5⟩, t6⟩, t7⟩ := t
      exact ⟨small_in t1 (by omega) (by omega), small_in t2 (by omega) (by omega), small_zero t5, small_zero t6, small_zero t7, fine_nil t3⟩
    · rw [wid6 hk] at h
      have t := Classical.not_not.1 (fun e => h (if_neg e))
      simp only [Bool.and_eq_true] at t
      obtain ⟨⟨⟨⟨⟨⟨t1, t2⟩, t3⟩, t4⟩, t5⟩, t6⟩, t7⟩ := t
      exact ⟨small_in t1 (by omega) (by omega), small_in t2 (by omega) (by omega), small_zero t5, small_zero t6, small_zero t7, fine_nil t3⟩
    · rw [wid7 hk] at h
      have t := Classical.not_not.1 (fun e => h (if_neg e))
      simp only [Bool.and_eq_true] at t
      obtain ⟨⟨⟨⟨⟨t1, t2⟩, t3⟩, t4⟩, t5⟩, t6⟩ := t
      exact ⟨small_in t1 (by omega) (by omega), small_zero t2, small_zero t4, small_zero t5, small_zero t6, fine_nil t3⟩
    · rw [wid8 hk] at h
      have t := Classical.not_not.1 (fun e => h (if_neg e))
      simp only [Bool.and_eq_true] at t
      obtain ⟨⟨⟨⟨⟨t1, t2⟩, t3⟩, t4⟩, t5⟩, t6⟩ := t
      exact ⟨small_in t1 (by omega) (by omega), small_zero t2, small_in t4 (by omega) (by omega), small_zero t5, small_zero t6, fine_nil t3⟩
    · rw [wid9 hk] at h
      have t := Classical.not_not.1 (fun e => h (if_neg e))
      simp only [Bool.and_eq_true] at t
      obtain ⟨⟨⟨⟨⟨t1, t2⟩, t3⟩, t4⟩, t5⟩, t6⟩ := t
      exact ⟨small_in t1 (by omega) (by omega), small_zero t2, small_in t5 (by omega) (by omega), small_zero t6, small_in t4 (by omega) (by omega), fine_nil t3⟩
  · exact absurd (alone0 h9) h

end Go.Proofs.YtoodkgmpggabdaaDoor
