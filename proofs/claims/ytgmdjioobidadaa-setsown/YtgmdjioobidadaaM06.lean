/-
  What zset.total's loops keep: rows in order, summed up one after another.
  The library's slices.SortFunc at items: where its functions and types stand in this program.
-/
import Derived.Test.YtgmdjioobidadaaM05
import Derived.Shelf.SlSortCmp.NoneTotal
import Derived.Shelf.SlGeneric
import Derived.Test.YtgmdjioobidadaaProg
namespace Go.Proofs.Ytgmdjioobidadaa

/-- In order by their rows. -/
def Sorted (S : List Zit) : Prop := S.Pairwise fun x y => cmpL x.1 y.1 ≤ 0
/-- What holds when the first i items have been summed up. -/
structure Upto (S : List Zit) (i : Nat) (L : List Zit) : Prop where
  tot : IsTot (S.take i) L
  len : L.length ≤ i
  part : ∀ x ∈ S.take i, ∀ y ∈ S.drop i, cmpL x.1 y.1 < 0
  good : ∀ r, okW (wt (S.take i) r) = true
theorem Upto.zero (S : List Zit) : Upto S 0 [] := ⟨⟨List.Pairwise.nil, fun x hx => (by cases hx), fun r => rfl⟩, by simp, fun x hx => by simp at hx, fun r => by simp [wt, okW, inB]⟩
theorem Upto.done {S L : List Zit} {i : Nat} (h : Upto S i L) (hi : S.length ≤ i) : IsTot S L ∧ ¬ BadT S := by
  have e : S.take i = S := List.take_of_length_le hi
  refine ⟨by have := h.tot; rwa [e] at this, ?_⟩
  rintro ⟨r, hr⟩
  have := h.good r
  rw [e, hr] at this; cases this
theorem wt_bound {l : List Zit} (h : ∀ x ∈ l, okW x.2 = true) (r : List Int) : -((l.length : Int) * 1048576) ≤ wt l r ∧ wt l r ≤ (l.length : Int) * 1048576 := by
  induction l with
  | nil => simp [wt]
  | cons x l ih =>
    have h1 := ih fun y hy => h y (List.mem_cons_of_mem _ hy)
    have h2 := h x (List.mem_cons_self ..)
    simp only [okW, inB, Bool.and_eq_true, decide_eq_true_eq] at h2
    simp only [wt, List.length_cons]
    by_cases e : x.1 = r
    · rw [if_pos e]; omega
    · rw [if_neg e]; omega
theorem wt_take_succ {S : List Zit} {k : Nat} (hk : k < S.length) (r : List Int) : wt (S.take (k + 1)) r = wt (S.take k) r + if S[k].1 = r then S[k].2 else 0 := by
  rw [List.take_succ_eq_append_getElem hk, wt_append]
  simp [wt]
/-- The rows from i to j are row. -/
def Run (S : List Zit) (row : List Int) (i j : Nat) : Prop := ∀ m (_ : m < S.length), i ≤ m → m < j → S[m].1 = row
theorem Run.seg {S : List Zit} {row : List Int} {i j : Nat} (h : Run S row i j) : ∀ x ∈ (S.take j).drop i, x.1 = row := by
  intro x hx
  obtain ⟨k, hk, rfl⟩ := List.mem_iff_getElem.1 hx
  simp only [List.length_drop, List.length_take] at hk
  rw [List.getElem_drop, List.getElem_take]
  exact h _ (by omega) (by omega) (by omega)
theorem Run.split {S : List Zit} {i j : Nat} (hij : i ≤ j) : S.take j = S.take i ++ (S.take j).drop i := by
  conv => lhs; rw [← List.take_append_drop i (S.take j)]
  rw [List.take_take, Nat.min_eq_left hij]
theorem Run.other {S : List Zit} {row : List Int} {i j : Nat} (h : Run S row i j) (hij : i ≤ j) {r : List Int} (hr : r ≠ row) : wt (S.take j) r = wt (S.take i) r := by
  rw [Run.split hij, wt_append, wt_none (l := (S.take j).drop i) fun x hx e => hr (by rw [← e]; exact h.seg x hx)]; omega
theorem Upto.first {S L : List Zit} {i : Nat} (h : Upto S i L) (hi : i < S.length) : wt (S.take i) S[i].1 = 0 :=
  wt_none fun x hx e => cmpL_ne (h.part x hx S[i] (by rw [List.drop_eq_getElem_cons hi]; exact List.mem_cons_self ..)) e
theorem after {S : List Zit} {row : List Int} {j : Nat} (hs : Sorted S) (i : Nat) (hi : i < S.length) (hij : i < j) (hrow : S[i].1 = row) (hj : ∀ (h : j < S.length), cmpL row S[j].1 ≠ 0) : ∀ x ∈ S.drop j, cmpL row x.1 < 0 := by
  intro x hx
  obtain ⟨k, hk, rfl⟩ := List.mem_iff_getElem.1 hx
  simp only [List.length_drop] at hk
  rw [List.getElem_drop]
  have hp := List.pairwise_iff_getElem.1 hs
  have h1 : cmpL S[i].1 S[j].1 ≤ 0 := hp i j hi (by omega) hij
  rw [hrow] at h1
  have h2 := hj (by omega)
  by_cases e : k = 0
  · subst e; simp only [Nat.add_zero]; omega
  · have h3 : cmpL S[j].1 S[j + k].1 ≤ 0 := hp j (j + k) (by omega) (by omega) (by omega)
    exact (cmpL_trans _ _ _ h1 h3).2 (Or.inl (by omega))
theorem run_bad {S : List Zit} {i j : Nat} (hs : Sorted S) (hi : i < S.length) (hij : i < j) (hj : ∀ (h : j < S.length), cmpL S[i].1 S[j].1 ≠ 0) (hb : okW (wt (S.take j) S[i].1) = false) : BadT S := by
  refine ⟨S[i].1, ?_⟩
  have h1 : wt S S[i].1 = wt (S.take j) S[i].1 := by
    have h2 := wt_append (S.take j) (S.drop j) S[i].1
    rw [List.take_append_drop, wt_none (l := S.drop j) fun x hx e => cmpL_ne (after hs i hi hij rfl hj x hx) e.symm] at h2; omega
  rw [h1]; exact hb
theorem run_part {S L : List Zit} {i j : Nat} (hs : Sorted S) (h : Upto S i L) (hi : i < S.length) (hij : i < j) (hr : Run S S[i].1 i j) (hj : ∀ (h : j < S.length), cmpL S[i].1 S[j].1 ≠ 0) : ∀ x ∈ S.take j, ∀ y ∈ S.drop j, cmpL x.1 y.1 < 0 := by
  intro x hx y hy
  rw [Run.split (Nat.le_of_lt hij)] at hx
  have h1 := after hs i hi hij rfl hj y hy
  rcases List.mem_append.1 hx with e | e
  · exact cmpL_lt_trans (h.part x e S[i] (by rw [List.drop_eq_getElem_cons hi]; exact List.mem_cons_self ..)) h1
  · rw [hr.seg x e]; exact h1
theorem run_good {S L : List Zit} {i j : Nat} (h : Upto S i L) (hij : i < j) (row : List Int) (hr : Run S row i j) (hw : okW (wt (S.take j) row) = true) : ∀ r, okW (wt (S.take j) r) = true := by
  intro r
  by_cases e : r = row
  · rw [e]; exact hw
  · rw [hr.other (Nat.le_of_lt hij) e]; exact h.good r
theorem run_zero {S L : List Zit} {i j : Nat} (hs : Sorted S) (h : Upto S i L) (hi : i < S.length) (hij : i < j) (hr : Run S S[i].1 i j) (hj : ∀ (h : j < S.length), cmpL S[i].1 S[j].1 ≠ 0) (hw : wt (S.take j) S[i].1 = 0) : Upto S j L := by
  refine ⟨⟨h.tot.rise, h.tot.noz, fun r => ?_⟩, by have := h.len; omega, run_part hs h hi hij hr hj, run_good h hij _ hr (by rw [hw]; decide)⟩
  rw [h.tot.same]
  by_cases e : r = S[i].1
  · rw [e, hw, h.first hi]
  · rw [hr.other (Nat.le_of_lt hij) e]
theorem run_more {S L : List Zit} {i j : Nat} (hs : Sorted S) (h : Upto S i L) (hi : i < S.length) (hij : i < j) (hr : Run S S[i].1 i j) (hj : ∀ (h : j < S.length), cmpL S[i].1 S[j].1 ≠ 0) (hw : okW (wt (S.take j) S[i].1) = true) (h0 : wt (S.take j) S[i].1 ≠ 0) : Upto S j (L ++ [(S[i].1, wt (S.take j) S[i].1)]) := by
  refine ⟨⟨?_, ?_, fun r => ?_⟩, by have := h.len; simp; omega, run_part hs h hi hij hr hj, run_good h hij _ hr hw⟩
  · unfold Rise
    rw [List.pairwise_append]
    refine ⟨h.tot.rise, List.pairwise_singleton _ _, fun x hx y hy => ?_⟩
    obtain rfl : y = _ := by simpa using hy
    obtain ⟨z, hz, e⟩ := h.tot.row hx
    rw [← e]
    exact h.part z hz S[i] (by rw [List.drop_eq_getElem_cons hi]; exact List.mem_cons_self ..)
  · intro x hx
    rcases List.mem_append.1 hx with e | e
    · exact h.tot.noz x e
    · obtain rfl : x = _ := by simpa using e
      exact h0
  · rw [wt_append, h.tot.same]
    simp only [wt]
    by_cases e : r = S[i].1
    · rw [e, if_pos rfl, h.first hi]; omega
    · rw [if_neg fun k => e k.symm, hr.other (Nat.le_of_lt hij) e]; omega
theorem Sorted.perm_bad {l S : List Zit} (h : S.Perm l) : BadT S ↔ BadT l := by
  unfold BadT
  simp only [wt_perm h]
theorem IsTot.perm {l S T : List Zit} (h : S.Perm l) (k : IsTot S T) : IsTot l T := ⟨k.rise, k.noz, fun r => by rw [k.same, wt_perm h]⟩

end Go.Proofs.Ytgmdjioobidadaa

namespace Go.Proofs
open Go.Shelf
def Try.sortItm_ren : Go.Shelf.Ren := ⟨fun | 6 => 40 | 15 => 55 | 14 => 54 | 28 => 73 | 29 => 74 | 20 => 65 | 21 => 66 | 22 => 67 | 23 => 68 | 24 => 69 | 25 => 70 | 26 => 71 | 27 => 72 | 46 => 82 | 47 => 83 | 48 => 84 | 49 => 85 | 50 => 86 | 57 => 88 | n => n, fun | 22 => 23 | 24 => 45 | 25 => 72 | 3 => 3 | 39 => 89 | 0 => 0 | 53 => 105 | 55 => 107 | 4 => 4 | 46 => 99 | 45 => 98 | 50 => 79 | 5 => 5 | 9 => 9 | 66 => 114 | 70 => 111 | 76 => 119 | 77 => 120 | n => n, fun | n => n⟩
theorem Try.sortItm : Go.Proofs.SlLaysF0.n6 Try.prog Try.sortItm_ren := {
  mixed := by kernel_rfl
  f6 := ⟨Try.f40.name, by decide, Try.func40.trans (congrArg some (by kernel_rfl))⟩
  f14 := ⟨Try.f54.name, by decide, Try.func54.trans (congrArg some (by kernel_rfl))⟩
  f15 := Try.func55.trans (congrArg some (by kernel_rfl))
  f20 := ⟨Try.f65.name, by decide, Try.func65.trans (congrArg some (by kernel_rfl))⟩
  f21 := ⟨Try.f66.name, by decide, Try.func66.trans (congrArg some (by kernel_rfl))⟩
  f22 := ⟨Try.f67.name, by decide, Try.func67.trans (congrArg some (by kernel_rfl))⟩
  f23 := ⟨Try.f68.name, by decide, Try.func68.trans (congrArg some (by kernel_rfl))⟩
  f24 := ⟨Try.f69.name, by decide, Try.func69.trans (congrArg some (by kernel_rfl))⟩
  f25 := ⟨Try.f70.name, by decide, Try.func70.trans (congrArg some (by kernel_rfl))⟩
  f26 := ⟨Try.f71.name, by decide, Try.func71.trans (congrArg some (by kernel_rfl))⟩
  f27 := ⟨Try.f72.name, by decide, Try.func72.trans (congrArg some (by kernel_rfl))⟩
  f28 := Try.func73.trans (congrArg some (by kernel_rfl))
  f29 := Try.func74.trans (congrArg some (by kernel_rfl))
  f46 := ⟨Try.f82.name, by decide, Try.func82.trans (congrArg some (by kernel_rfl))⟩
  f47 := Try.func83.trans (congrArg some (by kernel_rfl))
  f48 := Try.func84.trans (congrArg some (by kernel_rfl))
  f49 := ⟨Try.f85.name, by decide, Try.func85.trans (congrArg some (by kernel_rfl))⟩
  f50 := ⟨Try.f86.name, by decide, Try.func86.trans (congrArg some (by kernel_rfl))⟩
  f57 := ⟨Try.f88.name, by decide, Try.func88.trans (congrArg some (by kernel_rfl))⟩
  t0 := Try.underlying0
  a0 := Try.isAgg0
  z0 := Try.sizeOf0
  v0 := Try.zeroValue0
  t3 := Try.underlying3
  a3 := Try.isAgg3
  z3 := Try.sizeOf3
  v3 := Try.zeroValue3
  t4 := Try.underlying4
  a4 := Try.isAgg4
  z4 := Try.sizeOf4
  v4 := Try.zeroValue4
  t5 := Try.underlying5
  a5 := Try.isAgg5
  z5 := Try.sizeOf5
  v5 := Try.zeroValue5
  t9 := Try.underlying9
  a9 := Try.isAgg9
  z9 := Try.sizeOf9
  v9 := Try.zeroValue9
  t22 := Try.underlying23
  a22 := Try.isAgg23
  z22 := Try.sizeOf23
  v22 := Try.zeroValue23
  t25 := Try.underlying72
  a25 := Try.isAgg72
  z25 := Try.sizeOf72
  v25 := Try.zeroValue72
  t39 := Try.underlying89
  a39 := Try.isAgg89
  z39 := Try.sizeOf89
  v39 := Try.zeroValue89
  t45 := Try.underlying98
  a45 := Try.isAgg98
  z45 := Try.sizeOf98
  v45 := Try.zeroValue98
  t46 := Try.underlying99
  a46 := Try.isAgg99
  z46 := Try.sizeOf99
  v46 := Try.zeroValue99
  t50 := Try.underlying79
  a50 := Try.isAgg79
  z50 := Try.sizeOf79
  v50 := Try.zeroValue79
  t53 := Try.underlying105
  a53 := Try.isAgg105
  z53 := Try.sizeOf105
  v53 := Try.zeroValue105
  t55 := Try.underlying107
  a55 := Try.isAgg107
  z55 := Try.sizeOf107
  v55 := Try.zeroValue107
  t66 := Try.underlying114
  a66 := Try.isAgg114
  z66 := Try.sizeOf114
  v66 := Try.zeroValue114
  t70 := Try.underlying111
  a70 := Try.isAgg111
  z70 := Try.sizeOf111
  v70 := Try.zeroValue111
  t76 := Try.underlying119
  a76 := Try.isAgg119
  z76 := Try.sizeOf119
  v76 := Try.zeroValue119
  t77 := Try.underlying120
  a77 := Try.isAgg120
  z77 := Try.sizeOf120
  v77 := Try.zeroValue120 }
end Go.Proofs
