/-
  The numbers of a step that may stand in a query are small.
  The library's strconv.Itoa: where its functions and types stand in this program.
  strconv.Itoa: the text of a number.
-/
import Derived.Test.YtnkpfhipgcmplaaGreatDoorQRefM
import Derived.Shelf.Strconv.Itoa3
import Derived.Test.YtnkpfhipgcmplaaGreatDoorProg
import Derived.Shelf.Unicode.PredsPay
import Derived.Lib.ItoaLen
namespace Go.Proofs.YtnkpfhipgcmplaaGreatDoor

/-- A small number. -/
def Small (n : Int) : Prop := -1073741824 ≤ n ∧ n ≤ 1073741824
/-- All numbers of a step are small, and its list is short. -/
structure Fine (s : Stp) : Prop where
  a : Small s.a
  b : Small s.b
  c : Small s.c
  o : Small s.o
  v : Small s.v
  l : s.l.length ≤ 8 ∧ ∀ x ∈ s.l, Small x
theorem small_in {n lo hi : Int} (h : inB n lo hi = true) (h1 : -1073741824 ≤ lo) (h2 : hi ≤ 1073741824) : Small n := by
  simp only [inB, Bool.and_eq_true, decide_eq_true_eq] at h
  exact ⟨by omega, by omega⟩
theorem small_zero {n : Int} (h : decide (n = 0) = true) : Small n := by
  have : n = 0 := by simpa using h
  exact ⟨by omega, by omega⟩
theorem fine_nil {l : List Int} (h : l.isEmpty = true) : l.length ≤ 8 ∧ ∀ x ∈ l, Small x := by
  have : l = [] := by simpa using h
  subst this
  exact ⟨by simp, fun x hx => by cases hx⟩
theorem widW_fine {s : Stp} {ah : List Int} (h : widW s ah ≠ 0) (hl : ah.length ≤ 8) (hah : ∀ x ∈ ah, 0 ≤ x ∧ x ≤ 8) : Fine s := by
  have ga := getD_b hah s.a.toNat
  have gb := getD_b hah s.b.toNat
  by_cases h9 : 1 ≤ s.k ∧ s.k ≤ 9
  · have hk : s.k = 1 ∨ s.k = 2 ∨ s.k = 3 ∨ s.k = 4 ∨ s.k = 5 ∨ s.k = 6 ∨ s.k = 7 ∨ s.k = 8 ∨ s.k = 9 := by omega
    rcases hk with hk | hk | hk | hk | hk | hk | hk | hk | hk
    · rw [wid1 hk] at h
      have t := Classical.not_not.1 (fun e => h (if_neg e))
      simp only [Bool.and_eq_true] at t
      obtain ⟨⟨⟨⟨⟨t1, t2⟩, t3⟩, t4⟩, t5⟩, t6⟩ := t
      exact ⟨small_in t1 (by omega) (by omega), small_zero t2, small_zero t3, small_zero t4, small_zero t5, fine_nil t6⟩
    · rw [wid2 hk] at h
      have t := Classical.not_not.1 (fun e => h (if_neg e))
      simp only [Bool.and_eq_true] at t
      obtain ⟨⟨⟨⟨⟨t1, t2⟩, t3⟩, t4⟩, t5⟩, t6⟩ := t
      exact ⟨small_in t1 (by omega) (by omega), small_zero t2, small_in t6 (by omega) (by omega), small_in t4 (by omega) (by omega), small_in t5 (by omega) (by omega), fine_nil t3⟩
    · rw [wid3 hk] at h
      have t := Classical.not_not.1 (fun e => h (if_neg e))
      simp only [Bool.and_eq_true] at t
      obtain ⟨⟨⟨⟨⟨⟨t1, t2⟩, t3⟩, t4⟩, t5⟩, t6⟩, t7⟩ := t
      exact ⟨small_in t1 (by omega) (by omega), small_zero t2, small_zero t5, small_zero t6, small_zero t7, ⟨by simp only [inB, Bool.and_eq_true, decide_eq_true_eq] at t3; omega, fun x hx => small_in (List.all_eq_true.1 t4 x hx) (by omega) (by omega)⟩⟩
    · rw [wid4 hk] at h
      have t := Classical.not_not.1 (fun e => h (if_neg e))
      simp only [Bool.and_eq_true] at t
      obtain ⟨⟨⟨⟨⟨⟨t1, t2⟩, t3⟩, t4⟩, t5⟩, t6⟩, t7⟩ := t
      exact ⟨small_in t1 (by omega) (by omega), small_in t2 (by omega) (by omega), small_in t6 (by omega) (by omega), small_zero t7, small_in t5 (by omega) (by omega), fine_nil t3⟩
    · rw [wid5 hk] at h
      have t := Classical.not_not.1 (fun e => h (if_neg e))
      simp only [Bool.and_eq_true] at t
      obtain ⟨⟨⟨⟨⟨⟨t1, t2⟩, t3⟩, t4⟩, t5⟩, t6⟩, t7⟩ := t
      exact ⟨small_in t1 (by omega) (by omega), small_in t2 (by omega) (by omega), small_zero t5, small_zero t6, small_zero t7, fine_nil t3⟩
    · rw [wid6 hk] at h
      have t := Classical.not_not.1 (fun e => h (if_neg e))
      simp only [Bool.and_eq_true] at t
      obtain ⟨⟨⟨⟨⟨⟨t1, t2⟩, t3⟩, t4⟩, t5⟩, t6⟩, t7⟩ := t
      exact ⟨small_in t1 (by omega) (by omega), small_in t2 (by omega) (by omega), small_zero t5, small_zero t6, small_zero t7, fine_nil t3⟩
    · rw [wid7 hk] at h
      have t := Classical.not_not.1 (fun e => h (if_neg e))
      simp only [Bool.and_eq_true] at t
      obtain ⟨⟨⟨⟨⟨t1, t2⟩, t3⟩, t4⟩, t5⟩, t6⟩ := t
      exact ⟨small_in t1 (by omega) (by omega), small_zero t2, small_zero t4, small_zero t5, small_zero t6, fine_nil t3⟩
    · rw [wid8 hk] at h
      have t := Classical.not_not.1 (fun e => h (if_neg e))
      simp only [Bool.and_eq_true] at t
      obtain ⟨⟨⟨⟨⟨t1, t2⟩, t3⟩, t4⟩, t5⟩, t6⟩ := t
      exact ⟨small_in t1 (by omega) (by omega), small_zero t2, small_in t4 (by omega) (by omega), small_zero t5, small_zero t6, fine_nil t3⟩
    · rw [wid9 hk] at h
      have t := Classical.not_not.1 (fun e => h (if_neg e))
      simp only [Bool.and_eq_true] at t
      obtain ⟨⟨⟨⟨⟨t1, t2⟩, t3⟩, t4⟩, t5⟩, t6⟩ := t
      exact ⟨small_in t1 (by omega) (by omega), small_zero t2, small_in t5 (by omega) (by omega), small_zero t6, small_in t4 (by omega) (by omega), fine_nil t3⟩
  · exact absurd (alone0 h9) h

end Go.Proofs.YtnkpfhipgcmplaaGreatDoor

namespace Go.Proofs
open Go.Shelf
def Tryz.lays171_ren : Go.Shelf.Ren := ⟨fun | 171 => 99 | 243 => 120 | 246 => 149 | 283 => 158 | 284 => 159 | 285 => 160 | 286 => 161 | 129 => 110 | 317 => 165 | 318 => 166 | 319 => 167 | 320 => 168 | 337 => 169 | 338 => 170 | n => n, fun | 3 => 3 | 9 => 9 | 2 => 2 | 4 => 4 | 171 => 184 | 0 => 0 | 53 => 145 | 37 => 186 | 5 => 5 | 173 => 187 | 212 => 193 | 51 => 143 | 20 => 20 | 213 => 194 | 46 => 117 | 232 => 195 | 233 => 196 | n => n, fun | 17 => 0 | 18 => 2 | 19 => 3 | n => n⟩
theorem Tryz.lays171 : Go.Proofs.LaysM.n171 Tryz.prog Tryz.lays171_ren := {
  mixed := by kernel_rfl
  f129 := Tryz.func110.trans (congrArg some (by kernel_rfl))
  f171 := Tryz.func99.trans (congrArg some (by kernel_rfl))
  f243 := Tryz.func120.trans (congrArg some (by kernel_rfl))
  f246 := Tryz.func149.trans (congrArg some (by kernel_rfl))
  f283 := Tryz.func158.trans (congrArg some (by kernel_rfl))
  f284 := Tryz.func159.trans (congrArg some (by kernel_rfl))
  f285 := Tryz.func160.trans (congrArg some (by kernel_rfl))
  f286 := Tryz.func161.trans (congrArg some (by kernel_rfl))
  f317 := Tryz.func165.trans (congrArg some (by kernel_rfl))
  f318 := Tryz.func166.trans (congrArg some (by kernel_rfl))
  f319 := Tryz.func167.trans (congrArg some (by kernel_rfl))
  f320 := Tryz.func168.trans (congrArg some (by kernel_rfl))
  f337 := Tryz.func169.trans (congrArg some (by kernel_rfl))
  f338 := Tryz.func170.trans (congrArg some (by kernel_rfl))
  t0 := Tryz.underlying0
  a0 := Tryz.isAgg0
  z0 := Tryz.sizeOf0
  v0 := Tryz.zeroValue0
  t2 := Tryz.underlying2
  a2 := Tryz.isAgg2
  z2 := Tryz.sizeOf2
  v2 := Tryz.zeroValue2
  t3 := Tryz.underlying3
  a3 := Tryz.isAgg3
  z3 := Tryz.sizeOf3
  v3 := Tryz.zeroValue3
  t4 := Tryz.underlying4
  a4 := Tryz.isAgg4
  z4 := Tryz.sizeOf4
  v4 := Tryz.zeroValue4
  t5 := Tryz.underlying5
  a5 := Tryz.isAgg5
  z5 := Tryz.sizeOf5
  v5 := Tryz.zeroValue5
  t9 := Tryz.underlying9
  a9 := Tryz.isAgg9
  z9 := Tryz.sizeOf9
  v9 := Tryz.zeroValue9
  t20 := Tryz.underlying20
  a20 := Tryz.isAgg20
  z20 := Tryz.sizeOf20
  v20 := Tryz.zeroValue20
  t37 := Tryz.underlying186
  a37 := Tryz.isAgg186
  z37 := Tryz.sizeOf186
  v37 := Tryz.zeroValue186
  t46 := Tryz.underlying117
  a46 := Tryz.isAgg117
  z46 := Tryz.sizeOf117
  v46 := Tryz.zeroValue117
  t51 := Tryz.underlying143
  a51 := Tryz.isAgg143
  z51 := Tryz.sizeOf143
  v51 := Tryz.zeroValue143
  t53 := Tryz.underlying145
  a53 := Tryz.isAgg145
  z53 := Tryz.sizeOf145
  v53 := Tryz.zeroValue145
  t171 := Tryz.underlying184
  a171 := Tryz.isAgg184
  z171 := Tryz.sizeOf184
  v171 := Tryz.zeroValue184
  t173 := Tryz.underlying187
  a173 := Tryz.isAgg187
  z173 := Tryz.sizeOf187
  v173 := Tryz.zeroValue187
  t212 := Tryz.underlying193
  a212 := Tryz.isAgg193
  z212 := Tryz.sizeOf193
  v212 := Tryz.zeroValue193
  t213 := Tryz.underlying194
  a213 := Tryz.isAgg194
  z213 := Tryz.sizeOf194
  t232 := Tryz.underlying195
  a232 := Tryz.isAgg195
  z232 := Tryz.sizeOf195
  v232 := Tryz.zeroValue195
  t233 := Tryz.underlying196
  a233 := Tryz.isAgg196
  z233 := Tryz.sizeOf196
  v233 := Tryz.zeroValue196
  g17 := by kernel_rfl
  g18 := by kernel_rfl
  g19 := by kernel_rfl
  i0 := by kernel_rfl
  i2 := by kernel_rfl
  i3 := by kernel_rfl
  i4 := by kernel_rfl
  i5 := by kernel_rfl
  i9 := by kernel_rfl
  i20 := by kernel_rfl
  i37 := by kernel_rfl
  i46 := by kernel_rfl
  i51 := by kernel_rfl
  i53 := by kernel_rfl
  i171 := by kernel_rfl
  i173 := by kernel_rfl
  i212 := by kernel_rfl
  i232 := by kernel_rfl
  i233 := by kernel_rfl
  m17 := by kernel_rfl
  m18 := by kernel_rfl
  m19 := by kernel_rfl }
end Go.Proofs

namespace Go.Proofs.YtnkpfhipgcmplaaGreatDoor
open Go.RowKit Go.Sort

/-- The library's powers of ten lie as they are laid. -/
def Tens (w : World) : Prop := Lib.TabIs Tryz.prog w "internal/strconv.uint64pow10" .u64 Lib.pow10Tab
theorem Tens.below {w w' : World} (h : Tens w) (k : Below w.heap.size w w') : Tens w' := by
  have hs : (Tryz.prog.globalNamed "internal/strconv.uint64pow10").isSome = true := by kernel_rfl
  obtain ⟨g, hg⟩ := Option.isSome_iff_exists.1 hs
  exact TabIs_below hg h k
theorem Tens.gr {w w' : World} (h : Tens w) (k : Gr w w') : Tens w' := h.below k.below
theorem itoa_any {n : Int} (h : Small n) {w : World} (ht : Tens w) : Calls Tryz.prog 99 #[.int .i64 n] w fun e w' => e = .returned (.string ⟨(Lib.itoa n).toArray⟩) ∧ Gr w w' := by
  have hc := Any.strconv_Itoa Tryz.lays171 n (by have := h.1; omega) (by have := h.2; omega) w ht
  change Calls Tryz.prog 99 _ _ _ at hc
  exact hc
theorem itoa_len {n : Int} (h : Small n) : (Lib.itoa n).length ≤ 21 := Lib.itoa_length_le n (by have := h.1; omega) (by have := h.2; omega)
end Go.Proofs.YtnkpfhipgcmplaaGreatDoor
