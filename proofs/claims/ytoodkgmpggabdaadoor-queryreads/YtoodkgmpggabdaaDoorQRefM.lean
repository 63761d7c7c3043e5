/-
  What a step's width is, in the document's tests, kind by kind.
-/
import Derived.Test.YtoodkgmpggabdaaDoorQCheck
namespace Go.Proofs.YtoodkgmpggabdaaDoor

theorem below_in (n k : Int) : belowB n k = inB n 0 (k - 1) := by
  unfold belowB inB
  rw [Bool.eq_iff_iff]
  simp only [Bool.and_eq_true, decide_eq_true_eq]
  omega
theorem op_in (n : Int) : opB n = inB n 1 3 := by
  unfold opB inB
  rw [Bool.eq_iff_iff]
  simp only [Bool.and_eq_true, decide_eq_true_eq]
  omega
theorem alone1 {s : Stp} (h : s.k = 1) : aloneB s = (decide (s.b = 0) && decide (s.c = 0) && decide (s.o = 0) && decide (s.v = 0) && s.l.isEmpty) := by
  have t : tellsB 1 65 = true ∧ tellsB 1 66 = false ∧ tellsB 1 67 = false ∧ tellsB 1 79 = false ∧ tellsB 1 86 = false ∧ tellsB 1 76 = false := by decide
  obtain ⟨t1, t2, t3, t4, t5, t6⟩ := t
  simp [aloneB, condB, h, List.range_succ, prtL, Stp.at, t1, t2, t3, t4, t5, t6, Bool.and_assoc]
theorem alone2 {s : Stp} (h : s.k = 2) : aloneB s = (decide (s.b = 0) && s.l.isEmpty) := by
  have t : tellsB 2 65 = true ∧ tellsB 2 66 = false ∧ tellsB 2 67 = true ∧ tellsB 2 79 = true ∧ tellsB 2 86 = true ∧ tellsB 2 76 = false := by decide
  obtain ⟨t1, t2, t3, t4, t5, t6⟩ := t
  simp [aloneB, condB, h, List.range_succ, prtL, Stp.at, t1, t2, t3, t4, t5, t6]
theorem alone3 {s : Stp} (h : s.k = 3) : aloneB s = (decide (s.b = 0) && decide (s.c = 0) && decide (s.o = 0) && decide (s.v = 0)) := by
  have t : tellsB 3 65 = true ∧ tellsB 3 66 = false ∧ tellsB 3 67 = false ∧ tellsB 3 79 = false ∧ tellsB 3 86 = false ∧ tellsB 3 76 = true := by decide
  obtain ⟨t1, t2, t3, t4, t5, t6⟩ := t
  simp [aloneB, condB, h, List.range_succ, prtL, Stp.at, t1, t2, t3, t4, t5, t6, Bool.and_assoc]
theorem alone4 {s : Stp} (h : s.k = 4) : aloneB s = (decide (s.o = 0) && s.l.isEmpty) := by
  have t : tellsB 4 65 = true ∧ tellsB 4 66 = true ∧ tellsB 4 67 = true ∧ tellsB 4 79 = false ∧ tellsB 4 86 = true ∧ tellsB 4 76 = false := by decide
  obtain ⟨t1, t2, t3, t4, t5, t6⟩ := t
  simp [aloneB, condB, h, List.range_succ, prtL, Stp.at, t1, t2, t3, t4, t5, t6]
theorem alone5 {s : Stp} (h : s.k = 5) : aloneB s = (decide (s.c = 0) && decide (s.o = 0) && decide (s.v = 0) && s.l.isEmpty) := by
  have t : tellsB 5 65 = true ∧ tellsB 5 66 = true ∧ tellsB 5 67 = false ∧ tellsB 5 79 = false ∧ tellsB 5 86 = false ∧ tellsB 5 76 = false := by decide
  obtain ⟨t1, t2, t3, t4, t5, t6⟩ := t
  simp [aloneB, condB, h, List.range_succ, prtL, Stp.at, t1, t2, t3, t4, t5, t6, Bool.and_assoc]
theorem alone6 {s : Stp} (h : s.k = 6) : aloneB s = (decide (s.c = 0) && decide (s.o = 0) && decide (s.v = 0) && s.l.isEmpty) := by
  have t : tellsB 6 65 = true ∧ tellsB 6 66 = true ∧ tellsB 6 67 = false ∧ tellsB 6 79 = false ∧ tellsB 6 86 = false ∧ tellsB 6 76 = false := by decide
  obtain ⟨t1, t2, t3, t4, t5, t6⟩ := t
  simp [aloneB, condB, h, List.range_succ, prtL, Stp.at, t1, t2, t3, t4, t5, t6, Bool.and_assoc]
theorem alone7 {s : Stp} (h : s.k = 7) : aloneB s = (decide (s.b = 0) && decide (s.c = 0) && decide (s.o = 0) && decide (s.v = 0) && s.l.isEmpty) := by
  have t : tellsB 7 65 = true ∧ tellsB 7 66 = false ∧ tellsB 7 67 = false ∧ tellsB 7 79 = false ∧ tellsB 7 86 = false ∧ tellsB 7 76 = false := by decide
  obtain ⟨t1, t2, t3, t4, t5, t6⟩ := t
  simp [aloneB, condB, h, List.range_succ, prtL, Stp.at, t1, t2, t3, t4, t5, t6, Bool.and_assoc]
theorem alone8 {s : Stp} (h : s.k = 8) : aloneB s = (decide (s.b = 0) && decide (s.o = 0) && decide (s.v = 0) && s.l.isEmpty) := by
  have t : tellsB 8 65 = true ∧ tellsB 8 66 = false ∧ tellsB 8 67 = true ∧ tellsB 8 79 = false ∧ tellsB 8 86 = false ∧ tellsB 8 76 = false := by decide
  obtain ⟨t1, t2, t3, t4, t5, t6⟩ := t
  simp [aloneB, condB, h, List.range_succ, prtL, Stp.at, t1, t2, t3, t4, t5, t6, Bool.and_assoc]
theorem alone9 {s : Stp} (h : s.k = 9) : aloneB s = (decide (s.b = 0) && decide (s.o = 0) && s.l.isEmpty) := by
  have t : tellsB 9 65 = true ∧ tellsB 9 66 = false ∧ tellsB 9 67 = true ∧ tellsB 9 79 = false ∧ tellsB 9 86 = true ∧ tellsB 9 76 = false := by decide
  obtain ⟨t1, t2, t3, t4, t5, t6⟩ := t
  simp [aloneB, condB, h, List.range_succ, prtL, Stp.at, t1, t2, t3, t4, t5, t6, Bool.and_assoc]
theorem ite2 (x y : Bool) (r : Int) : (if x = true then (if y = true then r else 0) else 0) = if (x && y) = true then r else 0 := by cases x <;> cases y <;> simp
theorem ite3 (x y z : Bool) (r : Int) : (if x = true then (if y = true then (if z = true then r else 0) else 0) else 0) = if (x && y && z) = true then r else 0 := by cases x <;> cases y <;> cases z <;> simp
theorem ite4 (x y z u : Bool) (r : Int) : (if x = true then (if y = true then (if z = true then (if u = true then r else 0) else 0) else 0) else 0) = if (x && y && z && u) = true then r else 0 := by cases x <;> cases y <;> cases z <;> cases u <;> simp
theorem alone0 {s : Stp} (h : ¬ (1 ≤ s.k ∧ s.k ≤ 9)) {ah : List Int} : widW s ah = 0 := by
  have h1 : ¬ s.k = 1 := by omega
  unfold widW
  rw [if_neg h1, if_neg (by omega : ¬ (s.k = 4 ∨ s.k = 5 ∨ s.k = 6))]
  unfold oneW
  rw [if_neg (by omega : ¬ s.k = 2), if_neg (by omega : ¬ s.k = 3), if_neg (by omega : ¬ s.k = 7), if_neg (by omega : ¬ s.k = 8), if_neg (by omega : ¬ s.k = 9)]
  simp
theorem wid1 {s : Stp} (h : s.k = 1) (ah : List Int) : widW s ah = if (inB s.a 0 1 && decide (s.b = 0) && decide (s.c = 0) && decide (s.o = 0) && decide (s.v = 0) && s.l.isEmpty) = true then 4 else 0 := by
  unfold widW
  rw [alone1 h, if_pos h]
  rw [below_in, show (2 : Int) - 1 = 1 from rfl, ite2, show ((decide (s.b = 0) && decide (s.c = 0) && decide (s.o = 0) && decide (s.v = 0) && s.l.isEmpty) && inB s.a 0 1) = (inB s.a 0 1 && decide (s.b = 0) && decide (s.c = 0) && decide (s.o = 0) && decide (s.v = 0) && s.l.isEmpty) from by ac_rfl]
theorem wid2 {s : Stp} (h : s.k = 2) (ah : List Int) : widW s ah = if (inB s.a 0 ((ah.length : Int) - 1) && decide (s.b = 0) && s.l.isEmpty && inB s.o 1 3 && inB s.v (-1073741824) 1073741824 && inB s.c 0 ((ah.getD s.a.toNat 0) - 1)) = true then (ah.getD s.a.toNat 0) else 0 := by
  unfold widW
  rw [alone2 h, if_neg (by omega : ¬ s.k = 1), if_neg (by omega : ¬ (s.k = 4 ∨ s.k = 5 ∨ s.k = 6))]
  unfold oneW
  rw [if_pos h]
  rw [below_in, below_in, op_in, show numB s.v = inB s.v (-1073741824) 1073741824 from rfl, ite3, show ((decide (s.b = 0) && s.l.isEmpty) && inB s.a 0 ((ah.length : Int) - 1) && (inB s.c 0 ((ah.getD s.a.toNat 0) - 1) && inB s.o 1 3 && inB s.v (-1073741824) 1073741824)) = (inB s.a 0 ((ah.length : Int) - 1) && decide (s.b = 0) && s.l.isEmpty && inB s.o 1 3 && inB s.v (-1073741824) 1073741824 && inB s.c 0 ((ah.getD s.a.toNat 0) - 1)) from by ac_rfl]
theorem wid3 {s : Stp} (h : s.k = 3) (ah : List Int) : widW s ah = if (inB s.a 0 ((ah.length : Int) - 1) && decide (s.b = 0) && inB (s.l.length : Int) 1 8 && s.l.all (fun n => inB n 0 ((ah.getD s.a.toNat 0) - 1)) && decide (s.c = 0) && decide (s.o = 0) && decide (s.v = 0)) = true then (s.l.length : Int) else 0 := by
  unfold widW
  rw [alone3 h, if_neg (by omega : ¬ s.k = 1), if_neg (by omega : ¬ (s.k = 4 ∨ s.k = 5 ∨ s.k = 6))]
  unfold oneW
  rw [if_neg (by omega : ¬ s.k = 2), if_pos h]
  rw [below_in, show (fun n => belowB n (ah.getD s.a.toNat 0)) = (fun n => inB n 0 (ah.getD s.a.toNat 0 - 1)) from funext fun n => below_in n _]
  rw [show (if (decide (s.l.length ≤ 8) && s.l.all (fun n => inB n 0 (ah.getD s.a.toNat 0 - 1))) = true then (s.l.length : Int) else 0) = (if (inB (s.l.length : Int) 1 8 && s.l.all (fun n => inB n 0 (ah.getD s.a.toNat 0 - 1))) = true then (s.l.length : Int) else 0) from ?_]
  · rw [ite3, show ((decide (s.b = 0) && decide (s.c = 0) && decide (s.o = 0) && decide (s.v = 0)) && inB s.a 0 ((ah.length : Int) - 1) && (inB (s.l.length : Int) 1 8 && s.l.all (fun n => inB n 0 ((ah.getD s.a.toNat 0) - 1)))) = (inB s.a 0 ((ah.length : Int) - 1) && decide (s.b = 0) && inB (s.l.length : Int) 1 8 && s.l.all (fun n => inB n 0 ((ah.getD s.a.toNat 0) - 1)) && decide (s.c = 0) && decide (s.o = 0) && decide (s.v = 0)) from by ac_rfl]
  · by_cases hl : s.l.length = 0
    · rw [hl]; simp
    · rw [show decide (s.l.length ≤ 8) = inB (s.l.length : Int) 1 8 from ?_]
      unfold inB
      rw [Bool.eq_iff_iff]
      simp only [Bool.and_eq_true, decide_eq_true_eq]
      omega
theorem wid4 {s : Stp} (h : s.k = 4) (ah : List Int) : widW s ah = if (inB s.a 0 ((ah.length : Int) - 1) && inB s.b 0 ((ah.length : Int) - 1) && s.l.isEmpty && decide ((ah.getD s.a.toNat 0) + (ah.getD s.b.toNat 0) ≤ 8) && inB s.v 0 ((ah.getD s.b.toNat 0) - 1) && inB s.c 0 ((ah.getD s.a.toNat 0) - 1) && decide (s.o = 0)) = true then (ah.getD s.a.toNat 0) + (ah.getD s.b.toNat 0) else 0 := by
  unfold widW
  rw [alone4 h, if_neg (by omega : ¬ s.k = 1), if_pos (by omega : s.k = 4 ∨ s.k = 5 ∨ s.k = 6)]
  unfold twoW
  rw [if_pos h]
  rw [below_in, below_in, below_in, below_in, ite4, show ((decide (s.o = 0) && s.l.isEmpty) && inB s.a 0 ((ah.length : Int) - 1) && inB s.b 0 ((ah.length : Int) - 1) && (inB s.c 0 ((ah.getD s.a.toNat 0) - 1) && inB s.v 0 ((ah.getD s.b.toNat 0) - 1) && decide ((ah.getD s.a.toNat 0) + (ah.getD s.b.toNat 0) ≤ 8))) = (inB s.a 0 ((ah.length : Int) - 1) && inB s.b 0 ((ah.length : Int) - 1) && s.l.isEmpty && decide ((ah.getD s.a.toNat 0) + (ah.getD s.b.toNat 0) ≤ 8) && inB s.v 0 ((ah.getD s.b.toNat 0) - 1) && inB s.c 0 ((ah.getD s.a.toNat 0) - 1) && decide (s.o = 0)) from by ac_rfl]
theorem wid5 {s : Stp} (h : s.k = 5) (ah : List Int) : widW s ah = if (inB s.a 0 ((ah.length : Int) - 1) && inB s.b 0 ((ah.length : Int) - 1) && s.l.isEmpty && decide ((ah.getD s.a.toNat 0) = (ah.getD s.b.toNat 0)) && decide (s.c = 0) && decide (s.o = 0) && decide (s.v = 0)) = true then (ah.getD s.a.toNat 0) else 0 := by
  unfold widW
  rw [alone5 h, if_neg (by omega : ¬ s.k = 1), if_pos (by omega : s.k = 4 ∨ s.k = 5 ∨ s.k = 6)]
  unfold twoW
  rw [if_neg (by omega : ¬ s.k = 4), if_pos h]
  rw [show (if (ah.getD s.a.toNat 0) = (ah.getD s.b.toNat 0) then (ah.getD s.a.toNat 0) else 0) = (if decide ((ah.getD s.a.toNat 0) = (ah.getD s.b.toNat 0)) = true then (ah.getD s.a.toNat 0) else 0) from by simp only [decide_eq_true_eq], below_in, below_in, ite4, show ((decide (s.c = 0) && decide (s.o = 0) && decide (s.v = 0) && s.l.isEmpty) && inB s.a 0 ((ah.length : Int) - 1) && inB s.b 0 ((ah.length : Int) - 1) && decide ((ah.getD s.a.toNat 0) = (ah.getD s.b.toNat 0))) = (inB s.a 0 ((ah.length : Int) - 1) && inB s.b 0 ((ah.length : Int) - 1) && s.l.isEmpty && decide ((ah.getD s.a.toNat 0) = (ah.getD s.b.toNat 0)) && decide (s.c = 0) && decide (s.o = 0) && decide (s.v = 0)) from by ac_rfl]
theorem wid6 {s : Stp} (h : s.k = 6) (ah : List Int) : widW s ah = if (inB s.a 0 ((ah.length : Int) - 1) && inB s.b 0 ((ah.length : Int) - 1) && s.l.isEmpty && decide ((ah.getD s.a.toNat 0) = (ah.getD s.b.toNat 0)) && decide (s.c = 0) && decide (s.o = 0) && decide (s.v = 0)) = true then (ah.getD s.a.toNat 0) else 0 := by
  unfold widW
  rw [alone6 h, if_neg (by omega : ¬ s.k = 1), if_pos (by omega : s.k = 4 ∨ s.k = 5 ∨ s.k = 6)]
  unfold twoW
  rw [if_neg (by omega : ¬ s.k = 4), if_neg (by omega : ¬ s.k = 5), if_pos h]
  rw [show (if (ah.getD s.a.toNat 0) = (ah.getD s.b.toNat 0) then (ah.getD s.a.toNat 0) else 0) = (if decide ((ah.getD s.a.toNat 0) = (ah.getD s.b.toNat 0)) = true then (ah.getD s.a.toNat 0) else 0) from by simp only [decide_eq_true_eq], below_in, below_in, ite4, show ((decide (s.c = 0) && decide (s.o = 0) && decide (s.v = 0) && s.l.isEmpty) && inB s.a 0 ((ah.length : Int) - 1) && inB s.b 0 ((ah.length : Int) - 1) && decide ((ah.getD s.a.toNat 0) = (ah.getD s.b.toNat 0))) = (inB s.a 0 ((ah.length : Int) - 1) && inB s.b 0 ((ah.length : Int) - 1) && s.l.isEmpty && decide ((ah.getD s.a.toNat 0) = (ah.getD s.b.toNat 0)) && decide (s.c = 0) && decide (s.o = 0) && decide (s.v = 0)) from by ac_rfl]
theorem wid7 {s : Stp} (h : s.k = 7) (ah : List Int) : widW s ah = if (inB s.a 0 ((ah.length : Int) - 1) && decide (s.b = 0) && s.l.isEmpty && decide (s.c = 0) && decide (s.o = 0) && decide (s.v = 0)) = true then (ah.getD s.a.toNat 0) else 0 := by
  unfold widW
  rw [alone7 h, if_neg (by omega : ¬ s.k = 1), if_neg (by omega : ¬ (s.k = 4 ∨ s.k = 5 ∨ s.k = 6))]
  unfold oneW
  rw [if_neg (by omega : ¬ s.k = 2), if_neg (by omega : ¬ s.k = 3), if_pos h]
  rw [below_in, ite2, show ((decide (s.b = 0) && decide (s.c = 0) && decide (s.o = 0) && decide (s.v = 0) && s.l.isEmpty) && inB s.a 0 ((ah.length : Int) - 1)) = (inB s.a 0 ((ah.length : Int) - 1) && decide (s.b = 0) && s.l.isEmpty && decide (s.c = 0) && decide (s.o = 0) && decide (s.v = 0)) from by ac_rfl]
theorem wid8 {s : Stp} (h : s.k = 8) (ah : List Int) : widW s ah = if (inB s.a 0 ((ah.length : Int) - 1) && decide (s.b = 0) && s.l.isEmpty && inB s.c 0 ((ah.getD s.a.toNat 0) - 1) && decide (s.o = 0) && decide (s.v = 0)) = true then 2 else 0 := by
  unfold widW
  rw [alone8 h, if_neg (by omega : ¬ s.k = 1), if_neg (by omega : ¬ (s.k = 4 ∨ s.k = 5 ∨ s.k = 6))]
  unfold oneW
  rw [if_neg (by omega : ¬ s.k = 2), if_neg (by omega : ¬ s.k = 3), if_neg (by omega : ¬ s.k = 7), if_pos h]
  rw [below_in, below_in, ite3, show ((decide (s.b = 0) && decide (s.o = 0) && decide (s.v = 0) && s.l.isEmpty) && inB s.a 0 ((ah.length : Int) - 1) && inB s.c 0 ((ah.getD s.a.toNat 0) - 1)) = (inB s.a 0 ((ah.length : Int) - 1) && decide (s.b = 0) && s.l.isEmpty && inB s.c 0 ((ah.getD s.a.toNat 0) - 1) && decide (s.o = 0) && decide (s.v = 0)) from by ac_rfl]
theorem wid9 {s : Stp} (h : s.k = 9) (ah : List Int) : widW s ah = if (inB s.a 0 ((ah.length : Int) - 1) && decide (s.b = 0) && s.l.isEmpty && inB s.v 0 ((ah.getD s.a.toNat 0) - 1) && inB s.c 0 ((ah.getD s.a.toNat 0) - 1) && decide (s.o = 0)) = true then 2 else 0 := by
  unfold widW
  rw [alone9 h, if_neg (by omega : ¬ s.k = 1), if_neg (by omega : ¬ (s.k = 4 ∨ s.k = 5 ∨ s.k = 6))]
  unfold oneW
  rw [if_neg (by omega : ¬ s.k = 2), if_neg (by omega : ¬ s.k = 3), if_neg (by omega : ¬ s.k = 7), if_neg (by omega : ¬ s.k = 8), if_pos h]
  rw [below_in, below_in, below_in, ite3, show ((decide (s.b = 0) && decide (s.o = 0) && s.l.isEmpty) && inB s.a 0 ((ah.length : Int) - 1) && (inB s.c 0 ((ah.getD s.a.toNat 0) - 1) && inB s.v 0 ((ah.getD s.a.toNat 0) - 1))) = (inB s.a 0 ((ah.length : Int) - 1) && decide (s.b = 0) && s.l.isEmpty && inB s.v 0 ((ah.getD s.a.toNat 0) - 1) && inB s.c 0 ((ah.getD s.a.toNat 0) - 1) && decide (s.o = 0)) from by ac_rfl]

end Go.Proofs.YtoodkgmpggabdaaDoor
