/-
  What a query tells, on plain lists: each step's set; where, pick, union and minus of two sets together are those of both, together.
  query.Check, query.Width; viewref.In.
  What a step's width is, in the document's tests, kind by kind.
-/
import Derived.Test.YtmoicbmhjmdgdaaGreatM18
import Derived.Test.YtmoicbmhjmdgdaaGreatM22
namespace Go.Proofs.YtmoicbmhjmdgdaaGreat

/-- Is n, by op, to a value? -/
def toB (n op v : Int) : Bool := if op = 1 then decide (n < v) else if op = 2 then decide (n = v) else decide (v < n)
def atI (r : List Int) (c : Int) : Int := r.getD c.toNat 0
def whereL (l : List Zit) (c o v : Int) : List Zit := l.filter fun x => toB (atI x.1 c) o v
def pickR (cols : List Int) (r : List Int) : List Int := cols.map fun c => atI r c
def pickL (l : List Zit) (cols : List Int) : List Zit := l.map fun x => (pickR cols x.1, x.2)
def distL (l : List Zit) : List Zit := (l.filter fun x => decide (0 < x.2)).map fun x => (x.1, 1)
theorem add_right {a b : List Zit} (h : addE a b = 0) : errZ a = 0 ∧ errZ b = 0 ∧ errZ (addL a b) = 0 := by
 unfold addE at h
 by_cases h1 : errZ a = 0
 ·rw [if_pos h1] at h
  by_cases h2 : errZ b = 0
  ·rw [if_pos h2] at h
   by_cases h3 : totE (a ++ b) = 0
   ·rw [if_pos h3] at h
    by_cases h4 : 400 < (totL (a ++ b)).length
    ·rw [if_pos h4] at h; cases h
    ·refine ⟨h1, h2, ?_⟩
     have e : addL a b = totL (a ++ b) := by
      unfold addL addE
      rw [if_pos h1, if_pos h2, if_pos h3, if_neg h4, if_pos rfl]
     rw [e]
     have T := totL_is (a ++ b)
     refine (errZ_iff _).2 ⟨by omega, T.okZ (totE_zero h3) (fun x hx => ?_), T.rise⟩
     rcases List.mem_append.1 hx with k | k
     ·exact (okZ_parts (((errZ_iff a).1 h1).2.1 x k)).1
     ·exact (okZ_parts (((errZ_iff b).1 h2).2.1 x k)).1
   ·rw [if_neg h3] at h; exact absurd h h3
  ·rw [if_neg h2] at h; exact absurd h h2
 ·rw [if_neg h1] at h; exact absurd h h1
end Go.Proofs.YtmoicbmhjmdgdaaGreat

namespace Go.Proofs.YtmoicbmhjmdgdaaGreat
open Go.RowKit Go.Sort

set_option maxHeartbeats 1000000 in
theorem checkQ_any (q : List Stp) (A : Option Addr) (ca : Nat) (w : World) (hl : q.length ≤ maxLen) (hq : Stps w A q) :
  Calls Tryz.prog 31 #[.slice A q.length ca] w fun e w' => e = .returned (.int .i64 (errQ q)) ∧ Below w.heap.size w w' := by
 have hwH : Hid _ := widths_any q A ca w hl hq
 clear hl hq
 go_enter Tryz.func31, Tryz.ntmps31
 go_wp2_with fail
 refine Calls.mono (show Calls _ _ _ _ _ from hwH.out) ?_
 rintro e w1 ⟨C, c, rfl, -, -, hb⟩
 clear hwH
 go_wp2
 go_ret
 exact ⟨rfl, hb⟩

end Go.Proofs.YtmoicbmhjmdgdaaGreat

namespace Go.Proofs.YtmoicbmhjmdgdaaGreat

theorem below_in (n k : Int) : belowB n k = inB n 0 (k - 1) := by
 unfold belowB inB
 rw [Bool.eq_iff_iff]
 simp only [Bool.and_eq_true, decide_eq_true_eq]
 omega
theorem op_in (n : Int) : opB n = inB n 1 3 := by
 unfold opB inB
 rw [Bool.eq_iff_iff]
 simp only [Bool.and_eq_true, decide_eq_true_eq]
 omega
theorem alone1 {s : Stp} (h : s.k = 1) : aloneB s = (decide (s.b = 0) && decide (s.c = 0) && decide (s.o = 0) && decide (s.v = 0) && s.l.isEmpty) := by
 have t : tellsB 1 65 = true ∧ tellsB 1 66 = false ∧ tellsB 1 67 = false ∧ tellsB 1 79 = false ∧ tellsB 1 86 = false ∧ tellsB 1 76 = false := by decide
 obtain ⟨t1, t2, t3, t4, t5, t6⟩ := t
 simp [aloneB, condB, h, List.range_succ, prtL, Stp.at, t1, t2, t3, t4, t5, t6, Bool.and_assoc]
theorem alone2 {s : Stp} (h : s.k = 2) : aloneB s = (decide (s.b = 0) && s.l.isEmpty) := by
 have t : tellsB 2 65 = true ∧ tellsB 2 66 = false ∧ tellsB 2 67 = true ∧ tellsB 2 79 = true ∧ tellsB 2 86 = true ∧ tellsB 2 76 = false := by decide
 obtain ⟨t1, t2, t3, t4, t5, t6⟩ := t
 simp [aloneB, condB, h, List.range_succ, prtL, Stp.at, t1, t2, t3, t4, t5, t6]
theorem alone3 {s : Stp} (h : s.k = 3) : aloneB s = (decide (s.b = 0) && decide (s.c = 0) && decide (s.o = 0) && decide (s.v = 0)) := by
 have t : tellsB 3 65 = true ∧ tellsB 3 66 = false ∧ tellsB 3 67 = false ∧ tellsB 3 79 = false ∧ tellsB 3 86 = false ∧ tellsB 3 76 = true := by decide
 obtain ⟨t1, t2, t3, t4, t5, t6⟩ := t
 simp [aloneB, condB, h, List.range_succ, prtL, Stp.at, t1, t2, t3, t4, t5, t6, Bool.and_assoc]
theorem alone4 {s : Stp} (h : s.k = 4) : aloneB s = (decide (s.o = 0) && s.l.isEmpty) := by
 have t : tellsB 4 65 = true ∧ tellsB 4 66 = true ∧ tellsB 4 67 = true ∧ tellsB 4 79 = false ∧ tellsB 4 86 = true ∧ tellsB 4 76 = false := by decide
 obtain ⟨t1, t2, t3, t4, t5, t6⟩ := t
 simp [aloneB, condB, h, List.range_succ, prtL, Stp.at, t1, t2, t3, t4, t5, t6]
theorem alone5 {s : Stp} (h : s.k = 5) : aloneB s = (decide (s.c = 0) && decide (s.o = 0) && decide (s.v = 0) && s.l.isEmpty) := by
 have t : tellsB 5 65 = true ∧ tellsB 5 66 = true ∧ tellsB 5 67 = false ∧ tellsB 5 79 = false ∧ tellsB 5 86 = false ∧ tellsB 5 76 = false := by decide
 obtain ⟨t1, t2, t3, t4, t5, t6⟩ := t
 simp [aloneB, condB, h, List.range_succ, prtL, Stp.at, t1, t2, t3, t4, t5, t6, Bool.and_assoc]
theorem alone6 {s : Stp} (h : s.k = 6) : aloneB s = (decide (s.c = 0) && decide (s.o = 0) && decide (s.v = 0) && s.l.isEmpty) := by
 have t : tellsB 6 65 = true ∧ tellsB 6 66 = true ∧ tellsB 6 67 = false ∧ tellsB 6 79 = false ∧ tellsB 6 86 = false ∧ tellsB 6 76 = false := by decide
 obtain ⟨t1, t2, t3, t4, t5, t6⟩ := t
 simp [aloneB, condB, h, List.range_succ, prtL, Stp.at, t1, t2, t3, t4, t5, t6, Bool.and_assoc]
theorem alone7 {s : Stp} (h : s.k = 7) : aloneB s = (decide (s.b = 0) && decide (s.c = 0) && decide (s.o = 0) && decide (s.v = 0) && s.l.isEmpty) := by
 have t : tellsB 7 65 = true ∧ tellsB 7 66 = false ∧ tellsB 7 67 = false ∧ tellsB 7 79 = false ∧ tellsB 7 86 = false ∧ tellsB 7 76 = false := by decide
 obtain ⟨t1, t2, t3, t4, t5, t6⟩ := t
 simp [aloneB, condB, h, List.range_succ, prtL, Stp.at, t1, t2, t3, t4, t5, t6, Bool.and_assoc]
theorem alone8 {s : Stp} (h : s.k = 8) : aloneB s = (decide (s.b = 0) && decide (s.o = 0) && decide (s.v = 0) && s.l.isEmpty) := by
 have t : tellsB 8 65 = true ∧ tellsB 8 66 = false ∧ tellsB 8 67 = true ∧ tellsB 8 79 = false ∧ tellsB 8 86 = false ∧ tellsB 8 76 = false := by decide
 obtain ⟨t1, t2, t3, t4, t5, t6⟩ := t
 simp [aloneB, condB, h, List.range_succ, prtL, Stp.at, t1, t2, t3, t4, t5, t6, Bool.and_assoc]
theorem alone9 {s : Stp} (h : s.k = 9) : aloneB s = (decide (s.b = 0) && decide (s.o = 0) && s.l.isEmpty) := by
 have t : tellsB 9 65 = true ∧ tellsB 9 66 = false ∧ tellsB 9 67 = true ∧ tellsB 9 79 = false ∧ tellsB 9 86 = true ∧ tellsB 9 76 = false := by decide
 obtain ⟨t1, t2, t3, t4, t5, t6⟩ := t
 simp [aloneB, condB, h, List.range_succ, prtL, Stp.at, t1, t2, t3, t4, t5, t6, Bool.and_assoc]
theorem ite2 (x y : Bool) (r : Int) : (if x = true then (if y = true then r else 0) else 0) = if (x && y) = true then r else 0 := by cases x <;> cases y <;> simp
theorem ite3 (x y z : Bool) (r : Int) : (if x = true then (if y = true then (if z = true then r else 0) else 0) else 0) = if (x && y && z) = true then r else 0 := by cases x <;> cases y <;> cases z <;> simp
theorem ite4 (x y z u : Bool) (r : Int) : (if x = true then (if y = true then (if z = true then (if u = true then r else 0) else 0) else 0) else 0) = if (x && y && z && u) = true then r else 0 := by cases x <;> cases y <;> cases z <;> cases u <;> simp
theorem alone0 {s : Stp} (h : ¬ (1 ≤ s.k ∧ s.k ≤ 9)) {ah : List Int} : widW s ah = 0 := by
 have h1 : ¬ s.k = 1 := by omega
 unfold widW
 rw [if_neg h1, if_neg (by omega : ¬ (s.k = 4 ∨ s.k = 5 ∨ s.k = 6))]
 unfold oneW
 rw [if_neg (by omega : ¬ s.k = 2), if_neg (by omega : ¬ s.k = 3), if_neg (by omega : ¬ s.k = 7), if_neg (by omega : ¬ s.k = 8), if_neg (by omega : ¬ s.k = 9)]
 simp
theorem wid1 {s : Stp} (h : s.k = 1) (ah : List Int) : widW s ah = if (inB s.a 0 1 && decide (s.b = 0) && decide (s.c = 0) && decide (s.o = 0) && decide (s.v = 0) && s.l.isEmpty) = true then 4 else 0 := by
 unfold widW
 rw [alone1 h, if_pos h]
 rw [below_in, show (2 : Int) - 1 = 1 from rfl, ite2, show ((decide (s.b = 0) && decide (s.c = 0) && decide (s.o = 0) && decide (s.v = 0) && s.l.isEmpty) && inB s.a 0 1) = (inB s.a 0 1 && decide (s.b = 0) && decide (s.c = 0) && decide (s.o = 0) && decide (s.v = 0) && s.l.isEmpty) from by ac_rfl]
theorem wid2 {s : Stp} (h : s.k = 2) (ah : List Int) : widW s ah = if (inB s.a 0 ((ah.length : Int) - 1) && decide (s.b = 0) && s.l.isEmpty && inB s.o 1 3 && inB s.v (-1073741824) 1073741824 && inB s.c 0 ((ah.getD s.a.toNat 0) - 1)) = true then (ah.getD s.a.toNat 0) else 0 := by
 unfold widW
 rw [alone2 h, if_neg (by omega : ¬ s.k = 1), if_neg (by omega : ¬ (s.k = 4 ∨ s.k = 5 ∨ s.k = 6))]
 unfold oneW
 rw [if_pos h]
 rw [below_in, below_in, op_in, show numB s.v = inB s.v (-1073741824) 1073741824 from rfl, ite3, show ((decide (s.b = 0) && s.l.isEmpty) && inB s.a 0 ((ah.length : Int) - 1) && (inB s.c 0 ((ah.getD s.a.toNat 0) - 1) && inB s.o 1 3 && inB s.v (-1073741824) 1073741824)) = (inB s.a 0 ((ah.length : Int) - 1) && decide (s.b = 0) && s.l.isEmpty && inB s.o 1 3 && inB s.v (-1073741824) 1073741824 && inB s.c 0 ((ah.getD s.a.toNat 0) - 1)) from by ac_rfl]
theorem wid3 {s : Stp} (h : s.k = 3) (ah : List Int) : widW s ah = if (inB s.a 0 ((ah.length : Int) - 1) && decide (s.b = 0) && inB (s.l.length : Int) 1 8 && s.l.all (fun n => inB n 0 ((ah.getD s.a.toNat 0) - 1)) && decide (s.c = 0) && decide (s.o = 0) && decide (s.v = 0)) = true then (s.l.length : Int) else 0 := by
 unfold widW
 rw [alone3 h, if_neg (by omega : ¬ s.k = 1), if_neg (by omega : ¬ (s.k = 4 ∨ s.k = 5 ∨ s.k = 6))]
 unfold oneW
 rw [if_neg (by omega : ¬ s.k = 2), if_pos h]
 rw [below_in, show (fun n => belowB n (ah.getD s.a.toNat 0)) = (fun n => inB n 0 (ah.getD s.a.toNat 0 - 1)) from funext fun n => below_in n _]
 rw [show (if (decide (s.l.length ≤ 8) && s.l.all (fun n => inB n 0 (ah.getD s.a.toNat 0 - 1))) = true then (s.l.length : Int) else 0) = (if (inB (s.l.length : Int) 1 8 && s.l.all (fun n => inB n 0 (ah.getD s.a.toNat 0 - 1))) = true then (s.l.length : Int) else 0) from ?_]
 ·rw [ite3, show ((decide (s.b = 0) && decide (s.c = 0) && decide (s.o = 0) && decide (s.v = 0)) && inB s.a 0 ((ah.length : Int) - 1) && (inB (s.l.length : Int) 1 8 && s.l.all (fun n => inB n 0 ((ah.getD s.a.toNat 0) - 1)))) = (inB s.a 0 ((ah.length : Int) - 1) && decide (s.b = 0) && inB (s.l.length : Int) 1 8 && s.l.all (fun n => inB n 0 ((ah.getD s.a.toNat 0) - 1)) && decide (s.c = 0) && decide (s.o = 0) && decide (s.v = 0)) from by ac_rfl]
 ·by_cases hl : s.l.length = 0
  ·rw [hl]; simp
  ·rw [show decide (s.l.length ≤ 8) = inB (s.l.length : Int) 1 8 from ?_]
   unfold inB
   rw [Bool.eq_iff_iff]
   simp only [Bool.and_eq_true, decide_eq_true_eq]
   omega
theorem wid4 {s : Stp} (h : s.k = 4) (ah : List Int) : widW s ah = if (inB s.a 0 ((ah.length : Int) - 1) && inB s.b 0 ((ah.length : Int) - 1) && s.l.isEmpty && decide ((ah.getD s.a.toNat 0) + (ah.getD s.b.toNat 0) ≤ 8) && inB s.v 0 ((ah.getD s.b.toNat 0) - 1) && inB s.c 0 ((ah.getD s.a.toNat 0) - 1) && decide (s.o = 0)) = true then (ah.getD s.a.toNat 0) + (ah.getD s.b.toNat 0) else 0 := by
 unfold widW
 rw [alone4 h, if_neg (by omega : ¬ s.k = 1), if_pos (by omega : s.k = 4 ∨ s.k = 5 ∨ s.k = 6)]
 unfold twoW
 rw [if_pos h]
 rw [below_in, below_in, below_in, below_in, ite4, show ((decide (s.o = 0) && s.l.isEmpty) && inB s.a 0 ((ah.length : Int) - 1) && inB s.b 0 ((ah.length : Int) - 1) && (inB s.c 0 ((ah.getD s.a.toNat 0) - 1) && inB s.v 0 ((ah.getD s.b.toNat 0) - 1) && decide ((ah.getD s.a.toNat 0) + (ah.getD s.b.toNat 0) ≤ 8))) = (inB s.a 0 ((ah.length : Int) - 1) && inB s.b 0 ((ah.length : Int) - 1) && s.l.isEmpty && decide ((ah.getD s.a.toNat 0) + (ah.getD s.b.toNat 0) ≤ 8) && inB s.v 0 ((ah.getD s.b.toNat 0) - 1) && inB s.c 0 ((ah.getD s.a.toNat 0) - 1) && decide (s.o = 0)) from by ac_rfl]
theorem wid5 {s : Stp} (h : s.k = 5) (ah : List Int) : widW s ah = if (inB s.a 0 ((ah.length : Int) - 1) && inB s.b 0 ((ah.length : Int) - 1) && s.l.isEmpty && decide ((ah.getD s.a.toNat 0) = (ah.getD s.b.toNat 0)) && decide (s.c = 0) && decide (s.o = 0) && decide (s.v = 0)) = true then (ah.getD s.a.toNat 0) else 0 := by
 unfold widW
 rw [alone5 h, if_neg (by omega : ¬ s.k = 1), if_pos (by omega : s.k = 4 ∨ s.k = 5 ∨ s.k = 6)]
 unfold twoW
 rw [if_neg (by omega : ¬ s.k = 4), if_pos h]
 rw [show (if (ah.getD s.a.toNat 0) = (ah.getD s.b.toNat 0) then (ah.getD s.a.toNat 0) else 0) = (if decide ((ah.getD s.a.toNat 0) = (ah.getD s.b.toNat 0)) = true then (ah.getD s.a.toNat 0) else 0) from by simp only [decide_eq_true_eq], below_in, below_in, ite4, show ((decide (s.c = 0) && decide (s.o = 0) && decide (s.v = 0) && s.l.isEmpty) && inB s.a 0 ((ah.length : Int) - 1) && inB s.b 0 ((ah.length : Int) - 1) && decide ((ah.getD s.a.toNat 0) = (ah.getD s.b.toNat 0))) = (inB s.a 0 ((ah.length : Int) - 1) && inB s.b 0 ((ah.length : Int) - 1) && s.l.isEmpty && decide ((ah.getD s.a.toNat 0) = (ah.getD s.b.toNat 0)) && decide (s.c = 0) && decide (s.o = 0) && decide (s.v = 0)) from by ac_rfl]
theorem wid6 {s : Stp} (h : s.k = 6) (ah : List Int) : widW s ah = if (inB s.a 0 ((ah.length : Int) - 1) && inB s.b 0 ((ah.length : Int) - 1) && s.l.isEmpty && decide ((ah.getD s.a.toNat 0) = (ah.getD s.b.toNat 0)) && decide (s.c = 0) && decide (s.o = 0) && decide (s.v = 0)) = true then (ah.getD s.a.toNat 0) else 0 := by
 unfold widW
 rw [alone6 h, if_neg (by omega : ¬ s.k = 1), if_pos (by omega : s.k = 4 ∨ s.k = 5 ∨ s.k = 6)]
 unfold twoW
 rw [if_neg (by omega : ¬ s.k = 4), if_neg (by omega : ¬ s.k = 5), if_pos h]
 rw [show (if (ah.getD s.a.toNat 0) = (ah.getD s.b.toNat 0) then (ah.getD s.a.toNat 0) else 0) = (if decide ((ah.getD s.a.toNat 0) = (ah.getD s.b.toNat 0)) = true then (ah.getD s.a.toNat 0) else 0) from by simp only [decide_eq_true_eq], below_in, below_in, ite4, show ((decide (s.c = 0) && decide (s.o = 0) && decide (s.v = 0) && s.l.isEmpty) && inB s.a 0 ((ah.length : Int) - 1) && inB s.b 0 ((ah.length : Int) - 1) && decide ((ah.getD s.a.toNat 0) = (ah.getD s.b.toNat 0))) = (inB s.a 0 ((ah.length : Int) - 1) && inB s.b 0 ((ah.length : Int) - 1) && s.l.isEmpty && decide ((ah.getD s.a.toNat 0) = (ah.getD s.b.toNat 0)) && decide (s.c = 0) && decide (s.o = 0) && decide (s.v = 0)) from by ac_rfl]
theorem wid7 {s : Stp} (h : s.k = 7) (ah : List Int) : widW s ah = if (inB s.a 0 ((ah.length : Int) - 1) && decide (s.b = 0) && s.l.isEmpty && decide (s.c = 0) && decide (s.o = 0) && decide (s.v = 0)) = true then (ah.getD s.a.toNat 0) else 0 := by
 unfold widW
 rw [alone7 h, if_neg (by omega : ¬ s.k = 1), if_neg (by omega : ¬ (s.k = 4 ∨ s.k = 5 ∨ s.k = 6))]
 unfold oneW
 rw [if_neg (by omega : ¬ s.k = 2), if_neg (by omega : ¬ s.k = 3), if_pos h]
 rw [below_in, ite2, show ((decide (s.b = 0) && decide (s.c = 0) && decide (s.o = 0) && decide (s.v = 0) && s.l.isEmpty) && inB s.a 0 ((ah.length : Int) - 1)) = (inB s.a 0 ((ah.length : Int) - 1) && decide (s.b = 0) && s.l.isEmpty && decide (s.c = 0) && decide (s.o = 0) && decide (s.v = 0)) from by ac_rfl]
theorem wid8 {s : Stp} (h : s.k = 8) (ah : List Int) : widW s ah = if (inB s.a 0 ((ah.length : Int) - 1) && decide (s.b = 0) && s.l.isEmpty && inB s.c 0 ((ah.getD s.a.toNat 0) - 1) && decide (s.o = 0) && decide (s.v = 0)) = true then 2 else 0 := by
 unfold widW
 rw [alone8 h, if_neg (by omega : ¬ s.k = 1), if_neg (by omega : ¬ (s.k = 4 ∨ s.k = 5 ∨ s.k = 6))]
 unfold oneW
 rw [if_neg (by omega : ¬ s.k = 2), if_neg (by omega : ¬ s.k = 3), if_neg (by omega : ¬ s.k = 7), if_pos h]
 rw [below_in, below_in, ite3, show ((decide (s.b = 0) && decide (s.o = 0) && decide (s.v = 0) && s.l.isEmpty) && inB s.a 0 ((ah.length : Int) - 1) && inB s.c 0 ((ah.getD s.a.toNat 0) - 1)) = (inB s.a 0 ((ah.length : Int) - 1) && decide (s.b = 0) && s.l.isEmpty && inB s.c 0 ((ah.getD s.a.toNat 0) - 1) && decide (s.o = 0) && decide (s.v = 0)) from by ac_rfl]
theorem wid9 {s : Stp} (h : s.k = 9) (ah : List Int) : widW s ah = if (inB s.a 0 ((ah.length : Int) - 1) && decide (s.b = 0) && s.l.isEmpty && inB s.v 0 ((ah.getD s.a.toNat 0) - 1) && inB s.c 0 ((ah.getD s.a.toNat 0) - 1) && decide (s.o = 0)) = true then 2 else 0 := by
 unfold widW
 rw [alone9 h, if_neg (by omega : ¬ s.k = 1), if_neg (by omega : ¬ (s.k = 4 ∨ s.k = 5 ∨ s.k = 6))]
 unfold oneW
 rw [if_neg (by omega : ¬ s.k = 2), if_neg (by omega : ¬ s.k = 3), if_neg (by omega : ¬ s.k = 7), if_neg (by omega : ¬ s.k = 8), if_pos h]
 rw [below_in, below_in, below_in, ite3, show ((decide (s.b = 0) && decide (s.o = 0) && s.l.isEmpty) && inB s.a 0 ((ah.length : Int) - 1) && (inB s.c 0 ((ah.getD s.a.toNat 0) - 1) && inB s.v 0 ((ah.getD s.a.toNat 0) - 1))) = (inB s.a 0 ((ah.length : Int) - 1) && decide (s.b = 0) && s.l.isEmpty && inB s.v 0 ((ah.getD s.a.toNat 0) - 1) && inB s.c 0 ((ah.getD s.a.toNat 0) - 1) && decide (s.o = 0)) from by ac_rfl]

end Go.Proofs.YtmoicbmhjmdgdaaGreat
