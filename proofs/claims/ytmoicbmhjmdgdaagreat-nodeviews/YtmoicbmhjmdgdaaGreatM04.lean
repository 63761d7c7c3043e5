/-
  slices.Index, Contains and Equal at dots: whether a list has a dot; whether two lists are the same.
  viewref.SameContext: whether two contexts are the same.
  slices.Equal at cells; viewref.SameTable: whether two tables are the same.
-/
import Derived.Test.YtmoicbmhjmdgdaaGreatM01
import Derived.ChangeKeysEq
import Derived.Test.YtmoicbmhjmdgdaaGreatM02
namespace Go.Proofs.YtmoicbmhjmdgdaaGreat
open Go.RowKit Go.Sort

set_option maxHeartbeats 1000000 in
theorem index_any (l : List (Int × Int)) (A : Option Addr) (cap : Nat) (x : Int × Int) (w : World) (hl : l.length ≤ maxLen) (hr : Row w A l) :
  Calls Tryz.prog 87 #[.slice A l.length cap, .agg #[.int .i64 x.1, .int .i64 x.2]] w fun e w' => ∃ r : Int, e = .returned (.int .i64 r) ∧ Hid (decide (0 ≤ r) = memB l x) ∧ Gr w w' := by
 obtain ⟨a, b⟩ := x
 unfold maxLen at hl
 have hE := eqDot
 have hG := guardDot
 go_enter Tryz.func87, Tryz.ntmps87
 go_wp2
 go_loopw [8] (fun i wr => ∃ k : Nat, k ≤ l.length ∧ i = .int .i64 k ∧ Hid (∀ j (h : j < l.length), j < k → l[j] ≠ (a, b)) ∧ Gr (w.alloc (.cells #[.int .i64 a, .int .i64 b] 85)) wr) (fun i _ => l.length - (intOf i).toNat)
 case atStart => exact ⟨0, Nat.zero_le _, rfl, fun j _ hj => absurd hj (Nat.not_lt_zero _), Gr.refl _⟩
 case round =>
  obtain ⟨k, hk, rfl, hno, hgr⟩ := hrel
  have d0 := box1 hgr (j := 0) rfl
  have d1 := box1 hgr (j := 1) rfl
  by_cases hlt : k < l.length
  ·have hltz : (k : Int) < (l.length : Int) := by omega
   obtain ⟨bb, off, rfl, hb, hcs⟩ := (hr.gr (unbox hgr)).at hlt
   have e0 := (hcs k hlt).1
   have e1 := (hcs k hlt).2
   clear hcs
   cases hq : (a == (l[k]).1 && b == (l[k]).2)
   ·have hne : Hid (l[k] ≠ (a, b)) := by
     intro h
     rw [h] at hq
     simp at hq
    go_wp2
    go_quiet (fail)
    go_wp2
    go_roundw
    case rel =>
     refine ⟨k + 1, by omega, by go_num, ?_, hgr.trans ⟨nq, #[], by rw [grow_empty]⟩⟩
     intro j hj hjk
     by_cases e : j = k
     ·subst e; exact hne
     ·exact hno j hj (by omega)
    case measure => simp [intOf]; omega
   ·have hfin : Hid (decide ((0 : Int) ≤ (k : Int)) = memB l (a, b)) := by
     have : (a, b) ∈ l := by
      have h : l[k] = (a, b) := by
       simp only [Bool.and_eq_true, beq_iff_eq] at hq
       exact Prod.ext hq.1.symm hq.2.symm
      rw [← h]; exact List.getElem_mem hlt
     show decide _ = _
     simp [memB, this]
    go_wp2
    go_quiet (fail)
    go_wp2
    go_ret
    exact ⟨_, rfl, hfin, (unbox hgr).trans ⟨nq, #[], by rw [grow_empty]⟩⟩
  ·have hltz : ¬ (k : Int) < (l.length : Int) := by omega
   have hfin : Hid (decide ((0 : Int) ≤ -1) = memB l (a, b)) := by
    have : (a, b) ∉ l := by
     intro h
     obtain ⟨j, hj, e⟩ := List.getElem_of_mem h
     exact hno j hj (by omega) e
    show decide _ = _
    simp [memB, this]
   go_wp2
   go_ret
   exact ⟨_, rfl, hfin, unbox hgr⟩

set_option maxHeartbeats 1000000 in
theorem contains_any (l : List (Int × Int)) (A : Option Addr) (cap : Nat) (x : Int × Int) (w : World) (hl : l.length ≤ maxLen) (hr : Row w A l) :
  Calls Tryz.prog 70 #[.slice A l.length cap, .agg #[.int .i64 x.1, .int .i64 x.2]] w fun e w' => e = .returned (.bool (memB l x)) ∧ Gr w w' := by
 go_enter Tryz.func70, Tryz.ntmps70
 go_wp2_with fail
 refine (index_any l A cap x _ hl (hr.gr ((Gr.refl _).alloc _))).mono ?_
 rintro e w' ⟨r, rfl, hrr, hg⟩
 go_wp2
 go_ret
 exact ⟨by rw [← hrr.out]; rfl, unbox hg⟩

end Go.Proofs.YtmoicbmhjmdgdaaGreat

namespace Go.Proofs.YtmoicbmhjmdgdaaGreat
open Go.RowKit Go.Sort

end Go.Proofs.YtmoicbmhjmdgdaaGreat

namespace Go.Proofs.YtmoicbmhjmdgdaaGreat
open Go.RowKit Go.Sort

/-- Two cells are the same. -/
def celEq (x y : Cel) : Bool := decide (x = y)
theorem celEq_iff {x y : Cel} : celEq x y = true ↔ x = y := by simp [celEq]

theorem eqDotIn (a b c d : Int) (w : World) : (Op.equalIn 9999 85 (.agg #[.int .i64 a, .int .i64 b]) (.agg #[.int .i64 c, .int .i64 d])).run Tryz.prog w = .ok (a == c && b == d) w := by
 have u3 := Tryz.underlying3
 have a3 := Tryz.isAgg3
 have z3 := Tryz.sizeOf3
 have hS : Tryz.prog.underlying 85 = some (.struct (Tryz.prog.fieldsOf 85)) := by kernel_rfl
 have hp : Tryz.prog.stoodInHeld 85 = false := by kernel_rfl
 rw [show (9999 : Nat) = 9998 + 1 from rfl, run_equalIn_agg w 9998 85 _ _ hS hp]
 simp only [Program.fieldsOf, Tryz.underlying85]
 go_simp
 by_cases h1 : a = c <;> by_cases h2 : b = d <;> simp [h1, h2]

set_option maxRecDepth 100000 in
theorem eqCelIn (x y : Cel) (w : World) : (Op.equalIn 10000 87 (.agg #[.int .i64 x.1.1, .int .i64 x.1.2, .int .i64 x.2.1, .int .i64 x.2.2.1, .int .i64 x.2.2.2]) (.agg #[.int .i64 y.1.1, .int .i64 y.1.2, .int .i64 y.2.1, .int .i64 y.2.2.1, .int .i64 y.2.2.2])).run Tryz.prog w = .ok (celEq x y) w := by
 obtain ⟨⟨a0, a1⟩, a2, a3, a4⟩ := x
 obtain ⟨⟨b0, b1⟩, b2, b3, b4⟩ := y
 have u3 := Tryz.underlying3
 have g3 := Tryz.isAgg3
 have z3 := Tryz.sizeOf3
 have c2 : Tryz.prog.cellsOf 85 = 2 := by kernel_rfl
 have c1 : Tryz.prog.cellsOf 3 = 1 := by kernel_rfl
 have gD := Tryz.isAgg85
 have zD := Tryz.sizeOf85
 have hd := eqDotIn
 have hS : Tryz.prog.underlying 87 = some (.struct (Tryz.prog.fieldsOf 87)) := by kernel_rfl
 have hp : Tryz.prog.stoodInHeld 87 = false := by kernel_rfl
 rw [show (10000 : Nat) = 9999 + 1 from rfl, run_equalIn_agg w 9999 87 _ _ hS hp]
 simp only [Program.fieldsOf, Tryz.underlying87]
 clear hS hp
 go_simp
 by_cases h0 : a0 = b0 <;> by_cases h1 : a1 = b1 <;> by_cases h2 : a2 = b2 <;> by_cases h3 : a3 = b3 <;> by_cases h4 : a4 = b4 <;> simp [celEq, h0, h1, h2, h3, h4]

theorem neqCel (x y : Cel) (w : World) : (binOp .neq 87 (.agg #[.int .i64 x.1.1, .int .i64 x.1.2, .int .i64 x.2.1, .int .i64 x.2.2.1, .int .i64 x.2.2.2]) (.agg #[.int .i64 y.1.1, .int .i64 y.1.2, .int .i64 y.2.1, .int .i64 y.2.2.1, .int .i64 y.2.2.2])).run Tryz.prog w = .ok (.bool (!celEq x y)) w := by
 rw [run_neq_struct, eqCelIn]; rfl
theorem guardCel (op : BinOp) (p q : Operand) (x y : Cel) (w : World) : (eqGuard op 87 p q (.agg #[.int .i64 x.1.1, .int .i64 x.1.2, .int .i64 x.2.1, .int .i64 x.2.2.1, .int .i64 x.2.2.2]) (.agg #[.int .i64 y.1.1, .int .i64 y.1.2, .int .i64 y.2.1, .int .i64 y.2.2.1, .int .i64 y.2.2.2])).run Tryz.prog w = .ok () w :=
 run_eqGuard_agg w op 87 p q _ _ (by kernel_rfl)

end Go.Proofs.YtmoicbmhjmdgdaaGreat
