/-
  slices.Equal at cells; viewref.SameTable: whether two tables are the same.
-/
import Derived.Test.YtknjeajdiibafaaTBase
import Derived.Test.YtknjeajdiibafaaSame
namespace Go.Proofs.Ytknjeajdiibafaa
open Go.RowKit Go.Sort

/-- Two cells are the same. -/
def celEq (x y : Cel) : Bool := decide (x = y)
theorem celEq_iff {x y : Cel} : celEq x y = true ↔ x = y := by simp [celEq]

theorem eqDotIn (a b c d : Int) (w : World) : (Op.equalIn 9999 35 (.agg #[.int .i64 a, .int .i64 b]) (.agg #[.int .i64 c, .int .i64 d])).run Try.prog w = .ok (a == c && b == d) w := by
  have u3 := Try.underlying3
  have a3 := Try.isAgg3
  have z3 := Try.sizeOf3
  have hS : Try.prog.underlying 35 = some (.struct (Try.prog.fieldsOf 35)) := by kernel_rfl
  have hp : Try.prog.stoodInHeld 35 = false := by kernel_rfl
  rw [show (9999 : Nat) = 9998 + 1 from rfl, run_equalIn_agg w 9998 35 _ _ hS hp]
  simp only [Program.fieldsOf, Try.underlying35]
  go_simp
  by_cases h1 : a = c <;> by_cases h2 : b = d <;> simp [h1, h2]

set_option maxRecDepth 100000 in
theorem eqCelIn (x y : Cel) (w : World) : (Op.equalIn 10000 37 (.agg #[.int .i64 x.1.1, .int .i64 x.1.2, .int .i64 x.2.1, .int .i64 x.2.2.1, .int .i64 x.2.2.2]) (.agg #[.int .i64 y.1.1, .int .i64 y.1.2, .int .i64 y.2.1, .int .i64 y.2.2.1, .int .i64 y.2.2.2])).run Try.prog w = .ok (celEq x y) w := by
  obtain ⟨⟨a0, a1⟩, a2, a3, a4⟩ := x
  obtain ⟨⟨b0, b1⟩, b2, b3, b4⟩ := y
  have u3 := Try.underlying3
  have g3 := Try.isAgg3
  have z3 := Try.sizeOf3
  have c2 : Try.prog.cellsOf 35 = 2 := by kernel_rfl
  have c1 : Try.prog.cellsOf 3 = 1 := by kernel_rfl
  have gD := Try.isAgg35
  have zD := Try.sizeOf35
  have hd := eqDotIn
  have hS : Try.prog.underlying 37 = some (.struct (Try.prog.fieldsOf 37)) := by kernel_rfl
  have hp : Try.prog.stoodInHeld 37 = false := by kernel_rfl
  rw [show (10000 : Nat) = 9999 + 1 from rfl, run_equalIn_agg w 9999 37 _ _ hS hp]
  simp only [Program.fieldsOf, Try.underlying37]
  clear hS hp
  go_simp
  by_cases h0 : a0 = b0 <;> by_cases h1 : a1 = b1 <;> by_cases h2 : a2 = b2 <;> by_cases h3 : a3 = b3 <;> by_cases h4 : a4 = b4 <;> simp [celEq, h0, h1, h2, h3, h4]

theorem eqCel (x y : Cel) (w : World) : (binOp .eql 37 (.agg #[.int .i64 x.1.1, .int .i64 x.1.2, .int .i64 x.2.1, .int .i64 x.2.2.1, .int .i64 x.2.2.2]) (.agg #[.int .i64 y.1.1, .int .i64 y.1.2, .int .i64 y.2.1, .int .i64 y.2.2.1, .int .i64 y.2.2.2])).run Try.prog w = .ok (.bool (celEq x y)) w := by
  rw [run_eql_struct, eqCelIn]; rfl
theorem neqCel (x y : Cel) (w : World) : (binOp .neq 37 (.agg #[.int .i64 x.1.1, .int .i64 x.1.2, .int .i64 x.2.1, .int .i64 x.2.2.1, .int .i64 x.2.2.2]) (.agg #[.int .i64 y.1.1, .int .i64 y.1.2, .int .i64 y.2.1, .int .i64 y.2.2.1, .int .i64 y.2.2.2])).run Try.prog w = .ok (.bool (!celEq x y)) w := by
  rw [run_neq_struct, eqCelIn]; rfl
theorem guardCel (op : BinOp) (p q : Operand) (x y : Cel) (w : World) : (eqGuard op 37 p q (.agg #[.int .i64 x.1.1, .int .i64 x.1.2, .int .i64 x.2.1, .int .i64 x.2.2.1, .int .i64 x.2.2.2]) (.agg #[.int .i64 y.1.1, .int .i64 y.1.2, .int .i64 y.2.1, .int .i64 y.2.2.1, .int .i64 y.2.2.2])).run Try.prog w = .ok () w :=
  run_eqGuard_agg w op 37 p q _ _ (by kernel_rfl)

/-- Two lists of cells are the same. -/
def eqLC (l m : List Cel) : Bool := decide (l = m)

set_option maxHeartbeats 1000000 in
theorem equalC_any (l m : List Cel) (A B : Option Addr) (cap dap : Nat) (w : World) (hl : l.length ≤ maxLen) (hm : m.length ≤ maxLen) (hr : RowC w A l) (hs : RowC w B m) :
    Calls Try.prog 11 #[.slice A l.length cap, .slice B m.length dap] w fun e w' => e = .returned (.bool (eqLC l m)) ∧ Gr w w' := by
  unfold maxLen at hl hm
  have hE := neqCel
  have hG := guardCel
  by_cases hlen : l.length = m.length
  · have hlz : ((l.length : Int) != (m.length : Int)) = false := by rw [hlen]; simp
    have hlH : Hid (l.length = m.length) := hlen
    clear hlen
    go_enter Try.func11, Try.ntmps11
    go_wp2
    go_loopw [13] (fun i wr => ∃ k : Nat, k ≤ l.length ∧ i = .int .i64 k ∧ Hid (∀ j (h : j < l.length) (h' : j < m.length), j < k → l[j] = m[j]) ∧ Gr w wr) (fun i _ => l.length - (intOf i).toNat)
    case atStart => exact ⟨0, Nat.zero_le _, rfl, fun j _ _ hj => absurd hj (Nat.not_lt_zero _), Gr.refl _⟩
    case round =>
      obtain ⟨k, hk, rfl, hno, hgr⟩ := hrel
      by_cases hlt : k < l.length
      · have hltz : (k : Int) < (l.length : Int) := by omega
        have hlt2 : k < m.length := by have := hlH.out; omega
        have hltz2 : (k : Int) < (m.length : Int) := by omega
        obtain ⟨bb, off, rfl, hb, hcs⟩ := RowC.get (hr.gr hgr) hlt
        obtain ⟨bb2, off2, rfl, hb2, hcs2⟩ := RowC.get (hs.gr hgr) hlt2
        obtain ⟨e0, e1, e2, e3, e4⟩ := hcs k hlt
        obtain ⟨f0, f1, f2, f3, f4⟩ := hcs2 k hlt2
        obtain ⟨x, hx⟩ : ∃ x, l[k] = x := ⟨_, rfl⟩
        obtain ⟨y, hy⟩ : ∃ y, m[k] = y := ⟨_, rfl⟩
        rw [hx] at e0 e1 e2 e3 e4
        rw [hy] at f0 f1 f2 f3 f4
        have hxH : Hid (l[k] = x) := hx
        have hyH : Hid (m[k] = y) := hy
        clear hcs hcs2 hx hy
        cases hq : celEq x y
        · have hfin : Hid (eqLC l m = false) := by
            show eqLC l m = false
            simp only [eqLC, decide_eq_false_iff_not]
            intro h
            subst h
            have : x = y := hxH.out.symm.trans hyH.out
            rw [celEq_iff.2 this] at hq
            cases hq
          go_wp2
          go_quiet (fail)
          go_wp2
          go_ret
          rw [hfin.out]
          exact ⟨rfl, hgr.trans ⟨nq, #[], by rw [grow_empty]⟩⟩
        · have hne : Hid (l[k] = m[k]) := hxH.out.trans ((celEq_iff.1 hq).trans hyH.out.symm)
          go_wp2
          go_quiet (fail)
          go_wp2
          go_roundw
          case rel =>
            refine ⟨k + 1, by omega, by go_num, ?_, hgr.trans ⟨nq, #[], by rw [grow_empty]⟩⟩
            intro j hj hj' hjk
            by_cases e : j = k
            · subst e; exact hne
            · exact hno j hj hj' (by omega)
          case measure => simp [intOf]; omega
      · have hltz : ¬ (k : Int) < (l.length : Int) := by omega
        have hfin : Hid (eqLC l m = true) := by
          show eqLC l m = true
          simp only [eqLC, decide_eq_true_eq]
          exact List.ext_getElem hlH.out fun j h1 h2 => hno j h1 h2 (by omega)
        go_wp2
        go_ret
        rw [hfin.out]
        exact ⟨rfl, hgr⟩
  · have hlz : ((l.length : Int) != (m.length : Int)) = true := by simp; omega
    have hfin : Hid (eqLC l m = false) := by
      show eqLC l m = false
      simp only [eqLC, decide_eq_false_iff_not]
      intro h
      exact hlen (by rw [h])
    clear hlen
    go_enter Try.func11, Try.ntmps11
    go_wp2
    go_ret
    rw [hfin.out]
    exact ⟨rfl, Gr.refl _⟩

/-- Two tables are the same. -/
def sameT (s t : Tab) : Bool := sameB s.c t.c && eqLC s.e t.e



theorem sameT_self (t : Tab) : sameT t t = true := by
  unfold sameT sameB clkEq eqL eqLC
  simp
theorem sameT_iff {s t : Tab} : sameT s t = true ↔ s = t := by
  obtain ⟨⟨a0, a1, a2, a3, al⟩, ae⟩ := s
  obtain ⟨⟨b0, b1, b2, b3, bl⟩, be⟩ := t
  unfold sameT sameB clkEq eqL eqLC
  simp only [Bool.and_eq_true, decide_eq_true_eq, Prod.mk.injEq, Tab.mk.injEq, Ctx.mk.injEq]
  constructor
  · rintro ⟨⟨⟨h0, h1, h2, h3⟩, hl⟩, he⟩; exact ⟨⟨h0, h1, h2, h3, hl⟩, he⟩
  · rintro ⟨⟨h0, h1, h2, h3, hl⟩, he⟩; exact ⟨⟨⟨h0, h1, h2, h3⟩, hl⟩, he⟩

end Go.Proofs.Ytknjeajdiibafaa
