/-
  slices.Equal at cells; viewref.SameTable: whether two tables are the same.
-/
import Derived.Test.YtbhhpijidbhipaaTBase
import Derived.Test.YtbhhpijidbhipaaSame
namespace Go.Proofs.Ytbhhpijidbhipaa
open Go.RowKit Go.Sort

/-- Two cells are the same. -/
def celEq (x y : Cel) : Bool := decide (x = y)
theorem celEq_iff {x y : Cel} : celEq x y = true ↔ x = y := by simp [celEq]

theorem eqDotIn (a b c d : Int) (w : World) : (Op.equalIn 9999 51 (.agg #[.int .i64 a, .int .i64 b]) (.agg #[.int .i64 c, .int .i64 d])).run Try.prog w = .ok (a == c && b == d) w := by
  have u3 := Try.underlying3
  have a3 := Try.isAgg3
  have z3 := Try.sizeOf3
  have hS : Try.prog.underlying 51 = some (.struct (Try.prog.fieldsOf 51)) := by kernel_rfl
  have hp : Try.prog.stoodInHeld 51 = false := by kernel_rfl
  rw [show (9999 : Nat) = 9998 + 1 from rfl, run_equalIn_agg w 9998 51 _ _ hS hp]
  simp only [Program.fieldsOf, Try.underlying51]
  go_simp
  by_cases h1 : a = c <;> by_cases h2 : b = d <;> simp [h1, h2]

set_option maxRecDepth 100000 in
theorem eqCelIn (x y : Cel) (w : World) : (Op.equalIn 10000 53 (.agg #[.int .i64 x.1.1, .int .i64 x.1.2, .int .i64 x.2.1, .int .i64 x.2.2.1, .int .i64 x.2.2.2]) (.agg #[.int .i64 y.1.1, .int .i64 y.1.2, .int .i64 y.2.1, .int .i64 y.2.2.1, .int .i64 y.2.2.2])).run Try.prog w = .ok (celEq x y) w := by
  obtain ⟨⟨a0, a1⟩, a2, a3, a4⟩ := x
  obtain ⟨⟨b0, b1⟩, b2, b3, b4⟩ := y
  have u3 := Try.underlying3
  have g3 := Try.isAgg3
  have z3 := Try.sizeOf3
  have c2 : Try.prog.cellsOf 51 = 2 := by kernel_rfl
  have c1 : Try.prog.cellsOf 3 = 1 := by kernel_rfl
  have gD := Try.isAgg51
  have zD := Try.sizeOf51
  have hd := eqDotIn
  have hS : Try.prog.underlying 53 = some (.struct (Try.prog.fieldsOf 53)) := by kernel_rfl
  have hp : Try.prog.stoodInHeld 53 = false := by kernel_rfl
  rw [show (10000 : Nat) = 9999 + 1 from rfl, run_equalIn_agg w 9999 53 _ _ hS hp]
  simp only [Program.fieldsOf, Try.underlying53]
  clear hS hp
  go_simp
  by_cases h0 : a0 = b0 <;> by_cases h1 : a1 = b1 <;> by_cases h2 : a2 = b2 <;> by_cases h3 : a3 = b3 <;> by_cases h4 : a4 = b4 <;> simp [celEq, h0, h1, h2, h3, h4]

theorem eqCel (x y : Cel) (w : World) : (binOp .eql 53 (.agg #[.int .i64 x.1.1, .int .i64 x.1.2, .int .i64 x.2.1, .int .i64 x.2.2.1, .int .i64 x.2.2.2]) (.agg #[.int .i64 y.1.1, .int .i64 y.1.2, .int .i64 y.2.1, .int .i64 y.2.2.1, .int .i64 y.2.2.2])).run Try.prog w = .ok (.bool (celEq x y)) w := by
  rw [run_eql_struct, eqCelIn]; rfl
theorem neqCel (x y : Cel) (w : World) : (binOp .neq 53 (.agg #[.int .i64 x.1.1, .int .i64 x.1.2, .int .i64 x.2.1, .int .i64 x.2.2.1, .int .i64 x.2.2.2]) (.agg #[.int .i64 y.1.1, .int .i64 y.1.2, .int .i64 y.2.1, .int .i64 y.2.2.1, .int .i64 y.2.2.2])).run Try.prog w = .ok (.bool (!celEq x y)) w := by
  rw [run_neq_struct, eqCelIn]; rfl
theorem guardCel (op : BinOp) (p q : Operand) (x y : Cel) (w : World) : (eqGuard op 53 p q (.agg #[.int .i64 x.1.1, .int .i64 x.1.2, .int .i64 x.2.1, .int .i64 x.2.2.1, .int .i64 x.2.2.2]) (.agg #[.int .i64 y.1.1, .int .i64 y.1.2, .int .i64 y.2.1, .int .i64 y.2.2.1, .int .i64 y.2.2.2])).run Try.prog w = .ok () w :=
  run_eqGuard_agg w op 53 p q _ _ (by kernel_rfl)

/-- Two lists of cells are the same. -/
def eqLC (l m : List Cel) : Bool := decide (l = m)

set_option maxHeartbeats 1000000 in
theorem equalC_any (l m : List Cel) (A B : Option Addr) (cap dap : Nat) (w : World) (hl : l.length ≤ maxLen) (hm : m.length ≤ maxLen) (hr : RowC w A l) (hs : RowC w B m) :
    Calls Try.prog 33 #[.slice A l.length cap, .slice B m.length dap] w fun e w' => e = .returned (.bool (eqLC l m)) ∧ Gr w w' := by
  unfold maxLen at hl hm
  have hE := neqCel
  have hG := guardCel
  by_cases hlen : l.length = m.length
  · have hlz : ((l.length : Int) != (m.length : Int)) = false := by rw [hlen]; simp
    have hlH : Hid (l.length = m.length) := hlen
    clear hlen
    go_enter Try.func33, Try.ntmps33
    go_wp2
    go_loopw [13] (fun i wr => ∃ k : Nat, k ≤ l.length ∧ i = .int .i64 k ∧ Hid (∀ j (h : j < l.length) (h' : j < m.length), j < k → l[j] = m[j]) ∧ Gr w wr) (fun i _ => l.length - (intOf i).toNat)
    case atStart => exact ⟨0, Nat.zero_le _, rfl, fun j _ _ hj => absurd hj (Nat.not_lt_zero _), Gr.refl _⟩
    case round =>
      obtain ⟨k, hk, rfl, hno, hgr⟩ := hrel
      by_cases hlt : k < l.length
      · have hltz : (k : Int) < (l.length : Int) := by omega
        have hlt2 : k < m.length := by have := hlH.out; omega
        have hltz2 : (k : Int) < (m.length : Int) := by omega
        obtain ⟨bb, off, rfl, hb, hcs⟩ := RowC.get (hr.gr hgr) hlt
        obtain ⟨bb2, off2, rfl, hb2, hcs2⟩ := RowC.get (hs.gr hgr) hlt2
        obtain ⟨e0, e1, e2, e3, e4⟩ := hcs k hlt
        obtain ⟨f0, f1, f2, f3, f4⟩ := hcs2 k hlt2
        obtain ⟨x, hx⟩ : ∃ x, l[k] = x := ⟨_, rfl⟩
        obtain ⟨y, hy⟩ : ∃ y, m[k] = y := ⟨_, rfl⟩
        rw [hx] at e0 e1 e2 e3 e4
        rw [hy] at f0 f1 f2 f3 f4
        have hxH : Hid (l[k] = x) := hx
        have hyH : Hid (m[k] = y) := hy
        clear hcs hcs2 hx hy
        cases hq : celEq x y
        · have hfin : Hid (eqLC l m = false) := by
            show eqLC l m = false
            simp only [eqLC, decide_eq_false_iff_not]
            intro h
            subst h
            have : x = y := hxH.out.symm.trans hyH.out
            rw [celEq_iff.2 this] at hq
            cases hq
          go_wp2
          go_quiet (fail)
          go_wp2
          go_ret
          rw [hfin.out]
          exact ⟨rfl, hgr.trans ⟨nq, #[], by rw [grow_empty]⟩⟩
        · have hne : Hid (l[k] = m[k]) := hxH.out.trans ((celEq_iff.1 hq).trans hyH.out.symm)
          go_wp2
          go_quiet (fail)
          go_wp2
          go_roundw
          case rel =>
            refine ⟨k + 1, by omega, by go_num, ?_, hgr.trans ⟨nq, #[], by rw [grow_empty]⟩⟩
            intro j hj hj' hjk
            by_cases e : j = k
            · subst e; exact hne
            · exact hno j hj hj' (by omega)
          case measure => simp [intOf]; omega
      · have hltz : ¬ (k : Int) < (l.length : Int) := by omega
        have hfin : Hid (eqLC l m = true) := by
          show eqLC l m = true
          simp only [eqLC, decide_eq_true_eq]
          exact List.ext_getElem hlH.out fun j h1 h2 => hno j h1 h2 (by omega)
        go_wp2
        go_ret
        rw [hfin.out]
        exact ⟨rfl, hgr⟩
  · have hlz : ((l.length : Int) != (m.length : Int)) = true := by simp; omega
    have hfin : Hid (eqLC l m = false) := by
      show eqLC l m = false
      simp only [eqLC, decide_eq_false_iff_not]
      intro h
      exact hlen (by rw [h])
    clear hlen
    go_enter Try.func33, Try.ntmps33
    go_wp2
    go_ret
    rw [hfin.out]
    exact ⟨rfl, Gr.refl _⟩

/-- Two tables are the same. -/
def sameT (s t : Tab) : Bool := sameB s.c t.c && eqLC s.e t.e

set_option maxRecDepth 100000 in
set_option maxHeartbeats 1000000 in
theorem sameT_any (s t : Tab) (A B C D : Option Addr) (ca cb cc cd : Nat) (w : World) (hsl : s.c.l.length ≤ maxLen) (htl : t.c.l.length ≤ maxLen) (hse : s.e.length ≤ maxLen) (hte : t.e.length ≤ maxLen) (hr : Row w A s.c.l) (hs : Row w C t.c.l) (hre : RowC w B s.e) (hte' : RowC w D t.e) :
    Calls Try.prog 17 #[.agg #[.int .i64 s.c.c0, .int .i64 s.c.c1, .int .i64 s.c.c2, .int .i64 s.c.c3, .slice A s.c.l.length ca, .slice B s.e.length cb], .agg #[.int .i64 t.c.c0, .int .i64 t.c.c1, .int .i64 t.c.c2, .int .i64 t.c.c3, .slice C t.c.l.length cc, .slice D t.e.length cd]] w fun e w' => e = .returned (.bool (sameT s t)) ∧ Gr w w' := by
  have hgX : Gr w ((w.alloc (.cells #[.int .i64 s.c.c0, .int .i64 s.c.c1, .int .i64 s.c.c2, .int .i64 s.c.c3, .slice A s.c.l.length ca, .slice B s.e.length cb] 28)).alloc (.cells #[.int .i64 t.c.c0, .int .i64 t.c.c1, .int .i64 t.c.c2, .int .i64 t.c.c3, .slice C t.c.l.length cc, .slice D t.e.length cd] 28)) := ((Gr.refl _).alloc _).alloc _
  have hS0 : TabAt ((w.alloc (.cells #[.int .i64 s.c.c0, .int .i64 s.c.c1, .int .i64 s.c.c2, .int .i64 s.c.c3, .slice A s.c.l.length ca, .slice B s.e.length cb] 28)).alloc (.cells #[.int .i64 t.c.c0, .int .i64 t.c.c1, .int .i64 t.c.c2, .int .i64 t.c.c3, .slice C t.c.l.length cc, .slice D t.e.length cd] 28)) w.heap.size s A ca B cb := (TabAt.new 28 hr hre rfl).gr ((Gr.refl _).alloc _)
  have hT0 : TabAt ((w.alloc (.cells #[.int .i64 s.c.c0, .int .i64 s.c.c1, .int .i64 s.c.c2, .int .i64 s.c.c3, .slice A s.c.l.length ca, .slice B s.e.length cb] 28)).alloc (.cells #[.int .i64 t.c.c0, .int .i64 t.c.c1, .int .i64 t.c.c2, .int .i64 t.c.c3, .slice C t.c.l.length cc, .slice D t.e.length cd] 28)) (w.heap.size + 1) t C cc D cd := TabAt.new 28 (hs.gr ((Gr.refl _).alloc _)) (hte'.gr ((Gr.refl _).alloc _)) (by simp)
  have hc := same_any s.c t.c A C ca cc _ hsl htl hS0.row hT0.row
  have hcH : Hid _ := hc
  clear hc
  go_enter Try.func17, Try.ntmps17
  go_wp2_with fail
  refine Calls.mono (show Calls _ _ _ _ _ from hcH.out) ?_
  rintro e w1 ⟨rfl, hg1⟩
  clear hcH
  have hS1 := hS0.gr hg1
  have hT1 := hT0.gr hg1
  have hgW : Gr w w1 := hgX.trans hg1
  clear hS0 hT0 hgX hg1
  cases hq : sameB s.c t.c
  · have hfin : Hid (sameT s t = false) := by
      show sameT s t = false
      unfold sameT; rw [hq]; rfl
    go_wp2
    go_ret
    rw [hfin.out]
    exact ⟨rfl, hgW⟩
  · have hfin : Hid (sameT s t = eqLC s.e t.e) := by
      show sameT s t = _
      unfold sameT; rw [hq]; rfl
    have s5 := hS1.k5
    have t5 := hT1.k5
    have he := equalC_any s.e t.e B D cb cd w1 hse hte hS1.rowC hT1.rowC
    have heH : Hid _ := he
    clear he
    go_wp2_with fail
    refine Calls.mono (show Calls _ _ _ _ _ from heH.out) ?_
    rintro e w2 ⟨rfl, hg2⟩
    go_wp2
    go_ret
    rw [hfin.out]
    exact ⟨rfl, hgW.trans hg2⟩

theorem sameT_self (t : Tab) : sameT t t = true := by
  unfold sameT sameB clkEq eqL eqLC
  simp
theorem sameT_iff {s t : Tab} : sameT s t = true ↔ s = t := by
  obtain ⟨⟨a0, a1, a2, a3, al⟩, ae⟩ := s
  obtain ⟨⟨b0, b1, b2, b3, bl⟩, be⟩ := t
  unfold sameT sameB clkEq eqL eqLC
  simp only [Bool.and_eq_true, decide_eq_true_eq, Prod.mk.injEq, Tab.mk.injEq, Ctx.mk.injEq]
  constructor
  · rintro ⟨⟨⟨h0, h1, h2, h3⟩, hl⟩, he⟩; exact ⟨⟨h0, h1, h2, h3, hl⟩, he⟩
  · rintro ⟨⟨h0, h1, h2, h3, hl⟩, he⟩; exact ⟨⟨⟨h0, h1, h2, h3⟩, hl⟩, he⟩

end Go.Proofs.Ytbhhpijidbhipaa
