/-
  viewref.SameContext: whether two contexts are the same.
-/
import Derived.Test.YtbhhpijidbhipaaSlices
import Derived.ChangeKeysEq
namespace Go.Proofs.Ytbhhpijidbhipaa
open Go.RowKit Go.Sort

theorem Try.info3 : (Try.prog.info? 3).map (fun i => (i.zero, i.size, i.bytes)) = some (some (.int .i64 0), 1, 8) := by kernel_rfl

/-- Two clocks are the same. -/
def clkEq (a b c d a' b' c' d' : Int) : Bool := decide ((a, b, c, d) = (a', b', c', d'))

/-- '==' on two clocks. -/
theorem eqClk (a b c d a' b' c' d' : Int) (w : World) : (binOp .eql 22 (.agg #[.int .i64 a, .int .i64 b, .int .i64 c, .int .i64 d]) (.agg #[.int .i64 a', .int .i64 b', .int .i64 c', .int .i64 d'])).run Try.prog w = .ok (.bool (clkEq a b c d a' b' c' d')) w := by
  unfold clkEq
  obtain ⟨i0, hi, hz0, hz1, hz2⟩ := info_parts Try.info3
  have u3 := Try.underlying3
  have a3 := Try.isAgg3
  have z3 := Try.sizeOf3
  have c3 : Try.prog.cellsOf 3 = 1 := by kernel_rfl
  rw [run_eql_struct, show (10000 : Nat) = 9998 + 1 + 1 from rfl, run_equalIn_array w (9998 + 1) _ _ Try.underlying22 hi, c3]
  simp only [show List.range 4 = [0, 1, 2, 3] from rfl, Op.eqItems]
  go_simp
  by_cases h1 : a = a' <;> by_cases h2 : b = b' <;> by_cases h3 : c = c' <;> by_cases h4 : d = d' <;> simp [h1, h2, h3, h4]

theorem guardClk (op : BinOp) (p q : Operand) (a b c d a' b' c' d' : Int) (w : World) : (eqGuard op 22 p q (.agg #[.int .i64 a, .int .i64 b, .int .i64 c, .int .i64 d]) (.agg #[.int .i64 a', .int .i64 b', .int .i64 c', .int .i64 d'])).run Try.prog w = .ok () w :=
  run_eqGuard_agg w op 22 p q _ _ (by kernel_rfl)

/-- Two contexts are the same. -/
def sameB (c d : Ctx) : Bool := clkEq c.c0 c.c1 c.c2 c.c3 d.c0 d.c1 d.c2 d.c3 && eqL c.l d.l

set_option maxHeartbeats 1000000 in
theorem same_any (c d : Ctx) (A B : Option Addr) (cap dap : Nat) (w : World) (hl : c.l.length ≤ maxLen) (hm : d.l.length ≤ maxLen) (hr : Row w A c.l) (hs : Row w B d.l) :
    Calls Try.prog 32 #[.agg #[.int .i64 c.c0, .int .i64 c.c1, .int .i64 c.c2, .int .i64 c.c3, .slice A c.l.length cap], .agg #[.int .i64 d.c0, .int .i64 d.c1, .int .i64 d.c2, .int .i64 d.c3, .slice B d.l.length dap]] w fun e w' => e = .returned (.bool (sameB c d)) ∧ Gr w w' := by
  have hE := eqClk
  have hG := guardClk
  cases hq : clkEq c.c0 c.c1 c.c2 c.c3 d.c0 d.c1 d.c2 d.c3
  · have hfin : Hid (sameB c d = false) := by
      show sameB c d = false
      unfold sameB; rw [hq]; rfl
    go_enter Try.func32, Try.ntmps32
    go_wp2
    go_ret
    rw [hfin.out]
    exact ⟨rfl, ((Gr.refl _).alloc _).alloc _⟩
  · have hfin : Hid (sameB c d = eqL c.l d.l) := by
      show sameB c d = _
      unfold sameB; rw [hq]; rfl
    go_enter Try.func32, Try.ntmps32
    go_wp2_with fail
    refine (equal_any c.l d.l A B cap dap _ hl hm (hr.gr (((Gr.refl _).alloc _).alloc _)) (hs.gr (((Gr.refl _).alloc _).alloc _))).mono ?_
    rintro e w' ⟨rfl, hg⟩
    go_wp2
    go_ret
    rw [hfin.out]
    exact ⟨rfl, unbox (unbox hg)⟩

end Go.Proofs.Ytbhhpijidbhipaa
