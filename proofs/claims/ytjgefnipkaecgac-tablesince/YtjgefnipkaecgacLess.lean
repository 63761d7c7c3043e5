/-
  dot.Less: has b all that a has?
-/
import Derived.Test.YtjgefnipkaecgacBoth
import Derived.Test.YtjgefnipkaecgacAppMiss
namespace Go.Proofs.Ytjgefnipkaecgac
open Go.RowKit Go.Sort

/-- No clock of a is above b's. -/
def clkLe (a b : Ctx) : Bool := decide (a.c0 ≤ b.c0) && decide (a.c1 ≤ b.c1) && decide (a.c2 ≤ b.c2) && decide (a.c3 ≤ b.c3)
theorem clkLe_of {a b : Ctx} (h : ∀ x : Int, 0 ≤ x → x < 4 → clk a x ≤ clk b x) : clkLe a b = true := by
  have h0 := h 0 (by omega) (by omega)
  have h1 := h 1 (by omega) (by omega)
  have h2 := h 2 (by omega) (by omega)
  have h3 := h 3 (by omega) (by omega)
  simp [clk] at h0 h1 h2 h3
  simp [clkLe, h0, h1, h2, h3]
theorem clkLe_not {a b : Ctx} {x : Int} (h0 : 0 ≤ x) (h4 : x < 4) (h : clk b x < clk a x) : clkLe a b = false := by
  have hx : x = 0 ∨ x = 1 ∨ x = 2 ∨ x = 3 := by omega
  cases hc : clkLe a b
  · rfl
  · simp [clkLe] at hc
    rcases hx with rfl | rfl | rfl | rfl <;> simp [clk] at h <;> omega
/-- Has b all that a has, of right contexts? -/
def lessB (a b : Ctx) : Bool := clkLe a b && a.l.all (hasB b)
/-- What Less tells. -/
def lessR (a b : Ctx) : Bool := if errB a b = 0 then lessB a b else false


end Go.Proofs.Ytjgefnipkaecgac
