/-
  dot.Join: the context that has what one of both has.
-/
import Derived.Test.YtknjeajdiibafaaBoth
import Derived.Deep.RegionHeld
namespace Go.Proofs.Ytknjeajdiibafaa
open Go.RowKit Go.Sort

/-- The greater clocks of both. -/
def joinK (a b : Ctx) : Ctx := ⟨max a.c0 b.c0, max a.c1 b.c1, max a.c2 b.c2, max a.c3 b.c3, []⟩
/-- The context that has what one of both has. -/
def joinF (a b : Ctx) : Ctx := foldS (joinK a b) (a.l ++ b.l)
/-- The error that Join tells. -/
def joinE (a b : Ctx) : Int := if errB a b = 0 then (if 400 < (joinF a b).l.length then 2 else 0) else errB a b
/-- The context that Join tells. -/
def joinC (a b : Ctx) : Ctx := if joinE a b = 0 then joinF a b else zeroC

theorem clk_joinK (a b : Ctx) (x : Int) : clk (joinK a b) x = max (clk a x) (clk b x) := by
  unfold clk joinK
  by_cases h0 : x = 0
  · simp [h0]
  · by_cases h1 : x = 1
    · simp [h1]
    · by_cases h2 : x = 2
      · simp [h2]
      · simp [h0, h1, h2]
theorem joinK_ok {a b : Ctx} (ha : okClk a = true) (hb : okClk b = true) : okClk (joinK a b) = true := by
  refine okClk_of fun x h0 h4 => ?_
  have h1 := clk_of_ok ha x h0 h4
  have h2 := clk_of_ok hb x h0 h4
  rw [clk_joinK]
  simp only [inB, Bool.and_eq_true, decide_eq_true_eq]
  omega

/-- Block B holds four clocks. -/
structure ClkAt (w : World) (B : Nat) (x0 x1 x2 x3 : Int) : Prop where
  k0 : w.cell? ⟨B, 0, none⟩ = some (.int .i64 x0)
  k1 : w.cell? ⟨B, 1, none⟩ = some (.int .i64 x1)
  k2 : w.cell? ⟨B, 2, none⟩ = some (.int .i64 x2)
  k3 : w.cell? ⟨B, 3, none⟩ = some (.int .i64 x3)
  fz : ∀ j, w.frozen? ⟨B, j, none⟩ = false
  lt : B < w.heap.size

/-- The clocks behind k rounds. -/
def mixK (a b : Ctx) (k : Nat) : Int × Int × Int × Int := (if 0 < k then max a.c0 b.c0 else a.c0, if 1 < k then max a.c1 b.c1 else a.c1, if 2 < k then max a.c2 b.c2 else a.c2, if 3 < k then max a.c3 b.c3 else a.c3)

theorem ClkAt.set {w : World} {B : Nat} {x0 x1 x2 x3 : Int} (h : ClkAt w B x0 x1 x2 x3) (j : Nat) (u : Int) : ClkAt (w.setCell ⟨B, j, none⟩ (.int .i64 u)) B (if 0 = j then u else x0) (if 1 = j then u else x1) (if 2 = j then u else x2) (if 3 = j then u else x3) := by
  refine ⟨?_, ?_, ?_, ?_, fun i => by rw [World.frozen?_setCell]; exact h.fz i, by simpa [World.setCell] using h.lt⟩
  · rw [cell_set h.k0]; split <;> rfl
  · rw [cell_set h.k1]; split <;> rfl
  · rw [cell_set h.k2]; split <;> rfl
  · rw [cell_set h.k3]; split <;> rfl


end Go.Proofs.Ytknjeajdiibafaa
