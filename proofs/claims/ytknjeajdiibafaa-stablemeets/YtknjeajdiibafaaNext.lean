/-
  dot.Next: the next dot of a node.
-/
import Derived.Test.YtknjeajdiibafaaCheck
namespace Go.Proofs.Ytknjeajdiibafaa
open Go.RowKit Go.Sort

theorem errC_okClk {c : Ctx} (h : errC c = 0) : okClk c = true := by
  unfold errC at h
  cases hk : okClk c
  · simp [hk] at h
  · rfl

/-- What Next answers: the dot, and the error. -/
def nextA (c : Ctx) (n : Int) : (Int × Int) × Int := if errC c = 0 then (if inB n 0 3 = true then (nextD c n, nextE c n) else ((0, 0), 1)) else ((0, 0), errC c)


end Go.Proofs.Ytknjeajdiibafaa
