/-
  dot.Minus: the dots that a has and b hasn't. dot.Less: has b all that a has?
-/
import Derived.Test.YtknjeajdiibafaaBoth
import Derived.Test.YtknjeajdiibafaaMissd
namespace Go.Proofs.Ytknjeajdiibafaa
open Go.RowKit Go.Sort

/-- The error that Minus tells. -/
def minusE (a b : Ctx) : Int := if errB a b = 0 then (if 400 < (missK a b 4).length then 2 else 0) else errB a b
/-- The dots that Minus tells. -/
def minusL (a b : Ctx) : List (Int × Int) := if minusE a b = 0 then missK a b 4 else []

theorem minus_is {a b : Ctx} (he : errB a b = 0) : missE a b = minusE a b ∧ missL a b = minusL a b := by
  unfold minusL minusE missE missL
  rw [if_pos he]
  by_cases h : 400 < (missK a b 4).length <;> simp [h]



end Go.Proofs.Ytknjeajdiibafaa
