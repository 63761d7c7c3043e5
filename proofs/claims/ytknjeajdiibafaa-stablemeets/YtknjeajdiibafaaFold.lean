/-
  dot.fold: what it makes of a clock and of dots that are right and in order, step by step.
-/
import Derived.Test.YtknjeajdiibafaaCBox
namespace Go.Proofs.Ytknjeajdiibafaa
open Go.RowKit Go.Sort


end Go.Proofs.Ytknjeajdiibafaa
