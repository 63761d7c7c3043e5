/-
  table.contextOf and what is handed to it; slices.ContainsFunc at cells, with what table.Del hands in.
-/
import Derived.Test.YtnkpfhipgcmplaaGreatDoorTCheck
namespace Go.Proofs.YtnkpfhipgcmplaaGreatDoor
open Go.RowKit Go.Sort

/-- The dots of the cells that fit. -/
def dotsOf (p : Cel → Bool) (l : List Cel) : List (Int × Int) := (l.filter p).map (·.1)

/-- A cell of a row and column. -/
def fitP (key col : Int) (x : Cel) : Bool := decide (x.2.1 = key) && decide (x.2.2.1 = col)
/-- A cell of a row. -/
def fitD (key : Int) (x : Cel) : Bool := decide (x.2.1 = key)


end Go.Proofs.YtnkpfhipgcmplaaGreatDoor
