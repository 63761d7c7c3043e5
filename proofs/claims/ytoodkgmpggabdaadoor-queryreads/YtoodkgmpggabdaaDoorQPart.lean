/-
  query.printPart: one part of a step.
-/
import Derived.Test.YtoodkgmpggabdaaDoorQPrint
namespace Go.Proofs.YtoodkgmpggabdaaDoor
open Go.RowKit Go.Sort

/-- A part's text. -/
def partT (s : Stp) (p : Int) : List UInt8 := if p = 79 then signL s.o else if p = 76 then listL s.l else Lib.itoa (if p = 65 then s.a else if p = 66 then s.b else if p = 67 then s.c else s.v)

end Go.Proofs.YtoodkgmpggabdaaDoor
