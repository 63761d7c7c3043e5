/-
  dot.Make: the context that has just the dots of a list.
-/
import Derived.Test.YtknjeajdiibafaaFold
import Derived.Test.YtknjeajdiibafaaRising
namespace Go.Proofs.Ytknjeajdiibafaa
open Go.RowKit Go.Sort

/-- No context. -/
def zeroC : Ctx := ⟨0, 0, 0, 0, []⟩
/-- The error that Make tells. -/
def makeE (l : List (Int × Int)) : Int := if 400 < l.length then 2 else if badL l = true then 5 else 0
/-- The context that fold makes of a clock and of dots, sorted. -/
def foldS (c : Ctx) (l : List (Int × Int)) : Ctx := foldTo c (srt l) (srt l).length
/-- The context that Make tells. -/
def makeC (l : List (Int × Int)) : Ctx := if makeE l = 0 then foldS zeroC l else zeroC

theorem srt_mem {l : List (Int × Int)} {x : Int × Int} (h : x ∈ srt l) : x ∈ l := by
  unfold srt at h
  exact (List.mergeSort_perm l _).mem_iff.1 h


end Go.Proofs.Ytknjeajdiibafaa
