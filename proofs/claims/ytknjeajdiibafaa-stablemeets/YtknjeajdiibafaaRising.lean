/-
  dot.rising: the dots of two lists, sorted, in memory of its own.
-/
import Derived.Test.YtknjeajdiibafaaOwn
import Derived.Test.YtknjeajdiibafaaDotLeaf
import Derived.Shelf.SlSortCmp.Insertion
namespace Go.Proofs.Ytknjeajdiibafaa
open Go.RowKit Go.Sort Go.Shelf Go.Lib

/-- A dot's two cells. -/
def encD (x : Int × Int) : List Value := [.int .i64 x.1, .int .i64 x.2]

theorem ltD (x y : Int × Int) : ltOf ordI x y = befB x y := by
  unfold ltOf
  cases h : befB x y
  · have := ordI_not h
    simp; omega
  · rw [ordI_bef h]; simp

theorem befB_iff (x y : Int × Int) : befB x y = true ↔ x.1 < y.1 ∨ (x.1 = y.1 ∧ x.2 < y.2) := by simp [befB]
theorem befB_not (x y : Int × Int) : befB x y = false ↔ y.1 < x.1 ∨ (x.1 = y.1 ∧ y.2 ≤ x.2) := by
  simp [befB]; omega

theorem swoD : SWO (ltOf ordI) where
  irrefl x := by rw [ltD]; simp [befB]
  trans x y z h1 h2 := by rw [ltD, befB_iff] at *; omega
  ntrans x y z h1 h2 := by rw [ltD, befB_not] at *; omega

theorem totD (x y : Int × Int) (h1 : ltOf ordI x y = false) (h2 : ltOf ordI y x = false) : x = y := by
  rw [ltD, befB_not] at *
  exact Prod.ext (by omega) (by omega)

/-- The dots of a list, sorted. -/
def srt (l : List (Int × Int)) : List (Int × Int) := l.mergeSort fun x y => !ltOf ordI y x

theorem srt_length (l : List (Int × Int)) : (srt l).length = l.length := by simp [srt]


end Go.Proofs.Ytknjeajdiibafaa
