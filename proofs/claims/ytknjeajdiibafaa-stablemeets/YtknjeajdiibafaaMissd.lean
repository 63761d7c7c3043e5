/-
  dot.missing: the dots that a has and b hasn't; an error, if there are more than 400.
-/
import Derived.Test.YtknjeajdiibafaaAppMiss
namespace Go.Proofs.Ytknjeajdiibafaa
open Go.RowKit Go.Sort

/-- The dots that a has and b hasn't, of the first k nodes. -/
def missK (a b : Ctx) : Nat → List (Int × Int)
  | 0 => []
  | k + 1 => missN a b k (missK a b k)
theorem missK_ge (a b : Ctx) (k : Nat) : (missK a b k).length ≤ (missK a b (k + 1)).length := missN_ge a b k (missK a b k)
theorem missK_len (a b : Ctx) (k : Nat) : (missK a b (k + 1)).length ≤ max (missK a b k).length 401 + a.l.length := missN_len a b k (missK a b k)

/-- The error that missing tells. -/
def missE (a b : Ctx) : Int := if 400 < (missK a b 4).length then 2 else 0
/-- The dots that it tells. -/
def missL (a b : Ctx) : List (Int × Int) := if 400 < (missK a b 4).length then [] else missK a b 4

theorem miss_large {a b : Ctx} {k : Nat} (hk : k ≤ 4) (h : 400 < (missK a b k).length) : missE a b = 2 ∧ missL a b = [] := by
  have h4 : 400 < (missK a b 4).length := by
    have h1 : (missK a b 0).length ≤ (missK a b 1).length := missK_ge a b 0
    have h2 : (missK a b 1).length ≤ (missK a b 2).length := missK_ge a b 1
    have h3 : (missK a b 2).length ≤ (missK a b 3).length := missK_ge a b 2
    have h5 : (missK a b 3).length ≤ (missK a b 4).length := missK_ge a b 3
    have hk' : k = 0 ∨ k = 1 ∨ k = 2 ∨ k = 3 ∨ k = 4 := by omega
    rcases hk' with rfl | rfl | rfl | rfl | rfl <;> omega
  exact ⟨by unfold missE; rw [if_pos h4], by unfold missL; rw [if_pos h4]⟩



end Go.Proofs.Ytknjeajdiibafaa
