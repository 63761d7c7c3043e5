/-
  dot.appendMissing: the dots of a node that a has and b hasn't, behind a list.
-/
import Derived.Test.YtknjeajdiibafaaAM
import Derived.Test.YtknjeajdiibafaaHas
namespace Go.Proofs.Ytknjeajdiibafaa
open Go.RowKit Go.Sort

theorem has_g {c : Ctx} {A : Option Addr} {cap : Nat} {x y : Int} {r : Bool} {w : World} (hx : hasB c (x, y) = r) (hl : c.l.length ≤ maxLen) (hr : Row w A c.l) :
    Calls Try.prog 15 #[.agg #[.int .i64 c.c0, .int .i64 c.c1, .int .i64 c.c2, .int .i64 c.c3, .slice A c.l.length cap], .agg #[.int .i64 x, .int .i64 y]] w fun e w' => e = .returned (.bool r) ∧ Gr w w' := by
  rw [← hx]; exact has_any c A cap (x, y) w hl hr



end Go.Proofs.Ytknjeajdiibafaa
