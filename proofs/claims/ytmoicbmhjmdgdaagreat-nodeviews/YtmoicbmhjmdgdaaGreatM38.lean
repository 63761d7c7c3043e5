/-
  dot.Less: has b all that a has?
  The calls that only read, as they are met in a region that leaves its order open.
  Plain facts of Minus, Less and Next: what is missing is what a has and b hasn't; joined, it is no more missing.
-/
import Derived.Test.YtmoicbmhjmdgdaaGreatM10
import Derived.Test.YtmoicbmhjmdgdaaGreatM37
import Derived.Test.YtmoicbmhjmdgdaaGreatM02
import Derived.Test.YtmoicbmhjmdgdaaGreatM04
import Derived.Test.YtmoicbmhjmdgdaaGreatM05
import Derived.Test.YtmoicbmhjmdgdaaGreatM09
namespace Go.Proofs.YtmoicbmhjmdgdaaGreat
open Go.RowKit Go.Sort

end Go.Proofs.YtmoicbmhjmdgdaaGreat

namespace Go.Proofs.YtmoicbmhjmdgdaaGreat
open Go.RowKit Go.Sort

/-- A context's cells, some draws and blocks on. -/
theorem CtxAt.G {w : World} {B : Nat} {c : Ctx} {A : Option Addr} {cap : Nat} (h : CtxAt w B c A cap) : (∀ n os, (grow (w.drewN n) os).cell? ⟨B, 0, none⟩ = some (.int .i64 c.c0)) ∧ (∀ n os, (grow (w.drewN n) os).cell? ⟨B, 1, none⟩ = some (.int .i64 c.c1)) ∧ (∀ n os, (grow (w.drewN n) os).cell? ⟨B, 2, none⟩ = some (.int .i64 c.c2)) ∧ (∀ n os, (grow (w.drewN n) os).cell? ⟨B, 3, none⟩ = some (.int .i64 c.c3)) ∧ (∀ n os, (grow (w.drewN n) os).cell? ⟨B, 4, none⟩ = some (.slice A c.l.length cap)) :=
 ⟨cell_grown (a := ⟨B, 0, none⟩) h.lt h.k0, cell_grown (a := ⟨B, 1, none⟩) h.lt h.k1, cell_grown (a := ⟨B, 2, none⟩) h.lt h.k2, cell_grown (a := ⟨B, 3, none⟩) h.lt h.k3, cell_grown (a := ⟨B, 4, none⟩) h.lt h.k4⟩
theorem DotAt.G {w : World} {B : Nat} {x y : Int} (h : DotAt w B x y) : (∀ n os, (grow (w.drewN n) os).cell? ⟨B, 0, none⟩ = some (.int .i64 x)) ∧ (∀ n os, (grow (w.drewN n) os).cell? ⟨B, 1, none⟩ = some (.int .i64 y)) :=
 ⟨cell_grown (a := ⟨B, 0, none⟩) h.lt h.k0, cell_grown (a := ⟨B, 1, none⟩) h.lt h.k1⟩

end Go.Proofs.YtmoicbmhjmdgdaaGreat

namespace Go.Proofs.YtmoicbmhjmdgdaaGreat
open Go.RowKit Go.Sort

end Go.Proofs.YtmoicbmhjmdgdaaGreat
