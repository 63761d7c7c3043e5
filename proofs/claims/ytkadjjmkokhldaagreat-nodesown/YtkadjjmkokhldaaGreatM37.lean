/-
  dot.missing: the dots that a has and b hasn't; an error, if there are more than 400.
  dot.Minus: the dots that a has and b hasn't. dot.Less: has b all that a has?
  dot.Less: has b all that a has?
-/
import Derived.Test.YtkadjjmkokhldaaGreatM36
import Derived.Test.YtkadjjmkokhldaaGreatM30
namespace Go.Proofs.YtkadjjmkokhldaaGreat
open Go.RowKit Go.Sort

end Go.Proofs.YtkadjjmkokhldaaGreat

namespace Go.Proofs.YtkadjjmkokhldaaGreat
open Go.RowKit Go.Sort

end Go.Proofs.YtkadjjmkokhldaaGreat

namespace Go.Proofs.YtkadjjmkokhldaaGreat
open Go.RowKit Go.Sort

end Go.Proofs.YtkadjjmkokhldaaGreat
