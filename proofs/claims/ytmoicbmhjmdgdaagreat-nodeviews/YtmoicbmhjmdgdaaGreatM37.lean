/-
  dot.appendMissing: the dots of a node that a has and b hasn't, behind a list.
  dot.missing: the dots that a has and b hasn't; an error, if there are more than 400.
  dot.Minus: the dots that a has and b hasn't. dot.Less: has b all that a has?
-/
import Derived.Test.YtmoicbmhjmdgdaaGreatM36
import Derived.Test.YtmoicbmhjmdgdaaGreatM05
import Derived.Test.YtmoicbmhjmdgdaaGreatM10
namespace Go.Proofs.YtmoicbmhjmdgdaaGreat
open Go.RowKit Go.Sort

end Go.Proofs.YtmoicbmhjmdgdaaGreat

namespace Go.Proofs.YtmoicbmhjmdgdaaGreat
open Go.RowKit Go.Sort

end Go.Proofs.YtmoicbmhjmdgdaaGreat

namespace Go.Proofs.YtmoicbmhjmdgdaaGreat
open Go.RowKit Go.Sort

end Go.Proofs.YtmoicbmhjmdgdaaGreat
