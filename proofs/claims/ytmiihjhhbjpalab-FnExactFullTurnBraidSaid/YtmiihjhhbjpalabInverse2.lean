/- The inverse of a braid: the model's answer. -/
import Derived.Test.YtmiihjhhbjpalabInverse
import Derived.Deep.RegionHeld3
namespace Go.Proofs.Ytmiihjhhbjpalab
open Go.RowKit Go.ChangeShapes

end Go.Proofs.Ytmiihjhhbjpalab
