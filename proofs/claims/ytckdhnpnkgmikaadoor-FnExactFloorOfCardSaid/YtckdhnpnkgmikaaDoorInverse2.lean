/- The inverse of a braid: the model's answer. -/
import Derived.Test.YtckdhnpnkgmikaaDoorInverse
import Derived.Deep.RegionHeld3
namespace Go.Proofs.YtckdhnpnkgmikaaDoor
open Go.RowKit Go.ChangeShapes

end Go.Proofs.YtckdhnpnkgmikaaDoor
