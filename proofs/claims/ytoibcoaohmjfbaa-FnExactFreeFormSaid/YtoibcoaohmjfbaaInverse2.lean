/- The inverse of a braid: the model's answer. -/
import Derived.Test.YtoibcoaohmjfbaaInverse
import Derived.Deep.RegionHeld3
namespace Go.Proofs.Ytoibcoaohmjfbaa
open Go.RowKit Go.ChangeShapes

end Go.Proofs.Ytoibcoaohmjfbaa
