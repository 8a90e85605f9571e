/- The inverse of a braid: the model's answer. -/
import Derived.Test.YteafnbkdejkjiaaInverse
import Derived.Deep.RegionHeld3
namespace Go.Proofs.Yteafnbkdejkjiaa
open Go.RowKit Go.ChangeShapes

end Go.Proofs.Yteafnbkdejkjiaa
