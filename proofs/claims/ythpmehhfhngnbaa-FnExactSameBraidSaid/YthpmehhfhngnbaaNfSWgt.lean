/- The model: is a pair of simple braids weighed? -/
import Derived.Test.YthpmehhfhngnbaaNfMC
import Derived.Test.YthpmehhfhngnbaaNfMA
import Derived.BigQuiet
import Derived.IntWalk
namespace Go.Proofs.Ythpmehhfhngnbaa
open Go.RowKit Go.ChangeShapes

end Go.Proofs.Ythpmehhfhngnbaa

