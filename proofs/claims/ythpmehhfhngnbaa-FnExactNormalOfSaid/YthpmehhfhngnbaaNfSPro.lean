/- The model: the product of two normal forms. -/
import Derived.Test.YthpmehhfhngnbaaNfSMk0
import Derived.Test.YthpmehhfhngnbaaNfKit15
import Derived.Test.YthpmehhfhngnbaaNfMC
namespace Go.Proofs.Ythpmehhfhngnbaa
open Go.RowKit Go.ChangeShapes

end Go.Proofs.Ythpmehhfhngnbaa

