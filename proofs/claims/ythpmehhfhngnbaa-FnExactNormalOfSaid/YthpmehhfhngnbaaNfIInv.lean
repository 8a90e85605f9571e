/- The program: the inverse of a normal form. -/
import Derived.Test.YthpmehhfhngnbaaNfMC
import Derived.Test.YthpmehhfhngnbaaNfKit15
import Derived.Test.YthpmehhfhngnbaaNfSMk0
namespace Go.Proofs.Ythpmehhfhngnbaa
open Go.RowKit Go.ChangeShapes

end Go.Proofs.Ythpmehhfhngnbaa

