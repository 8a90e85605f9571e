/- The program: is it a normal form? -/
import Derived.Test.YthpmehhfhngnbaaNfIWgh
import Derived.Test.YthpmehhfhngnbaaNfMC
namespace Go.Proofs.Ythpmehhfhngnbaa
open Go.RowKit Go.ChangeShapes

end Go.Proofs.Ythpmehhfhngnbaa

