/- The model: is it a normal form? -/
import Derived.Test.YthpmehhfhngnbaaNfINorm2
import Derived.Test.YthpmehhfhngnbaaNfSWgt
import Derived.Test.YthpmehhfhngnbaaNfMC
namespace Go.Proofs.Ythpmehhfhngnbaa
open Go.RowKit Go.ChangeShapes

end Go.Proofs.Ythpmehhfhngnbaa

