/- Two arguments that have to be normal forms of equally many strands. -/
import Derived.Test.YthpmehhfhngnbaaNfSNorm
import Derived.Test.YthpmehhfhngnbaaNfINorm2
import Derived.Test.YthpmehhfhngnbaaNfKit15
namespace Go.Proofs.Ythpmehhfhngnbaa
open Go.RowKit Go.ChangeShapes

end Go.Proofs.Ythpmehhfhngnbaa

