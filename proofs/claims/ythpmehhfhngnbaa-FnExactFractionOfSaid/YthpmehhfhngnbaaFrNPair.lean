/- Two arguments that have to be normal forms of equally many strands. -/
import Derived.Test.YthpmehhfhngnbaaFrSNorm
import Derived.Test.YthpmehhfhngnbaaFrINorm2
import Derived.Test.YthpmehhfhngnbaaFrKit15
namespace Go.Proofs.Ythpmehhfhngnbaa
open Go.RowKit Go.ChangeShapes

end Go.Proofs.Ythpmehhfhngnbaa

