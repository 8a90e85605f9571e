/- The program: half turns and 'nothing' are taken off. -/
import Derived.Test.YthpmehhfhngnbaaFrMC
import Derived.Test.YthpmehhfhngnbaaFrKit15
import Derived.Test.YthpmehhfhngnbaaFrMB
import Derived.Deep.RegionHeld3
namespace Go.Proofs.Ythpmehhfhngnbaa
open Go.RowKit Go.ChangeShapes

end Go.Proofs.Ythpmehhfhngnbaa

