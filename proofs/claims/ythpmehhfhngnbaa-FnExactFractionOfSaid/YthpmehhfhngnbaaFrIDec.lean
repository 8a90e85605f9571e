/- The program: decycling. -/
import Derived.Test.YthpmehhfhngnbaaFrIBeh
import Derived.Test.YthpmehhfhngnbaaFrDecP
namespace Go.Proofs.Ythpmehhfhngnbaa
open Go.RowKit Go.ChangeShapes

end Go.Proofs.Ythpmehhfhngnbaa

