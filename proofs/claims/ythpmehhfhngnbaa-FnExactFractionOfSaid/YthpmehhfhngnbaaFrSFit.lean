/- The model and the program: a normal form within the limits. -/
import Derived.Test.YthpmehhfhngnbaaFrSMk0
import Derived.Test.YthpmehhfhngnbaaFrKit15
import Derived.Test.YthpmehhfhngnbaaFrSNorm
namespace Go.Proofs.Ythpmehhfhngnbaa
open Go.RowKit Go.ChangeShapes

end Go.Proofs.Ythpmehhfhngnbaa

