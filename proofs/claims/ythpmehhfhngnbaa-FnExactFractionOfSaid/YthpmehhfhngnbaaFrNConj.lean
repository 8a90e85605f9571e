/- Conjugates of normal forms: the model and the program. -/
import Derived.Test.YthpmehhfhngnbaaFrNMul
import Derived.Test.YthpmehhfhngnbaaFrSInv
import Derived.Test.YthpmehhfhngnbaaFrIInv
namespace Go.Proofs.Ythpmehhfhngnbaa
open Go.RowKit Go.ChangeShapes

end Go.Proofs.Ythpmehhfhngnbaa

