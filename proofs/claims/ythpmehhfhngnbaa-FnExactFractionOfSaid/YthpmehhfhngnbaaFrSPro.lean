/- The model: the product of two normal forms. -/
import Derived.Test.YthpmehhfhngnbaaFrSMk0
import Derived.Test.YthpmehhfhngnbaaFrKit15
import Derived.Test.YthpmehhfhngnbaaFrMC
namespace Go.Proofs.Ythpmehhfhngnbaa
open Go.RowKit Go.ChangeShapes

end Go.Proofs.Ythpmehhfhngnbaa

