/- Cycling: the model and the program. -/
import Derived.Test.YthpmehhfhngnbaaFrSCyc
namespace Go.Proofs.Ythpmehhfhngnbaa
open Go.RowKit Go.ChangeShapes

end Go.Proofs.Ythpmehhfhngnbaa

