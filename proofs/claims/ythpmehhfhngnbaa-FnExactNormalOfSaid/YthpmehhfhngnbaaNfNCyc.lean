/- Cycling: the model and the program. -/
import Derived.Test.YthpmehhfhngnbaaNfSCyc
namespace Go.Proofs.Ythpmehhfhngnbaa
open Go.RowKit Go.ChangeShapes

end Go.Proofs.Ythpmehhfhngnbaa

