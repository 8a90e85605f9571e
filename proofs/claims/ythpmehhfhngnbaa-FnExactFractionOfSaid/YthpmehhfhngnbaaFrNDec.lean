/- Decycling: the model and the program. -/
import Derived.Test.YthpmehhfhngnbaaFrSDec
namespace Go.Proofs.Ythpmehhfhngnbaa
open Go.RowKit Go.ChangeShapes

end Go.Proofs.Ythpmehhfhngnbaa

