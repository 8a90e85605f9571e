/- The program: a normal form within the limits. -/
import Derived.Test.YthpmehhfhngnbaaFrSFit
namespace Go.Proofs.Ythpmehhfhngnbaa
open Go.RowKit Go.ChangeShapes

end Go.Proofs.Ythpmehhfhngnbaa

