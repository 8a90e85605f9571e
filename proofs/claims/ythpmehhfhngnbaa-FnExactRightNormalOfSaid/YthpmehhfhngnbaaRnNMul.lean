/- Products of normal forms: the model and the program. -/
import Derived.Test.YthpmehhfhngnbaaRnINorm2
import Derived.Test.YthpmehhfhngnbaaRnMC
import Derived.Test.YthpmehhfhngnbaaRnMA
import Derived.BigQuiet
import Derived.IntWalk
import Derived.Test.YthpmehhfhngnbaaRnKit15
import Derived.Test.YthpmehhfhngnbaaRnSMk0
import Derived.Test.YthpmehhfhngnbaaRnITms
import Derived.Test.YthpmehhfhngnbaaRnSFit
namespace Go.Proofs.Ythpmehhfhngnbaa
open Go.RowKit Go.ChangeShapes

/-- What the program hands back: a normal form, its factors the call's own, and a code. -/
def RetNCS (w : World) (s p : Int) (rs : List (List Int)) (c : Int) (e : Ending) (w' : World) : Prop :=
 ∃ a n cap, e = .returned (.tuple #[.agg #[.int .i64 s, .int .i64 p, .slice a n cap], .int .i64 c]) ∧ n ≤ 1048576 ∧ OwnS w.heap.size w' a n rs ∧ Below w.heap.size w w'

end Go.Proofs.Ythpmehhfhngnbaa

