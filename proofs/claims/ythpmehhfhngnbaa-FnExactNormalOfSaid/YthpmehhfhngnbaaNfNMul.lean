/- Products of normal forms: the model and the program. -/
import Derived.Test.YthpmehhfhngnbaaNfNPair
import Derived.Test.YthpmehhfhngnbaaNfSPro
import Derived.Test.YthpmehhfhngnbaaNfITms
import Derived.Test.YthpmehhfhngnbaaNfSFit
import Derived.Test.YthpmehhfhngnbaaNfIFit
namespace Go.Proofs.Ythpmehhfhngnbaa
open Go.RowKit Go.ChangeShapes

/-- What the program hands back: a normal form, its factors the call's own, and a code. -/
def RetNCS (w : World) (s p : Int) (rs : List (List Int)) (c : Int) (e : Ending) (w' : World) : Prop :=
 ∃ a n cap, e = .returned (.tuple #[.agg #[.int .i64 s, .int .i64 p, .slice a n cap], .int .i64 c]) ∧ n ≤ 1048576 ∧ OwnS w.heap.size w' a n rs ∧ Below w.heap.size w w'

end Go.Proofs.Ythpmehhfhngnbaa

