/- Products of normal forms: the model and the program. -/
import Derived.Test.YtleoohplnkdbdabSlSNorm
import Derived.Test.YtleoohplnkdbdabSlINorm2
import Derived.Test.YtleoohplnkdbdabSlKit15
import Derived.Test.YtleoohplnkdbdabSlSMk0
import Derived.Test.YtleoohplnkdbdabSlSTrd
import Derived.Test.YtleoohplnkdbdabSlITms
import Derived.Test.YtleoohplnkdbdabSlSFit
import Derived.Test.YtleoohplnkdbdabSlIFit
namespace Go.Proofs.Ytleoohplnkdbdab
open Go.RowKit Go.ChangeShapes

/-- What the program hands back: a normal form, its factors the call's own, and a code. -/
def RetNCS (w : World) (s p : Int) (rs : List (List Int)) (c : Int) (e : Ending) (w' : World) : Prop :=
 ∃ a n cap, e = .returned (.tuple #[.agg #[.int .i64 s, .int .i64 p, .slice a n cap], .int .i64 c]) ∧ n ≤ 1048576 ∧ OwnS w.heap.size w' a n rs ∧ Below w.heap.size w w'

end Go.Proofs.Ytleoohplnkdbdab

