/- The model: simple braids turned. -/
import Derived.Test.YtleoohplnkdbdabDeTurnS
import Derived.Test.YtleoohplnkdbdabDePB
import Derived.Test.YtleoohplnkdbdabDeKK
import Derived.Test.YtleoohplnkdbdabDeBB
import Derived.Deep.LoopGhost
namespace Go.Proofs.Ytleoohplnkdbdab
open Go.RowKit Go.ChangeShapes

/-- The slice of rows that a call hands back. -/
def RetRows (w : World) (rs : List (List Int)) (e : Ending) (w' : World) : Prop := ∃ a n cap, e = .returned (.slice a n cap) ∧ OwnA w.heap.size w' a n cap rs ∧ Below w.heap.size w w'

end Go.Proofs.Ytleoohplnkdbdab

