/- The model: simple braids turned. -/
import Derived.Test.YtleoohplnkdbdabSlSB
import Derived.Test.YtleoohplnkdbdabSlPB
import Derived.Test.YtleoohplnkdbdabSlKK
import Derived.Test.YtleoohplnkdbdabSlBB
import Derived.Deep.LoopGhost
namespace Go.Proofs.Ytleoohplnkdbdab
open Go.RowKit Go.ChangeShapes

/-- The slice of rows that a call hands back. -/
def RetRows (w : World) (rs : List (List Int)) (e : Ending) (w' : World) : Prop := ∃ a n cap, e = .returned (.slice a n cap) ∧ OwnA w.heap.size w' a n cap rs ∧ Below w.heap.size w w'

end Go.Proofs.Ytleoohplnkdbdab

