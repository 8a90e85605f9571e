/- The model: simple braids turned. -/
import Derived.Test.YtpkhddndapcpjaaSmSB
import Derived.Test.YtpkhddndapcpjaaSmPB
import Derived.Test.YtpkhddndapcpjaaSmKK
import Derived.Test.YtpkhddndapcpjaaSmBB
import Derived.Deep.LoopGhost
namespace Go.Proofs.Ytpkhddndapcpjaa
open Go.RowKit Go.ChangeShapes

/-- The slice of rows that a call hands back. -/
def RetRows (w : World) (rs : List (List Int)) (e : Ending) (w' : World) : Prop := ∃ a n cap, e = .returned (.slice a n cap) ∧ OwnA w.heap.size w' a n cap rs ∧ Below w.heap.size w w'

end Go.Proofs.Ytpkhddndapcpjaa

