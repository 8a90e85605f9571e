/- Positive normal forms, and lengths: the model and the program. -/
import Derived.Test.YtgljkffkpmkheaaNEq
import Derived.Test.YtgljkffkpmkheaaSNorm
import Derived.Test.YtgljkffkpmkheaaLawIsN
import Derived.Test.YtgljkffkpmkheaaKit3
namespace Go.Proofs.Ytgljkffkpmkheaa
open Go.RowKit Go.ChangeShapes

/-- Positive? -/
def mPos (s p : Int) (rs : List (List Int)) : Bool × Int := if normB s p rs = true then (decide (0 ≤ p), 0) else (false, 1)

/-- The lengths. -/
def mLens (s p : Int) (rs : List (List Int)) : List Int × Int := if normB s p rs = true then ([p, p + rs.length, rs.length], 0) else ([], 1)

end Go.Proofs.Ytgljkffkpmkheaa
