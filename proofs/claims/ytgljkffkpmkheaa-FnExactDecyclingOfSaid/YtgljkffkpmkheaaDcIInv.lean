/- The program: the inverse of a normal form. -/
import Derived.Test.YtgljkffkpmkheaaDcMC
import Derived.Test.YtgljkffkpmkheaaDcKit15
import Derived.Test.YtgljkffkpmkheaaDcSMk0
namespace Go.Proofs.Ytgljkffkpmkheaa
open Go.RowKit Go.ChangeShapes

end Go.Proofs.Ytgljkffkpmkheaa

