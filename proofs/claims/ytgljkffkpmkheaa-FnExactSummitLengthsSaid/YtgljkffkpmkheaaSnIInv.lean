/- The program: the inverse of a normal form. -/
import Derived.Test.YtgljkffkpmkheaaSnMC
import Derived.Test.YtgljkffkpmkheaaSnKit15
import Derived.Test.YtgljkffkpmkheaaSnSMk0
namespace Go.Proofs.Ytgljkffkpmkheaa
open Go.RowKit Go.ChangeShapes

end Go.Proofs.Ytgljkffkpmkheaa

