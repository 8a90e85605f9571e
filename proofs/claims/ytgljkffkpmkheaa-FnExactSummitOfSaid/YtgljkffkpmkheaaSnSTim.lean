/- The model: a normal form and one simple braid more, or its inverse. -/
import Derived.Test.YtgljkffkpmkheaaSnSMk0
import Derived.Test.YtgljkffkpmkheaaSnKit15
import Derived.Test.YtgljkffkpmkheaaSnMC
namespace Go.Proofs.Ytgljkffkpmkheaa
open Go.RowKit Go.ChangeShapes

end Go.Proofs.Ytgljkffkpmkheaa

