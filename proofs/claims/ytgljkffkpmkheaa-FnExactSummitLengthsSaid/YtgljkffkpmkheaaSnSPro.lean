/- The model: the product of two normal forms. -/
import Derived.Test.YtgljkffkpmkheaaSnSMk0
import Derived.Test.YtgljkffkpmkheaaSnKit15
import Derived.Test.YtgljkffkpmkheaaSnMC
namespace Go.Proofs.Ytgljkffkpmkheaa
open Go.RowKit Go.ChangeShapes

end Go.Proofs.Ytgljkffkpmkheaa

