/- The model: the product of two normal forms. -/
import Derived.Test.YtgljkffkpmkheaaSlSMk0
import Derived.Test.YtgljkffkpmkheaaSlKit15
import Derived.Test.YtgljkffkpmkheaaSlMC
namespace Go.Proofs.Ytgljkffkpmkheaa
open Go.RowKit Go.ChangeShapes

end Go.Proofs.Ytgljkffkpmkheaa

