/- The model: a normal form and one simple braid more, or its inverse. -/
import Derived.Test.YtgljkffkpmkheaaDcSMk0
import Derived.Test.YtgljkffkpmkheaaDcKit15
import Derived.Test.YtgljkffkpmkheaaDcMC
namespace Go.Proofs.Ytgljkffkpmkheaa
open Go.RowKit Go.ChangeShapes

end Go.Proofs.Ytgljkffkpmkheaa

