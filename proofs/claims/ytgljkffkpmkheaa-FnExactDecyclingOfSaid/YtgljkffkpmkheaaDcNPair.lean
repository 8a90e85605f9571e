/- Two arguments that have to be normal forms of equally many strands. -/
import Derived.Test.YtgljkffkpmkheaaDcSNorm
import Derived.Test.YtgljkffkpmkheaaDcINorm2
import Derived.Test.YtgljkffkpmkheaaDcKit15
namespace Go.Proofs.Ytgljkffkpmkheaa
open Go.RowKit Go.ChangeShapes

end Go.Proofs.Ytgljkffkpmkheaa

