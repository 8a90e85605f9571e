/- Two arguments that have to be normal forms of equally many strands. -/
import Derived.Test.YtgljkffkpmkheaaSnSNorm
import Derived.Test.YtgljkffkpmkheaaSnINorm2
import Derived.Test.YtgljkffkpmkheaaSnKit15
namespace Go.Proofs.Ytgljkffkpmkheaa
open Go.RowKit Go.ChangeShapes

end Go.Proofs.Ytgljkffkpmkheaa

