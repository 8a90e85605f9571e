/- Two arguments that have to be normal forms of equally many strands. -/
import Derived.Test.YtgljkffkpmkheaaSlSNorm
import Derived.Test.YtgljkffkpmkheaaSlINorm2
import Derived.Test.YtgljkffkpmkheaaSlKit15
namespace Go.Proofs.Ytgljkffkpmkheaa
open Go.RowKit Go.ChangeShapes

end Go.Proofs.Ytgljkffkpmkheaa

