/- Two arguments that have to be normal forms of equally many strands. -/
import Derived.Test.YtgljkffkpmkheaaPcSNorm
import Derived.Test.YtgljkffkpmkheaaPcINorm2
import Derived.Test.YtgljkffkpmkheaaPcKit15
namespace Go.Proofs.Ytgljkffkpmkheaa
open Go.RowKit Go.ChangeShapes

end Go.Proofs.Ytgljkffkpmkheaa

