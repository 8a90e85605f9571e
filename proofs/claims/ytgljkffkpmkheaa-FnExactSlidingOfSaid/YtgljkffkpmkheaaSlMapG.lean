/- WordOfSimple: the program. -/
import Derived.Test.YtgljkffkpmkheaaSlMD
import Derived.Test.YtgljkffkpmkheaaSlMC
namespace Go.Proofs.Ytgljkffkpmkheaa
open Go.RowKit Go.ChangeShapes
open Go.ChangeMaps (setBlock)

end Go.Proofs.Ytgljkffkpmkheaa

