/- Cycling: the model and the program. -/
import Derived.Test.YtgljkffkpmkheaaSnSCyc
namespace Go.Proofs.Ytgljkffkpmkheaa
open Go.RowKit Go.ChangeShapes

end Go.Proofs.Ytgljkffkpmkheaa

