/- The model: are both rows simple braids? -/
import Derived.Test.YtkedkleddpnanaaSIs
import Derived.Test.YtkedkleddpnanaaIClo
namespace Go.Proofs.Ytkedkleddpnanaa
open Go.RowKit Go.ChangeShapes

end Go.Proofs.Ytkedkleddpnanaa
