/- What a list of exchanges makes: the program. -/
import Derived.Test.YtkedkleddpnanaaExch
import Derived.Test.YtkedkleddpnanaaBase2
namespace Go.Proofs.Ytkedkleddpnanaa
open Go.RowKit Go.ChangeShapes

end Go.Proofs.Ytkedkleddpnanaa
