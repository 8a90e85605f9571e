/- Two lists of numbers are compared: the model, the library. -/
import Derived.Test.YtelmdfkcclhhjaaFw
import Derived.BigQuiet
namespace Go.Proofs.Ytelmdfkcclhhjaa
open Go.RowKit Go.ChangeShapes

end Go.Proofs.Ytelmdfkcclhhjaa
