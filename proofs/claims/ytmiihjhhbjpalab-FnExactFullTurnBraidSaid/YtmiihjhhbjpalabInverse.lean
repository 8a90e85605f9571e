/- The inverse of a word: the model's answer. -/
import Derived.Test.YtmiihjhhbjpalabIs2
import Derived.Test.YtmiihjhhbjpalabBase4
import Derived.Test.YtmiihjhhbjpalabKit3
namespace Go.Proofs.Ytmiihjhhbjpalab
open Go.RowKit Go.ChangeShapes

end Go.Proofs.Ytmiihjhhbjpalab
