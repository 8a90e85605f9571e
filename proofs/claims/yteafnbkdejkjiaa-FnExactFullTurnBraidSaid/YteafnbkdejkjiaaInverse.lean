/- The inverse of a word: the model's answer. -/
import Derived.Test.YteafnbkdejkjiaaIs2
import Derived.Test.YteafnbkdejkjiaaBase4
import Derived.Test.YteafnbkdejkjiaaKit3
namespace Go.Proofs.Yteafnbkdejkjiaa
open Go.RowKit Go.ChangeShapes

end Go.Proofs.Yteafnbkdejkjiaa
