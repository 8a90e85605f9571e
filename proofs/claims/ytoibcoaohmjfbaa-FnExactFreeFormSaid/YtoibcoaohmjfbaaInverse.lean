/- The inverse of a word: the model's answer. -/
import Derived.Test.YtoibcoaohmjfbaaIs2
import Derived.Test.YtoibcoaohmjfbaaQA
namespace Go.Proofs.Ytoibcoaohmjfbaa
open Go.RowKit Go.ChangeShapes

end Go.Proofs.Ytoibcoaohmjfbaa
