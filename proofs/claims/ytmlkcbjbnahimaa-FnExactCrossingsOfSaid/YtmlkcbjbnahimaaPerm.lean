/- The model's places where the strands end. -/
import Derived.Test.YtmlkcbjbnahimaaStrands
namespace Go.Proofs.Ytmlkcbjbnahimaa
open Go.RowKit Go.ChangeShapes

end Go.Proofs.Ytmlkcbjbnahimaa
