/- Simple braids: the program's rows: nothing, the half turn, one after the other, the way back. -/
import Derived.Test.YtmlejlediflaaaaQA
namespace Go.Proofs.Ytmlejlediflaaaa
open Go.RowKit Go.ChangeShapes

end Go.Proofs.Ytmlejlediflaaaa
