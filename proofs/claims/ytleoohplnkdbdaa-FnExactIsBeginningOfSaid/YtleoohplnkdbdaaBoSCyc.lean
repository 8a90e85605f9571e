/- The model: cycling. -/
import Derived.Test.YtleoohplnkdbdaaBoNMul
import Derived.Test.YtleoohplnkdbdaaBoSInv
import Derived.Test.YtleoohplnkdbdaaBoIInv
import Derived.Test.YtleoohplnkdbdaaBoPB
import Derived.Test.YtleoohplnkdbdaaBoSB
import Derived.Test.YtleoohplnkdbdaaBoICyc
namespace Go.Proofs.Ytleoohplnkdbdaa
open Go.RowKit Go.ChangeShapes

theorem l02Turn_turnR (n : Nat) (s : List Int) (hs : Sim n s) (w : World) :
  Calls Try.prog 85 #[arr8 .u8 s, .int .i64 n] w (RetArr .u8 w (turnR n s)) := l02Turn_any n s hs w

end Go.Proofs.Ytleoohplnkdbdaa

