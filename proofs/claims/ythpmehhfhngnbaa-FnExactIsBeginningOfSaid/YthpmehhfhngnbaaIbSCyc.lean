/- The model: cycling. -/
import Derived.Test.YthpmehhfhngnbaaIbNMul
import Derived.Test.YthpmehhfhngnbaaIbSInv
import Derived.Test.YthpmehhfhngnbaaIbIInv
import Derived.Test.YthpmehhfhngnbaaIbMB
import Derived.Test.YthpmehhfhngnbaaIbMC
import Derived.Test.YthpmehhfhngnbaaIbICyc
namespace Go.Proofs.Ythpmehhfhngnbaa
open Go.RowKit Go.ChangeShapes

theorem l02Turn_turnR (n : Nat) (s : List Int) (hs : Sim n s) (w : World) :
  Calls Try.prog 139 #[arr8 .u8 s, .int .i64 n] w (RetArr .u8 w (turnR n s)) := l02Turn_any n s hs w

end Go.Proofs.Ythpmehhfhngnbaa

