/- The program: the inverse of a normal form. -/
import Derived.Test.YtleoohplnkdbdabSlITrd
import Derived.Test.YtleoohplnkdbdabSlKit15
import Derived.Test.YtleoohplnkdbdabSlSMk0
import Derived.Test.YtleoohplnkdbdabSlSB
namespace Go.Proofs.Ytleoohplnkdbdab
open Go.RowKit Go.ChangeShapes

theorem complement_com (n : Nat) (s : List Int) (hs : Sim n s) (w : World) :
  Calls Try.prog 85 #[arr8 .u8 s, .int .i64 n] w (RetArr .u8 w (comR n s)) := complement_any n s hs w

end Go.Proofs.Ytleoohplnkdbdab

