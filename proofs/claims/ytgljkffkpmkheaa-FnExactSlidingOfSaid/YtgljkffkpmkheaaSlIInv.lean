/- The program: the inverse of a normal form. -/
import Derived.Test.YtgljkffkpmkheaaSlMC
import Derived.Test.YtgljkffkpmkheaaSlKit15
import Derived.Test.YtgljkffkpmkheaaSlSMk0
namespace Go.Proofs.Ytgljkffkpmkheaa
open Go.RowKit Go.ChangeShapes

theorem complement_com (n : Nat) (s : List Int) (hs : Sim n s) (w : World) :
  Calls Try.prog 131 #[arr8 .u8 s, .int .i64 n] w (RetArr .u8 w (comR n s)) := complement_any n s hs w

end Go.Proofs.Ytgljkffkpmkheaa

