/- The program: the meet of two simple braids. -/
import Derived.Test.YtleoohplnkdbdabSlMX
namespace Go.Proofs.Ytleoohplnkdbdab
open Go.RowKit Go.ChangeShapes

theorem meet_meetR (n : Nat) (a b : List Int) (sa : Sim n a) (sb : Sim n b) (w : World) :
  Calls Try.prog 105 #[arr8 .u8 a, arr8 .u8 b, .int .i64 n] w (RetArr .u8 w (meetR n a b)) := by
 by_cases h : a = b
 ·subst h
  exact meet_eq n a sa w
 ·exact meet_ne n a b sa sb h w

end Go.Proofs.Ytleoohplnkdbdab

