/- The program: a normal form with one simple braid behind it. -/
import Derived.Test.YtleoohplnkdbdabDeITrm
import Derived.Test.YtleoohplnkdbdabDeIWbh
import Derived.Test.YtleoohplnkdbdabDeIWgh
namespace Go.Proofs.Ytleoohplnkdbdab
open Go.RowKit Go.ChangeShapes

theorem weigh_both (n : Nat) (a x : List Int) (sa : Sim n a) (sx : Sim n x) (w : World) :
  Calls Try.prog 113 #[arr8 .u8 a, arr8 .u8 x, .int .i64 n] w (RetTwo w (both n a x).1 (both n a x).2) := by
 have h := weigh_any n a x sa sx w
 rw [(weighR_meet sa sx).1, (weighR_meet sa sx).2] at h
 exact h

end Go.Proofs.Ytleoohplnkdbdab

