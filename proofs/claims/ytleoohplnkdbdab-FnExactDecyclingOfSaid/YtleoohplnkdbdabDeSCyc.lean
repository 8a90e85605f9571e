/- The model: cycling. -/
import Derived.Test.YtleoohplnkdbdabDeNConj
import Derived.Test.YtleoohplnkdbdabDePB
import Derived.Test.YtleoohplnkdbdabDeTurnS
import Derived.Test.YtleoohplnkdbdabDeICyc
namespace Go.Proofs.Ytleoohplnkdbdab
open Go.RowKit Go.ChangeShapes

theorem OwnA.cap_le {B : Nat} {w : World} {a : Option Addr} {n cap : Nat} {rs : List (List Int)} (ho : OwnA B w a n cap rs) : n ≤ cap := by
 rcases ho.2.2 with ⟨hv, h0⟩ | ⟨g, c', cur, hv, _, _, h1, _⟩
 ·omega
 ·simp only [Value.slice.injEq] at hv
  omega

theorem l02Turn_turnR (n : Nat) (s : List Int) (hs : Sim n s) (w : World) :
  Calls Try.prog 98 #[arr8 .u8 s, .int .i64 n] w (RetArr .u8 w (turnR n s)) := l02Turn_any n s hs w

end Go.Proofs.Ytleoohplnkdbdab

