/- The model: cycling. -/
import Derived.Test.YteffndmifogicaaNfINorm2
import Derived.Test.YteffndmifogicaaNfMC
import Derived.Test.YteffndmifogicaaNfMA
import Derived.BigQuiet
import Derived.IntWalk
import Derived.Test.YteffndmifogicaaNfKit15
import Derived.Test.YteffndmifogicaaNfSMk0
import Derived.Test.YteffndmifogicaaNfITms
import Derived.Test.YteffndmifogicaaNfSInv
import Derived.Test.YteffndmifogicaaNfMB
import Derived.Test.YteffndmifogicaaNfICyc
namespace Go.Proofs.Yteffndmifogicaa
open Go.RowKit Go.ChangeShapes

theorem OwnA.cap_le {B : Nat} {w : World} {a : Option Addr} {n cap : Nat} {rs : List (List Int)} (ho : OwnA B w a n cap rs) : n ≤ cap := by
 rcases ho.2.2 with ⟨hv, h0⟩ | ⟨g, c', cur, hv, _, _, h1, _⟩
 ·omega
 ·simp only [Value.slice.injEq] at hv
  omega

end Go.Proofs.Yteffndmifogicaa

