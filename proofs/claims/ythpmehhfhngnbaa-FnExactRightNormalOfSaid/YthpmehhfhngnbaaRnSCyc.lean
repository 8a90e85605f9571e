/- The model: cycling. -/
import Derived.Test.YthpmehhfhngnbaaRnNConj
import Derived.Test.YthpmehhfhngnbaaRnMB
import Derived.Test.YthpmehhfhngnbaaRnMC
import Derived.Test.YthpmehhfhngnbaaRnICyc
namespace Go.Proofs.Ythpmehhfhngnbaa
open Go.RowKit Go.ChangeShapes

theorem OwnA.cap_le {B : Nat} {w : World} {a : Option Addr} {n cap : Nat} {rs : List (List Int)} (ho : OwnA B w a n cap rs) : n ≤ cap := by
 rcases ho.2.2 with ⟨hv, h0⟩ | ⟨g, c', cur, hv, _, _, h1, _⟩
 ·omega
 ·simp only [Value.slice.injEq] at hv
  omega

end Go.Proofs.Ythpmehhfhngnbaa

