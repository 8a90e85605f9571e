/- The normal form of a braid: the model. -/
import Derived.Test.YteffndmifogicaaNfSOf
import Derived.Test.YteffndmifogicaaNfINorm2
import Derived.Test.YteffndmifogicaaNfMC
import Derived.Test.YteffndmifogicaaNfMA
import Derived.BigQuiet
import Derived.IntWalk
import Derived.Test.YteffndmifogicaaNfKit15
import Derived.Test.YteffndmifogicaaNfSMk0
import Derived.Test.YteffndmifogicaaNfITms
import Derived.Test.YteffndmifogicaaNfSInv
namespace Go.Proofs.Yteffndmifogicaa
open Go.RowKit Go.ChangeShapes

theorem letters_of {m : Nat} {xs : List Int} (h : isBraid m xs = true) : 1 ≤ m ∧ m ≤ 8 ∧ xs.length ≤ 200 ∧ Letters m xs := by
 have h1 := (isBraid_iff _ _).1 h
 refine ⟨by omega, by omega, by omega, fun x hx => ?_⟩
 have h2 := h1.2.2.2 x hx
 omega

end Go.Proofs.Yteffndmifogicaa

