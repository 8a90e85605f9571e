/- Colours: the exported functions, the model's and the program's. -/
import Derived.Test.YtelmdfkcclhhjaaColD
import Derived.Test.YtelmdfkcclhhjaaColI
import Derived.Test.YtelmdfkcclhhjaaSameI
namespace Go.Proofs.Ytelmdfkcclhhjaa
open Go.RowKit Go.ChangeShapes

theorem lets_of {s : Int} {ls cs : List Int} (h : isBraid s ls = true) (hc : (cs.length : Int) = s) (n : Nat) (hn : cs.length = n) : Lets ls n := by
  obtain ⟨h1, h2, _, h4⟩ := (isBraid_iff s ls).1 h
  intro l hl
  have := h4 l hl
  omega

end Go.Proofs.Ytelmdfkcclhhjaa
