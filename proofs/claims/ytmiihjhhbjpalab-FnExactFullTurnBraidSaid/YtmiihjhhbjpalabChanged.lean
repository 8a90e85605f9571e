/- Words whose letters are turned one by one by a function value. -/
import Derived.Test.YtmiihjhhbjpalabLetters
namespace Go.Proofs.Ytmiihjhhbjpalab
open Go.RowKit Go.ChangeShapes

theorem At2.grown {w w' : World} {g : Nat} {u v : Value} (h : At2 w g u v) (k : w.grownBy w' none) : At2 w' g u v := h.below (Below.ofGrown k)

end Go.Proofs.Ytmiihjhhbjpalab