/- The products of braids: the model's answer. -/
import Derived.Test.YteafnbkdejkjiaaRepC
import Derived.Test.YteafnbkdejkjiaaStepA
namespace Go.Proofs.Yteafnbkdejkjiaa
open Go.RowKit Go.ChangeShapes

/-- The product of two braids, and the code. -/
def mProduct (s : Int) (xs : List Int) (t : Int) (ys : List Int) : Int × List Int × Int :=
  if isBraid s xs = true ∧ isBraid t ys = true then (if s = t then (if xs.length + ys.length ≤ 200 then (s, xs ++ ys, 0) else (0, [], 3)) else (0, [], 2)) else (0, [], 1)

end Go.Proofs.Yteafnbkdejkjiaa
