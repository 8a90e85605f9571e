/- Words backwards. -/
import Derived.Test.YtmiihjhhbjpalabChanged
namespace Go.Proofs.Ytmiihjhhbjpalab
open Go.RowKit Go.ChangeShapes

theorem set_back (xs : List Int) (n k : Nat) (hl : xs.length = n) (h : k < n) :
    (List.replicate (n - k) (0 : Int) ++ (xs.take k).reverse).set (n - 1 - k) (xs.getD k 0) = List.replicate (n - (k + 1)) (0 : Int) ++ (xs.take (k + 1)).reverse := by
  rw [take_snoc xs k (by omega), List.reverse_append, show n - k = (n - (k + 1)) + 1 by omega, List.replicate_succ', List.append_assoc, List.set_append, if_neg (by simp; omega), List.length_replicate,
    show n - 1 - k - (n - (k + 1)) = 0 by omega]
  rfl

end Go.Proofs.Ytmiihjhhbjpalab