/- Plain: sliding. -/
import Derived.Test.YthpmehhfhngnbaaIbDecP
namespace Go.Proofs.Ythpmehhfhngnbaa

/-- What is left behind a simple braid. -/
def lessN (m : Nat) (p : Int) (l : List (List Int)) (s : List Int) : Int × List (List Int) := mkN m (p - 1) (turnK m p (leftR m s) :: l)

end Go.Proofs.Ythpmehhfhngnbaa

