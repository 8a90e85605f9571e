/- The powers of a braid: plain. -/
import Derived.Test.YtckdhnpnkgmikaaRep
namespace Go.Proofs.Ytckdhnpnkgmikaa
open Go.RowKit Go.ChangeShapes

/-- The power of a braid, and the code. -/
def mPower (s : Int) (xs : List Int) (k : Int) : Int × List Int × Int :=
  if isBraid s xs = true then
    (if -100 ≤ k ∧ k ≤ 100 then (if k.natAbs * xs.length ≤ 200 then (s, rep k.natAbs (if k < 0 then inverse xs else xs), 0) else (0, [], 3)) else (0, [], 2))
  else (0, [], 1)

theorem mul_bounds (kn n : Nat) (h1 : kn ≤ 100) (h2 : n ≤ 200) : 0 ≤ (kn : Int) * (n : Int) ∧ (kn : Int) * (n : Int) ≤ 20000 := by
  have := Nat.mul_le_mul h1 h2
  have e : ((kn * n : Nat) : Int) = (kn : Int) * (n : Int) := Int.natCast_mul kn n
  omega

theorem mul_cast (kn n : Nat) : (kn : Int) * (n : Int) = ((kn * n : Nat) : Int) := (Int.natCast_mul kn n).symm

end Go.Proofs.Ytckdhnpnkgmikaa
