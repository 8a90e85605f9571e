/- Plain: the states of the loop for fractions. -/
import Derived.Test.YtleoohplnkdbdaaBoSCom
namespace Go.Proofs.Ytleoohplnkdbdaa

/-- How many half turns are behind. -/
def negK (p : Int) : Nat := (max (-p) 0).toNat

/-- How many steps there are. -/
def endF (p : Int) (l : List (List Int)) : Nat := min l.length (negK p)

end Go.Proofs.Ytleoohplnkdbdaa

