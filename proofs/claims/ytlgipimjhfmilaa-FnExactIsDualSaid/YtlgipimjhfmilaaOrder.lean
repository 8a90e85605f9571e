/- The program's first order of strands. -/
import Derived.Test.YtlgipimjhfmilaaQA
import Derived.Test.YtlgipimjhfmilaaLetters
namespace Go.Proofs.Ytlgipimjhfmilaa
open Go.RowKit Go.ChangeShapes

/-- The order that has been written up to a place. -/
def upto (k : Nat) : List Int := (List.range k).map (fun (i : Nat) => (i : Int)) ++ List.replicate (8 - k) 0

theorem upto_step (k : Nat) (h : k < 8) : (upto k).set k (k : Int) = upto (k + 1) := startM_step k h

theorem upto_all : upto 8 = order8 := by decide

end Go.Proofs.Ytlgipimjhfmilaa
