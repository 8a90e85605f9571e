/- How the arguments of the laws are opened: a braid that came in is a number of strands and a slice of numbers of int64. -/
import Derived.Test.YtleoohplnkdbdabRows
import Derived.Test.YtleoohplnkdbdabCjQA
import Derived.ProofKit
import Derived.OpenShut
import Derived.ShutString
import Derived.ChangeOld
import Derived.Below
import Derived.Lib.SmallJoins
namespace Go.Proofs.Ytleoohplnkdbdab
open Go.ChangeShapes Go.WideShapes Go.ChangeAt Go.RowKit Go.Joins

theorem own : ownKnob Try.prog.godebug = none := by kernel_rfl
theorem laidOut : laidOutB Try.prog = true := by kernel_rfl
end Go.Proofs.Ytleoohplnkdbdab

