/- How an array argument of the laws is opened: eight bytes. -/
import Derived.Test.YtleoohplnkdbdabCjOpen
import Derived.Test.YtleoohplnkdbdabCjQA
namespace Go.Proofs.Ytleoohplnkdbdab
open Go.ChangeShapes Go.WideShapes Go.ChangeAt Go.RowKit Go.Joins

theorem cellsByte : Try.prog.cellsOf 5 = 1 := by kernel_rfl
theorem cellsArray : Try.prog.cellsOf 53 = 8 := by kernel_rfl

theorem byte_wf {x : Int} (h : (Lit.int .u8 x).wf = true) : 0 ≤ x ∧ x < 256 := by
 simp [Lit.wf, IntKind.min, IntKind.max, IntKind.bits, IntKind.signed] at h
 omega

end Go.Proofs.Ytleoohplnkdbdab

