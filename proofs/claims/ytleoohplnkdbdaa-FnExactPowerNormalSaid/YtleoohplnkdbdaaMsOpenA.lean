/- How an array argument of the laws is opened: eight bytes. -/
import Derived.Test.YtleoohplnkdbdaaMsOpen
import Derived.Test.YtleoohplnkdbdaaMsQA
namespace Go.Proofs.Ytleoohplnkdbdaa
open Go.ChangeShapes Go.WideShapes Go.ChangeAt Go.RowKit Go.Joins

theorem cellsByte : Try.prog.cellsOf 5 = 1 := by kernel_rfl
theorem cellsArray : Try.prog.cellsOf 76 = 8 := by kernel_rfl

theorem byte_wf {x : Int} (h : (Lit.int .u8 x).wf = true) : 0 ≤ x ∧ x < 256 := by
 simp [Lit.wf, IntKind.min, IntKind.max, IntKind.bits, IntKind.signed] at h
 omega

end Go.Proofs.Ytleoohplnkdbdaa

