/- ForgetStrand: the model and the program. -/
import Derived.Test.YtehcbamfendbaaaSeMg17
import Derived.Test.YtehcbamfendbaaaSeIs2
import Derived.BigQuiet
import Derived.Deep.QuietTactic
import Derived.Test.YtehcbamfendbaaaSeStrands
namespace Go.Proofs.Ytehcbamfendbaaa
open Go.RowKit Go.ChangeShapes

theorem idx_max {n l : Int} (h : Lett n l) (hn : n ≤ 1000) : IntKind.i64.wrap (-l) = -l ∧ (if l < -l then -l else l) = idx l ∧ max l (-l) = idx l := by
 have hs := h.small hn
 refine ⟨IntWalk.i64_in _ (by omega), ?_, ?_⟩
 ·rcases idx_cases l with ⟨g, e, -⟩ | ⟨g, e, -⟩ <;> rw [e] <;> split <;> omega
 ·rcases idx_cases l with ⟨g, e, -⟩ | ⟨g, e, -⟩ <;> rw [e] <;> omega

end Go.Proofs.Ytehcbamfendbaaa

