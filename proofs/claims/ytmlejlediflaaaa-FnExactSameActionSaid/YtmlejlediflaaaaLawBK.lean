/- The two cells of a braid's box, for the laws' walks. -/
import Derived.Test.YtmlejlediflaaaaQA
namespace Go.Proofs.Ytmlejlediflaaaa
open Go.RowKit

theorem At2.cells {w : World} {g : Nat} {u v : Value} (h : At2 w g u v) : w.cell? ⟨g, 0, none⟩ = some u ∧ w.cell? ⟨g, 1, none⟩ = some v ∧ True := ⟨h.2.1, h.2.2.1, trivial⟩

end Go.Proofs.Ytmlejlediflaaaa
