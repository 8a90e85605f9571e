/- Products of normal forms: the model and the program. -/
import Derived.Test.YthpmehhfhngnbaaIbNPair
import Derived.Test.YthpmehhfhngnbaaIbSMk0
import Derived.Test.YthpmehhfhngnbaaIbKit15
import Derived.Test.YthpmehhfhngnbaaIbMC
import Derived.Test.YthpmehhfhngnbaaIbITms
import Derived.Test.YthpmehhfhngnbaaIbSNorm
namespace Go.Proofs.Ythpmehhfhngnbaa
open Go.RowKit Go.ChangeShapes

theorem pairC_ok {s p t q : Int} {rs ts : List (List Int)} (h : pairC s p rs t q ts = 0) : normB s p rs = true ∧ normB t q ts = true ∧ s = t := by
 unfold pairC at h
 split at h
 ·rename_i h1
  split at h
  ·exact ⟨h1.1, h1.2, by assumption⟩
  ·cases h
 ·cases h

end Go.Proofs.Ythpmehhfhngnbaa

