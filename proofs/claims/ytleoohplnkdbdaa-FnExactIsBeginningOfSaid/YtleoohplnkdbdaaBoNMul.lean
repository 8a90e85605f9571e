/- Products of normal forms: the model and the program. -/
import Derived.Test.YtleoohplnkdbdaaBoNPair
import Derived.Test.YtleoohplnkdbdaaBoSMk0
import Derived.Test.YtleoohplnkdbdaaBoKit15
import Derived.Test.YtleoohplnkdbdaaBoSTrd
import Derived.Test.YtleoohplnkdbdaaBoITms
import Derived.Test.YtleoohplnkdbdaaBoSNorm
namespace Go.Proofs.Ytleoohplnkdbdaa
open Go.RowKit Go.ChangeShapes

theorem pairC_ok {s p t q : Int} {rs ts : List (List Int)} (h : pairC s p rs t q ts = 0) : normB s p rs = true ∧ normB t q ts = true ∧ s = t := by
 unfold pairC at h
 split at h
 ·rename_i h1
  split at h
  ·exact ⟨h1.1, h1.2, by assumption⟩
  ·cases h
 ·cases h

end Go.Proofs.Ytleoohplnkdbdaa

