/- The program: cycling. -/
import Derived.Test.YtleoohplnkdbdaaBoNMul
import Derived.Test.YtleoohplnkdbdaaBoSInv
import Derived.Test.YtleoohplnkdbdaaBoIInv
import Derived.Test.YtleoohplnkdbdaaBoPB
namespace Go.Proofs.Ytleoohplnkdbdaa
open Go.RowKit Go.ChangeShapes

theorem ReadsA.tail {w : World} {b off n : Nat} {l : List (List Int)} (h : ReadsA w (some ⟨b, off, none⟩) (n + 1) l) (c : Nat) (hc : n ≤ c) : ReadsA w (if c = 0 then some ⟨b, off, none⟩ else some ⟨b, off + 8, none⟩) n (l.drop 1) := by
 obtain ⟨h2, h1, h3⟩ := h
 refine ⟨by rw [List.length_drop, h2]; omega, fun r hr => h1 r (List.mem_of_mem_drop hr), ?_⟩
 by_cases hz : n = 0
 ·exact .inl hz
 ·rw [if_neg (by omega)]
  rcases h3 with h3 | ⟨b2, o2, ha, hcl⟩
  ·omega
  ·cases ha
   refine .inr ⟨b, off + 8, rfl, fun j hj i hi => ?_⟩
   have h4 := hcl (j + 1) (by omega) i hi
   rw [show off + (j + 1) * 8 + i = off + 8 + j * 8 + i by omega] at h4
   rw [h4]
   have e1 : rowAt (l.drop 1) j = rowAt l (j + 1) := by simp [rowAt, List.getD]
   rw [e1]

end Go.Proofs.Ytleoohplnkdbdaa

