/- The fraction of a normal form: the model. -/
import Derived.Test.YthpmehhfhngnbaaRnSCom
import Derived.Test.YthpmehhfhngnbaaRnNMul
namespace Go.Proofs.Ythpmehhfhngnbaa
open Go.RowKit Go.ChangeShapes

theorem OwnS.same {B : Nat} {w : World} {a : Option Addr} {n : Nat} {l l' : List (List Int)} (h : OwnS B w a n l) (k : ReadsA w a n l') : OwnS B w a n l' := by
 refine ⟨k.rows, k.len, ?_⟩
 rcases h.2.2 with h0 | ⟨g, off, rfl, hB, hg, _, hf⟩
 ·exact .inl h0
 ·rcases k.2.2 with h0 | ⟨g2, off2, e, hc⟩
  ·exact .inl h0
  ·cases e
   exact .inr ⟨g, off, rfl, hB, hg, hc, hf⟩

end Go.Proofs.Ythpmehhfhngnbaa

