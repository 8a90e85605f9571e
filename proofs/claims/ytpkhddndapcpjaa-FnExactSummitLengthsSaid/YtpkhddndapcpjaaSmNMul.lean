/- Products of normal forms: the model and the program. -/
import Derived.Test.YtpkhddndapcpjaaSmSNorm
import Derived.Test.YtpkhddndapcpjaaSmINorm2
import Derived.Test.YtpkhddndapcpjaaSmKit15
import Derived.Test.YtpkhddndapcpjaaSmSMk0
import Derived.Test.YtpkhddndapcpjaaSmSTrd
import Derived.Test.YtpkhddndapcpjaaSmITms
namespace Go.Proofs.Ytpkhddndapcpjaa
open Go.RowKit Go.ChangeShapes

theorem OwnS.apartHi {B g : Nat} {w : World} {a : Option Addr} {n : Nat} {rs : List (List Int)} (h : OwnS B w a n rs) (hg : w.heap.size ≤ g) : n = 0 ∨ ∀ x, a = some x → x.block ≠ g := by
 rcases h.2.2 with h0 | ⟨g2, off, rfl, _, hB, _⟩
 ·exact .inl h0
 ·exact .inr fun x hx => by cases hx; simp; omega

end Go.Proofs.Ytpkhddndapcpjaa

