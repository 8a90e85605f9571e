/- Products of normal forms: the model and the program. -/
import Derived.Test.YtpkhddndapcpjaaSuSNorm
import Derived.Test.YtpkhddndapcpjaaSuINorm2
import Derived.Test.YtpkhddndapcpjaaSuKit15
import Derived.Test.YtpkhddndapcpjaaSuSMk0
import Derived.Test.YtpkhddndapcpjaaSuSTrd
import Derived.Test.YtpkhddndapcpjaaSuITms
import Derived.Test.YtpkhddndapcpjaaSuSFit
import Derived.Test.YtpkhddndapcpjaaSuIFit
namespace Go.Proofs.Ytpkhddndapcpjaa
open Go.RowKit Go.ChangeShapes

/-- What the program hands back: a normal form, its factors the call's own, and a code. -/
def RetNCS (w : World) (s p : Int) (rs : List (List Int)) (c : Int) (e : Ending) (w' : World) : Prop :=
 ∃ a n cap, e = .returned (.tuple #[.agg #[.int .i64 s, .int .i64 p, .slice a n cap], .int .i64 c]) ∧ n ≤ 1048576 ∧ OwnS w.heap.size w' a n rs ∧ Below w.heap.size w w'

theorem OwnS.apartHi {B g : Nat} {w : World} {a : Option Addr} {n : Nat} {rs : List (List Int)} (h : OwnS B w a n rs) (hg : w.heap.size ≤ g) : n = 0 ∨ ∀ x, a = some x → x.block ≠ g := by
 rcases h.2.2 with h0 | ⟨g2, off, rfl, _, hB, _⟩
 ·exact .inl h0
 ·exact .inr fun x hx => by cases hx; simp; omega

end Go.Proofs.Ytpkhddndapcpjaa

