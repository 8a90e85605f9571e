/- Products of normal forms: the model and the program. -/
import Derived.Test.YtleoohplnkdbdabCjNPair
import Derived.Test.YtleoohplnkdbdabCjSPro
import Derived.Test.YtleoohplnkdbdabCjITms
import Derived.Test.YtleoohplnkdbdabCjSFit
import Derived.Test.YtleoohplnkdbdabCjIFit
namespace Go.Proofs.Ytleoohplnkdbdab
open Go.RowKit Go.ChangeShapes

theorem pairC_ok {s p t q : Int} {rs ts : List (List Int)} (h : pairC s p rs t q ts = 0) : normB s p rs = true ∧ normB t q ts = true ∧ s = t := by
 unfold pairC at h
 split at h
 ·rename_i h1
  split at h
  ·exact ⟨h1.1, h1.2, by assumption⟩
  ·cases h
 ·cases h

/-- What the program hands back: a normal form, its factors the call's own, and a code. -/
def RetNCS (w : World) (s p : Int) (rs : List (List Int)) (c : Int) (e : Ending) (w' : World) : Prop :=
 ∃ a n cap, e = .returned (.tuple #[.agg #[.int .i64 s, .int .i64 p, .slice a n cap], .int .i64 c]) ∧ n ≤ 1048576 ∧ OwnS w.heap.size w' a n rs ∧ Below w.heap.size w w'

theorem OwnS.apartHi {B g : Nat} {w : World} {a : Option Addr} {n : Nat} {rs : List (List Int)} (h : OwnS B w a n rs) (hg : w.heap.size ≤ g) : n = 0 ∨ ∀ x, a = some x → x.block ≠ g := by
 rcases h.2.2 with h0 | ⟨g2, off, rfl, _, hB, _⟩
 ·exact .inl h0
 ·exact .inr fun x hx => by cases hx; simp; omega

end Go.Proofs.Ytleoohplnkdbdab

