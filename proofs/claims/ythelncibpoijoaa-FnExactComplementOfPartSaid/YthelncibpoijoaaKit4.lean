/- Predicates on memory, continued: local variables of one cell. No function of the program is spoken of. -/
import Derived.Test.YthelncibpoijoaaKit3
namespace Go.Proofs.Ythelncibpoijoaa
open Go.RowKit

/-- The block g holds the cell u. -/
def At1 (w : World) (g : Nat) (u : Value) : Prop := g < w.heap.size ∧ w.cell? ⟨g, 0, none⟩ = some u ∧ w.frozen? ⟨g, 0, none⟩ = false

theorem At1.place (w : World) (u : Value) (t : TypeId) (g : Nat) (hg : w.heap.size = g) : At1 (w.alloc (.cells #[u] t)) g u := by
  subst hg
  exact ⟨by simp, by simp, by simp⟩

theorem At1.heap {w w' : World} {g : Nat} {u : Value} (h : At1 w g u) (hs : w.heap.size ≤ w'.heap.size) (hb : w'.heap[g]? = w.heap[g]?) : At1 w' g u :=
  ⟨Nat.lt_of_lt_of_le h.1 hs, (World.cell?_of_block (w := w) (a := ⟨g, 0, none⟩) hb).trans h.2.1, (World.frozen?_of_block (w := w) (a := ⟨g, 0, none⟩) hb).trans h.2.2⟩

theorem At1.below {w w' : World} {g : Nat} {u : Value} (h : At1 w g u) (k : Below w.heap.size w w') : At1 w' g u := h.heap k.size (k.block g h.1)
theorem At1.alloc {w : World} {g : Nat} {u : Value} (h : At1 w g u) (o : Obj) : At1 (w.alloc o) g u := h.below ((Below.refl _ _).alloc (Nat.le_refl _) o)
theorem At1.drew {w : World} {g : Nat} {u : Value} (h : At1 w g u) : At1 w.drew g u := h
theorem At1.wrote {lo hi : Nat} {w w' : World} {g : Nat} {u : Value} (h : At1 w g u) (k : Wrote lo hi w w') (hg : g < lo ∨ hi ≤ g) : At1 w' g u := h.heap k.size (k.block g h.1 hg)

end Go.Proofs.Ythelncibpoijoaa
