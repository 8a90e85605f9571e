/- Predicates on memory, continued: what is written outside of an interval stays. No function of the program is spoken of. -/
import Derived.Test.YtmiihjhhbjpalabKit5
namespace Go.Proofs.Ytmiihjhhbjpalab
open Go.RowKit

theorem wrote_refl (lo hi : Nat) (w : World) : Wrote lo hi w w := ⟨rfl, rfl, rfl, Nat.le_refl _, fun _ _ _ => rfl⟩

theorem wrote_step {lo hi : Nat} {w wr w' : World} (h : Wrote lo hi w wr) (k : Below w.heap.size wr w') : Wrote lo hi w w' :=
  ⟨k.os.trans h.os, k.tape.trans h.tape, k.output.trans h.output, Nat.le_trans h.size k.size, fun j hj hd => (k.block j hj).trans (h.block j hj hd)⟩

theorem wrote_setCell {lo hi : Nat} {w wr : World} (h : Wrote lo hi w wr) {p : Addr} (h1 : lo ≤ p.block) (h2 : p.block < hi) (u : Value) : Wrote lo hi w (wr.setCell p u) :=
  ⟨h.os, h.tape, h.output, by simpa [World.setCell] using h.size, fun j hj hd => (Below.heap_setCell _ _ _ _ (by omega)).trans (h.block j hj hd)⟩

theorem OwnIn.readsIn {lo hi : Nat} {w : World} {a : Option Addr} {n cap : Nat} {xs : List Int} (h : OwnIn lo hi w a n cap xs) : ReadsIn lo hi w a n xs := by
  refine ⟨h.reads, ?_⟩
  rcases Nat.eq_zero_or_pos n with h0 | h0
  · exact .inl h0
  · obtain ⟨g, ha, h1, _⟩ := h.1.block h0
    exact .inr ⟨g, 0, ha, h1, h.2 _ ha⟩

end Go.Proofs.Ytmiihjhhbjpalab
