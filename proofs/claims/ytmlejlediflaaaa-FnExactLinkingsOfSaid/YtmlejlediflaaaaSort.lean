/- The library's sort of at most eight bytes, by its text: exchanges of neighbours. -/
import Derived.Test.YtmlejlediflaaaaQA
import Derived.Test.YtmlejlediflaaaaProg
import Derived.Deep.RegionHeld3
import Derived.IntWalk
namespace Go.Proofs.Ytmlejlediflaaaa
open Go.RowKit Go.ChangeShapes

/-- What sorting keeps. -/
def SortRel (n : Nat) (l m : List Int) : Prop := m.length = 8 ∧ (Sim n m ↔ Sim n l)

theorem wrote_reflS (lo hi : Nat) (w : World) : Wrote lo hi w w := ⟨rfl, rfl, rfl, Nat.le_refl _, fun _ _ _ => rfl⟩
theorem Wrote.trans {lo hi : Nat} {w w1 w2 : World} (h : Wrote lo hi w w1) (k : Wrote lo hi w1 w2) : Wrote lo hi w w2 :=
  ⟨k.os.trans h.os, k.tape.trans h.tape, k.output.trans h.output, Nat.le_trans h.size k.size, fun j hj hd => (k.block j (Nat.lt_of_lt_of_le hj h.size) hd).trans (h.block j hj hd)⟩
theorem Wrote.set {lo hi : Nat} {w w1 : World} (h : Wrote lo hi w w1) {p : Addr} (h1 : lo ≤ p.block) (h2 : p.block < hi) (x : Value) : Wrote lo hi w (w1.setCell p x) :=
  h.trans ⟨rfl, rfl, rfl, by simp [World.setCell], fun k _ hd => Below.heap_setCell _ _ _ _ (by omega)⟩
theorem Wrote.drawn {lo hi : Nat} {w w1 w2 : World} (h : Wrote lo hi w w1) (k : Below w1.heap.size w1 w2) : Wrote lo hi w w2 := h.trans (below_wrote k)

end Go.Proofs.Ytmlejlediflaaaa
