/- The model: the least numbers of the blocks of a row. -/
import Derived.Test.YtehcbamfendbaaaSIs
import Derived.Test.YtehcbamfendbaaaQA
import Derived.Test.YtehcbamfendbaaaQB
import Derived.Deep.LoopGhost
namespace Go.Proofs.Ytehcbamfendbaaa
open Go.RowKit Go.ChangeShapes

theorem Bool8.alloc {w : World} {g : Nat} {f : Nat → Bool} (h : Bool8 w g f) (o : Obj) : Bool8 (w.alloc o) g f :=
  have b := (Below.refl w.heap.size w).alloc (Nat.le_refl _) o
  ⟨Nat.lt_of_lt_of_le h.lt b.size, fun j hj => (World.cell?_of_block (w := w) (a := ⟨g, j, none⟩) (b.block g h.lt)).trans (h.cell j hj), fun j hj => (World.frozen?_of_block (w := w) (a := ⟨g, j, none⟩) (b.block g h.lt)).trans (h.free j hj)⟩

theorem Bool8.setCell {w : World} {g : Nat} {f : Nat → Bool} (h : Bool8 w g f) {p : Addr} (hp : p.block ≠ g) (x : Value) : Bool8 (w.setCell p x) g f :=
  have b : (w.setCell p x).heap[g]? = w.heap[g]? := Below.heap_setCell _ _ _ _ (fun e => hp e.symm)
  ⟨by simpa [World.setCell] using h.lt, fun j hj => (World.cell?_of_block (w := w) (a := ⟨g, j, none⟩) b).trans (h.cell j hj), fun j hj => (World.frozen?_of_block (w := w) (a := ⟨g, j, none⟩) b).trans (h.free j hj)⟩

end Go.Proofs.Ytehcbamfendbaaa
