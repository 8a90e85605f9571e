/- Predicates on memory, continued: arrays of eight numbers beside a slice that grows. No function of the program is spoken of. -/
import Derived.Test.YthelncibpoijoaaKit7
namespace Go.Proofs.Ythelncibpoijoaa
open Go.RowKit Go.ChangeShapes

theorem OwnV.drawn {B : Nat} {w w1 : World} {v : Value} {n : Nat} {xs : List Int} (h : OwnV B w v n xs) (k : Below w.heap.size w w1) : OwnV B w1 v n xs := by
  obtain ⟨a, cap, rfl, ho⟩ := h.form
  exact ho.below k

theorem Row8.appended {B : Nat} {w w1 : World} {g : Nat} {k : IntKind} {l : List Int} {v : Value} {n : Nat} {xs : List Int} {o : Obj} (h : Row8 w g k l) (hB : g < B) (ho : OwnV B w v n xs) (hg : (w.alloc o).grownBy w1 v.ownBlock) : Row8 w1 g k l := by
  refine (h.alloc o).heap hg.size (hg.block g (h.alloc o).lt fun e => ?_)
  have := (World.ownsRow.lt ho g e.symm).1
  omega

theorem below_appended2 {B C : Nat} {w wr w1 : World} {v : Value} {n : Nat} {xs : List Int} {o : Obj} (hbl : Below B w wr) (hs : B ≤ wr.heap.size) (hc : B ≤ C) (ho : OwnV C wr v n xs) (hg : (wr.alloc o).grownBy w1 v.ownBlock) : Below B w w1 :=
  (hbl.alloc hs o).grown hg (by simp; omega) (fun k hk => Nat.le_trans hc (World.ownsRow.lt ho k hk).1)

end Go.Proofs.Ythelncibpoijoaa
