/- Predicates on memory, continued: a local array of eight numbers. No function of the program is spoken of. -/
import Derived.Test.YthelncibpoijoaaKit4
import Derived.Test.YthelncibpoijoaaEight
namespace Go.Proofs.Ythelncibpoijoaa
open Go.RowKit

/-- The value of an array of eight numbers. -/
@[reducible] def arr8 (k : IntKind) (l : List Int) : Value :=
  .agg #[.int k (at8 l 0), .int k (at8 l 1), .int k (at8 l 2), .int k (at8 l 3), .int k (at8 l 4), .int k (at8 l 5), .int k (at8 l 6), .int k (at8 l 7)]

/-- The block g holds eight numbers. -/
structure Row8 (w : World) (g : Nat) (k : IntKind) (l : List Int) : Prop where
  lt : g < w.heap.size
  len : l.length = 8
  cell : ∀ j, j < 8 → w.cell? ⟨g, j, none⟩ = some (.int k (at8 l j))
  free : ∀ j, j < 8 → w.frozen? ⟨g, j, none⟩ = false

theorem Row8.place (w : World) (k : IntKind) (l : List Int) (t : TypeId) (g : Nat) (hg : w.heap.size = g) (hl : l.length = 8) :
    Row8 (w.alloc (.cells #[.int k (at8 l 0), .int k (at8 l 1), .int k (at8 l 2), .int k (at8 l 3), .int k (at8 l 4), .int k (at8 l 5), .int k (at8 l 6), .int k (at8 l 7)] t)) g k l := by
  subst hg
  refine ⟨by simp, hl, fun j hj => ?_, fun j hj => ?_⟩
  · have : j = 0 ∨ j = 1 ∨ j = 2 ∨ j = 3 ∨ j = 4 ∨ j = 5 ∨ j = 6 ∨ j = 7 := by omega
    rcases this with rfl | rfl | rfl | rfl | rfl | rfl | rfl | rfl <;> simp
  · simp

theorem Row8.zeros (w : World) (k : IntKind) (t : TypeId) (g : Nat) (hg : w.heap.size = g) :
    Row8 (w.alloc (.cells #[.int k 0, .int k 0, .int k 0, .int k 0, .int k 0, .int k 0, .int k 0, .int k 0] t)) g k [0, 0, 0, 0, 0, 0, 0, 0] :=
  Row8.place w k [0, 0, 0, 0, 0, 0, 0, 0] t g hg rfl

theorem Row8.heap {w w' : World} {g : Nat} {k : IntKind} {l : List Int} (h : Row8 w g k l) (hs : w.heap.size ≤ w'.heap.size) (hb : w'.heap[g]? = w.heap[g]?) : Row8 w' g k l :=
  ⟨Nat.lt_of_lt_of_le h.lt hs, h.len, fun j hj => (World.cell?_of_block (w := w) (a := ⟨g, j, none⟩) hb).trans (h.cell j hj), fun j hj => (World.frozen?_of_block (w := w) (a := ⟨g, j, none⟩) hb).trans (h.free j hj)⟩

theorem Row8.below {w w' : World} {g : Nat} {k : IntKind} {l : List Int} (h : Row8 w g k l) (b : Below w.heap.size w w') : Row8 w' g k l := h.heap b.size (b.block g h.lt)
theorem Row8.alloc {w : World} {g : Nat} {k : IntKind} {l : List Int} (h : Row8 w g k l) (o : Obj) : Row8 (w.alloc o) g k l := h.below ((Below.refl _ _).alloc (Nat.le_refl _) o)
theorem Row8.drew {w : World} {g : Nat} {k : IntKind} {l : List Int} (h : Row8 w g k l) : Row8 w.drew g k l := ⟨h.lt, h.len, h.cell, h.free⟩
theorem Row8.setCell {w : World} {g : Nat} {k : IntKind} {l : List Int} (h : Row8 w g k l) {p : Addr} (hp : p.block ≠ g) (x : Value) : Row8 (w.setCell p x) g k l :=
  h.heap (by simp [World.setCell]) (Below.heap_setCell _ _ _ _ (fun e => hp e.symm))

/-- A store into the array. -/
theorem Row8.store {w : World} {g : Nat} {k : IntKind} {l : List Int} (h : Row8 w g k l) (i : Nat) (hi : i < 8) (x : Int) : Row8 (w.setCell ⟨g, i, none⟩ (.int k x)) g k (l.set i x) := by
  refine ⟨by simpa [World.setCell] using h.lt, by simp [h.len], fun j hj => ?_, fun j hj => by simpa using h.free j hj⟩
  rw [at8_set _ _ _ _ (by rw [h.len]; exact hi)]
  by_cases e : i = j
  · subst e
    rw [if_pos rfl]
    exact World.cell?_setCell_same _ _ _ (h.cell i hi)
  · rw [if_neg e]
    exact (World.cell?_setCell_other _ _ _ _ (by simp)).trans (h.cell j hj)

theorem Row8.all {w : World} {g : Nat} {k : IntKind} {l : List Int} (h : Row8 w g k l) :
    (w.cell? ⟨g, 0, none⟩ = some (.int k (at8 l 0)) ∧ w.cell? ⟨g, 1, none⟩ = some (.int k (at8 l 1)) ∧ w.cell? ⟨g, 2, none⟩ = some (.int k (at8 l 2)) ∧ w.cell? ⟨g, 3, none⟩ = some (.int k (at8 l 3)))
      ∧ w.cell? ⟨g, 4, none⟩ = some (.int k (at8 l 4)) ∧ w.cell? ⟨g, 5, none⟩ = some (.int k (at8 l 5)) ∧ w.cell? ⟨g, 6, none⟩ = some (.int k (at8 l 6)) ∧ w.cell? ⟨g, 7, none⟩ = some (.int k (at8 l 7)) :=
  ⟨⟨h.cell 0 (by omega), h.cell 1 (by omega), h.cell 2 (by omega), h.cell 3 (by omega)⟩, h.cell 4 (by omega), h.cell 5 (by omega), h.cell 6 (by omega), h.cell 7 (by omega)⟩

/-- Storing a whole array, cell by cell. -/
theorem Row8.fill {w : World} {g : Nat} {k : IntKind} {l : List Int} (h : Row8 w g k l) (m : List Int) (hm : m.length = 8) :
    Row8 ((((((((w.setCell ⟨g, 0, none⟩ (.int k (at8 m 0))).setCell ⟨g, 1, none⟩ (.int k (at8 m 1))).setCell ⟨g, 2, none⟩ (.int k (at8 m 2))).setCell ⟨g, 3, none⟩ (.int k (at8 m 3))).setCell ⟨g, 4, none⟩ (.int k (at8 m 4))).setCell ⟨g, 5, none⟩ (.int k (at8 m 5))).setCell ⟨g, 6, none⟩ (.int k (at8 m 6))).setCell ⟨g, 7, none⟩ (.int k (at8 m 7))) g k m := by
  have r := ((((((((h.store 0 (by omega) (at8 m 0)).store 1 (by omega) (at8 m 1)).store 2 (by omega) (at8 m 2)).store 3 (by omega) (at8 m 3)).store 4 (by omega) (at8 m 4)).store 5 (by omega) (at8 m 5)).store 6 (by omega) (at8 m 6)).store 7 (by omega) (at8 m 7))
  refine ⟨r.lt, hm, fun j hj => ?_, r.free⟩
  rw [r.cell j hj]
  have hl := h.len
  match l, hl with
  | [a, b, c, d, e, f, p, q], _ =>
    have : j = 0 ∨ j = 1 ∨ j = 2 ∨ j = 3 ∨ j = 4 ∨ j = 5 ∨ j = 6 ∨ j = 7 := by omega
    rcases this with rfl | rfl | rfl | rfl | rfl | rfl | rfl | rfl <;> rfl

/-- A whole array stored into a block of the call's own. -/
theorem below_fill8 {B : Nat} {w w' : World} (h : Below B w w') (g : Nat) (hg : B ≤ g) (v0 v1 v2 v3 v4 v5 v6 v7 : Value) :
    Below B w ((((((((w'.setCell ⟨g, 0, none⟩ v0).setCell ⟨g, 1, none⟩ v1).setCell ⟨g, 2, none⟩ v2).setCell ⟨g, 3, none⟩ v3).setCell ⟨g, 4, none⟩ v4).setCell ⟨g, 5, none⟩ v5).setCell ⟨g, 6, none⟩ v6).setCell ⟨g, 7, none⟩ v7) :=
  (((((((h.setCell (p := ⟨g, 0, none⟩) hg v0).setCell (p := ⟨g, 1, none⟩) hg v1).setCell (p := ⟨g, 2, none⟩) hg v2).setCell (p := ⟨g, 3, none⟩) hg v3).setCell (p := ⟨g, 4, none⟩) hg v4).setCell (p := ⟨g, 5, none⟩) hg v5).setCell (p := ⟨g, 6, none⟩) hg v6).setCell (p := ⟨g, 7, none⟩) hg v7

theorem Row8.frees {w : World} {g : Nat} {k : IntKind} {l : List Int} (h : Row8 w g k l) :
    (w.frozen? ⟨g, 0, none⟩ = false ∧ w.frozen? ⟨g, 1, none⟩ = false ∧ w.frozen? ⟨g, 2, none⟩ = false ∧ w.frozen? ⟨g, 3, none⟩ = false) ∧ w.frozen? ⟨g, 4, none⟩ = false ∧ w.frozen? ⟨g, 5, none⟩ = false ∧ w.frozen? ⟨g, 6, none⟩ = false ∧ w.frozen? ⟨g, 7, none⟩ = false :=
  ⟨⟨h.free 0 (by omega), h.free 1 (by omega), h.free 2 (by omega), h.free 3 (by omega)⟩, h.free 4 (by omega), h.free 5 (by omega), h.free 6 (by omega), h.free 7 (by omega)⟩

/-- What a function that hands back an array of eight numbers gives. -/
def RetArr (k : IntKind) (w : World) (l : List Int) (e : Ending) (w' : World) : Prop := e = .returned (arr8 k l) ∧ Below w.heap.size w w'

end Go.Proofs.Ythelncibpoijoaa
