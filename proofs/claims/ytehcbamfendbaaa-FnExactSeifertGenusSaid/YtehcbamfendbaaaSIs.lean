/- The model: is a row a simple braid? -/
import Derived.Test.YtehcbamfendbaaaQA
import Derived.BigQuiet
import Derived.IntWalk
namespace Go.Proofs.Ytehcbamfendbaaa
open Go.RowKit Go.ChangeShapes

/-- Eight bools in a block. -/
structure Bool8 (w : World) (g : Nat) (f : Nat → Bool) : Prop where
  lt : g < w.heap.size
  cell : ∀ j, j < 8 → w.cell? ⟨g, j, none⟩ = some (.bool (f j))
  free : ∀ j, j < 8 → w.frozen? ⟨g, j, none⟩ = false

theorem Bool8.place (w : World) (t : TypeId) (g : Nat) (hg : w.heap.size = g) : Bool8 (w.alloc (.cells #[.bool false, .bool false, .bool false, .bool false, .bool false, .bool false, .bool false, .bool false] t)) g (fun _ => false) := by
  subst hg
  refine ⟨by simp, fun j hj => ?_, fun j hj => ?_⟩
  · have : j = 0 ∨ j = 1 ∨ j = 2 ∨ j = 3 ∨ j = 4 ∨ j = 5 ∨ j = 6 ∨ j = 7 := by omega
    rcases this with rfl | rfl | rfl | rfl | rfl | rfl | rfl | rfl <;> simp
  · simp

theorem Bool8.store {w : World} {g : Nat} {f : Nat → Bool} (h : Bool8 w g f) (i : Nat) (hi : i < 8) (x : Bool) : Bool8 (w.setCell ⟨g, i, none⟩ (.bool x)) g (fun j => if i = j then x else f j) := by
  refine ⟨by simpa [World.setCell] using h.lt, fun j hj => ?_, fun j hj => by simpa using h.free j hj⟩
  by_cases e : i = j
  · subst e
    rw [if_pos rfl]
    exact World.cell?_setCell_same _ _ _ (h.cell i hi)
  · rw [if_neg e]
    refine (World.cell?_setCell_other _ _ _ _ ?_).trans (h.cell j hj)
    simp

theorem Bool8.congr {w : World} {g : Nat} {f f' : Nat → Bool} (h : Bool8 w g f) (e : ∀ j, j < 8 → f j = f' j) : Bool8 w g f' := ⟨h.lt, fun j hj => by rw [← e j hj]; exact h.cell j hj, h.free⟩

/-- v stands at one of the first k places. -/
def metB (s : List Int) (k : Nat) (v : Nat) : Bool := (List.range k).any fun x => decide (at8 s x = v)

theorem metB_iff (s : List Int) (k v : Nat) : metB s k v = true ↔ ∃ x, x < k ∧ at8 s x = v := by simp [metB]

theorem metB_step (s : List Int) (k v : Nat) (u : Nat) (hu : at8 s k = u) : metB s (k + 1) v = if u = v then true else metB s k v := by
  rw [Bool.eq_iff_iff, metB_iff]
  by_cases e : u = v
  · subst e
    simp only [if_true, iff_true]
    exact ⟨k, by omega, hu⟩
  · rw [if_neg e, metB_iff]
    constructor
    · rintro ⟨x, hx, h⟩
      by_cases e2 : x = k
      · subst e2; omega
      · exact ⟨x, by omega, h⟩
    · rintro ⟨x, hx, h⟩
      exact ⟨x, by omega, h⟩

theorem simB_out (n : Int) (s : List Int) (h : inB n 1 8 = false) : simB n s = false := by
  unfold simB
  unfold inB at h
  rw [h, Bool.false_and]

end Go.Proofs.Ytehcbamfendbaaa
