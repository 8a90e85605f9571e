/- Contracts of the small functions that every law calls: sizes of braids, copies, comparisons, marks. -/
import Derived.Test.YteafnbkdejkjiaaProg
import Derived.Test.YteafnbkdejkjiaaKit
import Derived.Test.YteafnbkdejkjiaaLists
namespace Go.Proofs.Yteafnbkdejkjiaa
open Go.RowKit

theorem infoInt : (Try.prog.info? 2).map (fun i => (i.zero, i.size, i.bytes)) = some (some (.int .i64 0), 1, 8) := by kernel_rfl

/-- What a function that makes a slice of numbers hands back. -/
def MadeInts (w : World) (n : Nat) (xs : List Int) (e : Ending) (w' : World) : Prop :=
  ∃ a cap, e = .returned (.slice a n cap) ∧ Own w.heap.size w' a n cap xs ∧ Below w.heap.size w w'

theorem own_made {B : Nat} {w : World} {n : Nat} (h : w.ownsRow B 2 1 (.slice (some ⟨B, 0, none⟩) n n) n (madeCells #[Value.int .i64 0] n).toList) :
    Own B w (some ⟨B, 0, none⟩) n n (List.replicate n 0) := by
  unfold Own
  rw [toList_madeCells_one] at h
  simpa using h

/-- A number is stored at the place k of a slice that is the call's own. -/
theorem Own.store {B : Nat} {w : World} {g n cap : Nat} {xs : List Int} (h : Own B w (some ⟨g, 0, none⟩) n cap xs) (k : Nat) (x : Int) :
    Own B (w.setCell ⟨g, k, none⟩ (.int .i64 x)) (some ⟨g, 0, none⟩) n cap (xs.set k x) ∧ w.grownBy (w.setCell ⟨g, k, none⟩ (.int .i64 x)) (some g) := by
  have := World.ownsRow.stored h k (.int .i64 x)
  exact ⟨by unfold Own; rw [List.map_set]; exact this.1, this.2⟩

theorem Own.cellAt {B : Nat} {w : World} {g n cap : Nat} {xs : List Int} (h : Own B w (some ⟨g, 0, none⟩) n cap xs) (k : Nat) (hk : k < n) : w.cell? ⟨g, k, none⟩ = some (.int .i64 (xs.getD k 0)) := by
  have hl := h.len
  rw [World.ownsRow.cellAt h k (by omega)]
  simp [List.getD, show k < xs.length by omega]

theorem Own.frozenAt {B : Nat} {w : World} {g n cap : Nat} {xs : List Int} (h : Own B w (some ⟨g, 0, none⟩) n cap xs) (k : Nat) : w.frozen? ⟨g, k, none⟩ = false := World.ownsRow.frozenAt h k

theorem set_prefix (xs : List Int) (n k : Nat) (hl : xs.length = n) (h : k < n) : (xs.take k ++ List.replicate (n - k) (0 : Int)).set k (xs.getD k 0) = xs.take (k + 1) ++ List.replicate (n - (k + 1)) (0 : Int) := by
  refine List.ext_getElem (by simp; omega) fun j h1 h2 => ?_
  simp only [List.getElem_set, List.getElem_append, List.length_take, List.getElem_replicate, List.getElem_take]
  simp only [List.length_set, List.length_append, List.length_take, List.length_replicate] at h1
  by_cases hjk : k = j
  · subst hjk
    rw [if_pos rfl, dif_pos (by omega)]
    simp [List.getD, show k < xs.length by omega]
  · rw [if_neg hjk]
    by_cases hlt : j < k
    · rw [dif_pos (by omega), dif_pos (by omega)]
    · rw [dif_neg (by omega), dif_neg (by omega)]

end Go.Proofs.Yteafnbkdejkjiaa
