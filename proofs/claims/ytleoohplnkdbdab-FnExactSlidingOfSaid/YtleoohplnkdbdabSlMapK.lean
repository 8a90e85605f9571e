/- Letters of two rows: either order, and one row twice. -/
import Derived.Test.YtleoohplnkdbdabSlPM
import Derived.Test.YtleoohplnkdbdabSlPB
namespace Go.Proofs.Ytleoohplnkdbdab
open Go.RowKit Go.ChangeShapes

theorem allBeg_swap (a b : List Int) (k : Nat) : allBeg [b, a] k = allBeg [a, b] k := by
 simp [allBeg, Bool.and_comm]

theorem allBeg_two (a : List Int) (k : Nat) : allBeg [a, a] k = allBeg [a] k := by
 simp [allBeg]

theorem common_same (vs us : List (List Int)) (h : ∀ k, allBeg vs k = allBeg us k) (m k : Nat) : common vs m k = common us m k := by
 induction m generalizing k with
 | zero => rfl
 | succ m ih =>
  unfold common
  rw [h k, ih (k + 1)]

theorem takeF_swap (n f : Nat) (a b : List Int) : takeF n f [b, a] = takeF n f [a, b] := by
 induction f generalizing a b with
 | zero => rfl
 | succ f ih =>
  unfold takeF
  rw [common_same [b, a] [a, b] (allBeg_swap a b)]
  cases common [a, b] (n - 1) 0 with
  | none => rfl
  | some k =>
   simp only [strip, List.map_cons, List.map_nil]
   rw [ih]

theorem takeF_two (n f : Nat) (a : List Int) : takeF n f [a] = takeF n f [a, a] := by
 induction f generalizing a with
 | zero => rfl
 | succ f ih =>
  unfold takeF
  rw [common_same [a] [a, a] (fun k => (allBeg_two a k).symm)]
  cases common [a, a] (n - 1) 0 with
  | none => rfl
  | some k =>
   simp only [strip, List.map_cons, List.map_nil]
   rw [ih]

/-- What comes of all letters of a map, in words of the two rows. -/
def MeetPost (W : World) (n : Nat) (a b : List Int) (e : Ending) (w' : World) : Prop :=
 ∃ a1 m1 c1, e = .returned (.slice a1 m1 c1) ∧ m1 ≤ 196 ∧ Reads w' a1 m1 (takeR n [a, b]) ∧ Below W.heap.size W w'

theorem takeAll_meet (n : Nat) (h1 : 1 ≤ n) (h8 : n ≤ 8) (a b : List Int) (L : List (List Int × List Int)) (W X : World) (hm : MapA X W.heap.size L) (hw : Wrote W.heap.size (W.heap.size + 1) W X) (hk : Keys8 L) (ha : KeysApart L) (hs : ∀ u ∈ valsL L, Sim n u) (h0 : L ≠ []) (hT : takeR n (valsL L) = takeR n [a, b]) :
  Calls Try.prog 121 #[.map (some W.heap.size), .int .i64 n] X (MeetPost W n a b) := by
 refine (takeAll_any n h1 h8 W.heap.size L X hm ⟨hk, ha, hs, h0, by simp, fun u us h => ?_⟩).mono ?_
 ·have := far_le (hs u (by rw [h]; simp))
  simpa using this
 ·rintro e w' ⟨a1, m1, c1, rfl, hm1, ho, hw'⟩
  refine ⟨a1, m1, c1, rfl, hm1, by rw [← hT]; exact ho.reads, ?_⟩
  have h := hw.trans hw'
  exact ⟨h.os, h.tape, h.output, h.size, fun j hj => h.block j hj (.inl hj)⟩

end Go.Proofs.Ytleoohplnkdbdab

