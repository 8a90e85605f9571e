/- Where the strands end: the model's answer. -/
import Derived.Test.YtehcbamfendbaaaPerm
import Derived.Maps.AppendAt
namespace Go.Proofs.Ytehcbamfendbaaa
open Go.RowKit Go.ChangeShapes

/-- A braid's number of strands as a natural number, and its letters' bounds. -/
theorem braid_nat {s : Int} {xs : List Int} (h : isBraid s xs = true) : ∃ k : Nat, s = k ∧ 1 ≤ k ∧ k ≤ 8 ∧ Letts k xs := by
  obtain ⟨h1, h2, _, h3⟩ := (isBraid_iff s xs).1 h
  obtain ⟨k, rfl⟩ : ∃ k : Nat, s = k := ⟨s.toNat, by omega⟩
  exact ⟨k, rfl, by omega, by omega, h3⟩

/-- The model's starting order and the program's lead to the same ends. -/
theorem ends_same (k : Nat) (xs : List Int) (h8 : k ≤ 8) (hx : Letts k xs) : (ends 8 (run8 (startM k) xs) k).take k = ends k (run8 order8 xs) k := by
  rw [ends_take k _ k h8]
  refine ends_congr k _ _ k k (Nat.le_refl _) ?_
  exact run8_agree k _ _ xs (start_agree k h8) (by rw [startM_len k h8]; exact h8) (by exact h8) hx

theorem Row8.grown {w w' : World} {g : Nat} {k : IntKind} {l : List Int} {row : Option Nat} (h : Row8 w g k l) (hg : w.grownBy w' row) (hr : row ≠ some g) : Row8 w' g k l := h.heap hg.size (hg.block g h.lt (Ne.symm hr))

end Go.Proofs.Ytehcbamfendbaaa
