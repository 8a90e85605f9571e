/- Blocks as lists, as the program goes through them. No program is spoken of. -/
import Derived.Test.YthelncibpoijoaaPtM
namespace Go.Proofs.Ythelncibpoijoaa

/-- The first j numbers on the way from x. -/
def blkN (p : List Int) (x j : Nat) : List Int := (List.range j).map fun i => ((itN (nx p) i x : Nat) : Int)

theorem blkN_step (p : List Int) (x j : Nat) : blkN p x (j + 1) = blkN p x j ++ [((itN (nx p) j x : Nat) : Int)] := by simp [blkN, List.range_succ]

theorem blkN_len (p : List Int) (x j : Nat) : (blkN p x j).length = j := by simp [blkN]

/-- After so many steps the way from x comes back. -/
def Back (p : List Int) (x d : Nat) : Prop := 1 ≤ d ∧ itN (nx p) d x = x ∧ ∀ i, 1 ≤ i → i < d → itN (nx p) i x ≠ x
noncomputable def perN (p : List Int) (x : Nat) : Nat := Classical.epsilon (Back p x)

theorem perN_eq {p : List Int} {x d : Nat} (h : Back p x d) : perN p x = d := by
  have h2 : Back p x (perN p x) := Classical.epsilon_spec ⟨d, h⟩
  rcases Nat.lt_trichotomy (perN p x) d with h3 | h3 | h3
  · exact absurd h2.2.1 (h.2.2 _ h2.1 h3)
  · exact h3
  · exact absurd h.2.1 (h2.2.2 _ h.1 h3)

/-- The blocks whose least numbers are below x, each on its way from the least number. -/
noncomputable def cycL (n : Nat) (p : List Int) (x : Nat) : List (List Int) :=
  ((List.range x).filter fun z => decide (lstN n p z = z)).map fun z => blkN p z (perN p z)

theorem cycL_yes (n : Nat) (p : List Int) (x : Nat) (h : lstN n p x = x) : cycL n p (x + 1) = cycL n p x ++ [blkN p x (perN p x)] := by
  simp [cycL, List.range_succ, h]

theorem cycL_no (n : Nat) (p : List Int) (x : Nat) (h : lstN n p x ≠ x) : cycL n p (x + 1) = cycL n p x := by
  simp [cycL, List.range_succ, h]

theorem cycL_len (n : Nat) (p : List Int) (x : Nat) : (cycL n p x).length ≤ x := by
  unfold cycL
  rw [List.length_map]
  exact Nat.le_trans (List.length_filter_le _ _) (by simp)

theorem cycL_cycs {n : Nat} {p : List Int} (h : Sim n p) : (cycL n p n).length = cycs (nx p) n n := by
  unfold cycL
  rw [List.length_map, h.prm.cycs n (Nat.le_refl _)]
  rfl

theorem Way.back {n : Nat} {p : List Int} {x j : Nat} (w : Way n p x j) (h1 : 1 ≤ j) (hj : itN (nx p) j x = x) : perN p x = j := perN_eq ⟨h1, hj, w.dif⟩

end Go.Proofs.Ythelncibpoijoaa
