/- The letters of a word, from the last to the first: the rows that they make. -/
import Derived.Test.YteffndmifogicaaNfSOf
namespace Go.Proofs.Yteffndmifogicaa
open Go.RowKit Go.ChangeShapes

/-- A letter with its place. -/
abbrev Let (m n : Nat) : Type := { x : Nat × Int // x.1 < n ∧ x.2 ≠ 0 ∧ -(m : Int) < x.2 ∧ x.2 < m }

/-- What a letter makes of the power and the rows. -/
def stepB (m : Nat) (st : Int × List (List Int)) (i : Nat) (x : Int) : Int × List (List Int) := (if x < 0 then st.1 - 1 else st.1, st.2.set i (turnK m st.1 (baseR m x)))

/-- What some letters make. -/
def foldB (m n : Nat) (pre : List (Let m n)) : Int × List (List Int) := pre.foldl (fun st x => stepB m st x.1.1 x.1.2) (0, List.replicate n zeros8)

theorem foldB_snoc {m n : Nat} (pre : List (Let m n)) (x : Let m n) : foldB m n (pre ++ [x]) = stepB m (foldB m n pre) x.1.1 x.1.2 := by simp [foldB]

/-- The letters from the last to the first. -/
def backL {m : Nat} (xs : List Int) (h : Letters m xs) : List (Let m xs.length) := List.ofFn fun k : Fin xs.length => ⟨(xs.length - 1 - k.1, xs[xs.length - 1 - k.1]'(by omega)), by have := k.2; omega, h _ (List.getElem_mem _)⟩

theorem backL_len {m : Nat} (xs : List Int) (h : Letters m xs) : (backL xs h).length = xs.length := by simp [backL]

theorem backL_at {m : Nat} (xs : List Int) (h : Letters m xs) (k : Nat) (hk : k < (backL xs h).length) : (backL xs h)[k].1.1 = xs.length - 1 - k ∧ (backL xs h)[k].1.2 = xs.getD (xs.length - 1 - k) 0 := by
 have hk' := hk
 rw [backL_len] at hk'
 simp only [backL, List.getElem_ofFn, List.getD]
 refine ⟨trivial, ?_⟩
 rw [List.getElem?_eq_getElem (by omega)]
 rfl

theorem foldB_take {m : Nat} (xs : List Int) (h : Letters m xs) (k : Nat) (hk : k ≤ xs.length) : foldB m xs.length ((backL xs h).take k) = (-(negs (xs.drop (xs.length - k)) : Int), List.replicate (xs.length - k) zeros8 ++ rawB m (xs.drop (xs.length - k))) := by
 induction k with
 | zero => simp [foldB, negs, rawB]
 | succ k ih =>
  have hlz : k < (backL xs h).length := by rw [backL_len]; omega
  rw [List.take_succ_eq_append_getElem hlz, foldB_snoc, ih (by omega)]
  obtain ⟨h1, h2⟩ := backL_at xs h k hlz
  rw [h1, h2]
  obtain ⟨q, hq⟩ : ∃ q, xs.length - k = q + 1 := ⟨xs.length - k - 1, by omega⟩
  have hq2 : xs.length - 1 - k = q := by omega
  have hq3 : xs.length - (k + 1) = q := by omega
  have hql : q < xs.length := by omega
  rw [hq, hq2, hq3]
  have hd : xs.drop q = xs[q] :: xs.drop (q + 1) := (List.getElem_cons_drop hql).symm
  have hg : xs.getD q 0 = xs[q] := by rw [List.getD, List.getElem?_eq_getElem hql]; rfl
  rw [hd, hg, rawB, negs]
  have hx := h _ (List.getElem_mem hql)
  unfold stepB
  refine Prod.ext ?_ ?_
  ·dsimp only
   split <;> split <;> omega
  ·dsimp only
   have ht : turnK m (-(negs (xs.drop (q + 1)) : Int)) (baseR m xs[q]) = turnK m (negs (xs.drop (q + 1)) : Int) (baseR m xs[q]) := by
    unfold turnK
    by_cases hp : (negs (xs.drop (q + 1)) : Int) % 2 = 0
    ·rw [if_pos hp, if_pos (by omega)]
    ·rw [if_neg hp, if_neg (by omega)]
   rw [ht, List.replicate_succ', List.append_assoc, List.set_append_right _ _ (by simp)]
   simp

theorem foldB_all {m : Nat} (xs : List Int) (h : Letters m xs) : foldB m xs.length (backL xs h) = (-(negs xs : Int), rawB m xs) := by
 have h1 := foldB_take xs h xs.length (Nat.le_refl _)
 rw [List.take_of_length_le (by rw [backL_len]; exact Nat.le_refl _)] at h1
 simpa using h1

end Go.Proofs.Yteffndmifogicaa

