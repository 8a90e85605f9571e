/- What letters put for numbers of free words. -/
import Derived.Test.YtehcbamfendbaaaSeLetters
import Derived.Test.YtehcbamfendbaaaSeFreP
namespace Go.Proofs.Ytehcbamfendbaaa
open Go.RowKit Go.ChangeShapes

/-- The generator for which a letter puts three numbers; the other one. -/
def genW (l : Int) : Int := if l < 0 then -l + 1 else l
def genP (l : Int) : Int := if l < 0 then -l else l + 1

/-- What a letter puts for a number, as the program says. -/
def putsL (l x : Int) : List Int :=
 if x * cnt x = genW l then [genW l * cnt l, genP l * cnt x, -(genW l * cnt l)]
 else if x * cnt x = genP l then [genW l * cnt x] else [x]

/-- What a letter puts for a generator, as the model says. -/
def imgS (l x : Int) : List Int :=
 if 0 < l ∧ x = l then [l, l + 1, -l]
 else if 0 < l ∧ x = l + 1 then [l]
 else if l < 0 ∧ x = -l then [-l + 1]
 else if l < 0 ∧ x = -l + 1 then [-(-l + 1), -l, -l + 1]
 else [x]

theorem cnt_neg {x : Int} (h : x < 0) : cnt x = -1 := if_pos h
theorem cnt_pos {x : Int} (h : ¬ x < 0) : cnt x = 1 := if_neg h

theorem putsL_eq (l y : Int) (hl : l ≠ 0) : putsL l y = if y < 0 then inverse (imgS l (-y)) else imgS l y := by
 unfold putsL imgS genW genP inverse
 by_cases h1 : y < 0
 all_goals by_cases h2 : l < 0
 all_goals simp only [h1, h2, cnt_neg, cnt_pos, if_true, if_false, not_false_eq_true, Int.mul_one, Int.mul_neg, true_and, false_and, show (0 < l) = ¬ l < 0 from by simp; omega, not_true_eq_false]
 all_goals (repeat' split) <;> first | (exfalso; omega) | (simp; omega) | simp

theorem putsL_small (l y : Int) (hl : -100 < l) (hl2 : l < 100) (h1 : -1000 < y) (h2 : y < 1000) : Small (putsL l y) := by
 unfold putsL genW genP
 intro z hz
 by_cases g1 : y < 0
 all_goals by_cases g2 : l < 0
 all_goals simp only [g1, g2, cnt_neg, cnt_pos, if_true, if_false, not_false_eq_true, Int.mul_one, Int.mul_neg] at hz
 all_goals (repeat' split at hz) <;> simp at hz <;> omega

theorem putsL_len (l y : Int) : (putsL l y).length ≤ 3 ∧ 1 ≤ (putsL l y).length := by
 unfold putsL
 repeat' split
 all_goals simp

/-- What a letter makes of a free word, before pairs are taken away. -/
def actL (l : Int) (xs : List Int) : List Int := xs.flatMap (putsL l)

theorem actL_len (l : Int) (xs : List Int) : (actL l xs).length ≤ 3 * xs.length := by
 induction xs with
 | nil => simp [actL]
 | cons x xs ih =>
  have := (putsL_len l x).1
  simp only [actL, List.flatMap_cons, List.length_append, List.length_cons] at ih ⊢
  omega

end Go.Proofs.Ytehcbamfendbaaa

