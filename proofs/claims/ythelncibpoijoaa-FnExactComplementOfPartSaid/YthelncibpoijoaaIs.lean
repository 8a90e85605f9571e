/- What is a braid: the model's answer and the program's. -/
import Derived.Test.YthelncibpoijoaaBase3
import Derived.OpenShut
namespace Go.Proofs.Ythelncibpoijoaa
open Go.RowKit Go.ChangeShapes

theorem l01In_any (n lo hi : Int) (w : World) :
    Calls Try.prog 66 #[.int .i64 n, .int .i64 lo, .int .i64 hi] w fun e w' => e = .returned (.bool (inB n lo hi)) ∧ w = w' := by
  by_cases h1 : lo ≤ n
  · by_cases h2 : n ≤ hi
    all_goals
      go_enter Try.func66, Try.ntmps66
      go_wp2
      go_ret
      exact ⟨ret_bool (by simp [inB, h1, h2]), rfl⟩
  · go_enter Try.func66, Try.ntmps66
    go_wp2
    go_ret
    exact ⟨ret_bool (by simp [inB]; omega), rfl⟩

/-- The opposite of a number of int64 lies in a small range exactly if it does without the wrap. -/
theorem inB_neg (x s : Int) (h : (Lit.int .i64 x).wf = true) (hs : s ≤ 8) : inB (wrap64 (-x)) 1 (s - 1) = inB (-x) 1 (s - 1) := by
  have := bounds_i64 h
  rw [Bool.eq_iff_iff, inB_iff, inB_iff]
  unfold wrap64
  omega

theorem okLetter_of (s x : Int) : okLetter s x = (inB x 1 (s - 1) || inB (-x) 1 (s - 1)) := by
  rw [Bool.eq_iff_iff]
  simp only [okLetter, inB, Bool.or_eq_true, Bool.and_eq_true, decide_eq_true_eq]
  omega

theorem isBraid_all (s : Int) (n : Nat) (xs : List Int) (h1 : 1 ≤ s) (h2 : s ≤ 8) (h3 : n ≤ 200) (hl : xs.length = n) (h : ∀ j, j < n → okLetter s (xs.getD j 0) = true) : isBraid s xs = true := by
  have := all_of_getD xs (okLetter s) (by rw [hl]; exact h)
  simp [isBraid, this, h1, h2, hl, h3]

theorem isBraid_bad (s : Int) (xs : List Int) (k : Nat) (hk : k < xs.length) (h : okLetter s (xs.getD k 0) = false) : isBraid s xs = false := by
  have := all_false_of_getD xs (okLetter s) k hk h
  simp [isBraid, this]

end Go.Proofs.Ythelncibpoijoaa
