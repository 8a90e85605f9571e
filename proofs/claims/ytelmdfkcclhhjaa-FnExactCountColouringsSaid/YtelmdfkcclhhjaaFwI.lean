/- Free words: what the program says. -/
import Derived.Test.YtelmdfkcclhhjaaFw
namespace Go.Proofs.Ytelmdfkcclhhjaa
open Go.RowKit Go.ChangeShapes

theorem fitsW_any (x s : Int) (w : World) (h1 : 1 ≤ s) (h2 : s ≤ 1000) :
    Calls Try.prog 101 #[.int .i64 x, .int .i64 s] w fun e w' => e = .returned (.bool (okLetter s x)) ∧ w = w' := by
  by_cases p1 : x = 0
  · have t1 : (x != 0) = false := by simp [p1]
    have H1 := Lib.hid p1; clear p1
    go_enter Try.func101, Try.ntmps101
    go_wp2
    go_ret
    exact ⟨ret_bool (by simp [okLetter, H1.out]), rfl⟩
  · have t1 : (x != 0) = true := by simp [p1]
    have H1 := Lib.hid p1; clear p1
    by_cases p2 : -s < x
    · by_cases p3 : x < s
      all_goals
        go_enter Try.func101, Try.ntmps101
        go_wp2
        go_ret
        exact ⟨ret_bool (by have := H1.out; simp [okLetter, p2, this]; omega), rfl⟩
    · go_enter Try.func101, Try.ntmps101
      go_wp2
      go_ret
      exact ⟨ret_bool (by simp [okLetter]; omega), rfl⟩

end Go.Proofs.Ytelmdfkcclhhjaa
