/- The program's letters: their counts, indices and opposites; words whose letters are turned one by one; words backwards. -/
import Derived.Test.YtehcbamfendbaaaSeIs2
import Derived.Test.YtehcbamfendbaaaSeQA
namespace Go.Proofs.Ytehcbamfendbaaa
open Go.RowKit Go.ChangeShapes

/-- The count of a letter. -/
def cnt (x : Int) : Int := if x < 0 then -1 else 1

theorem count_any (x : Int) (w : World) :
  Calls Try.prog 103 #[.int .i64 x] w fun e w' => e = .returned (.int .i64 (cnt x)) ∧ w = w' := by
 by_cases h : x < 0
 all_goals
  go_enter Try.func103, Try.ntmps103
  go_wp2
  go_ret
  exact ⟨ret_int (by simp [cnt, h]), rfl⟩

theorem inverse_any (x : Int) (w : World) (h1 : -1000 < x) (h2 : x < 1000) :
  Calls Try.prog 108 #[.int .i64 x] w fun e w' => e = .returned (.int .i64 (-x)) ∧ w = w' := by
 go_enter Try.func108, Try.ntmps108
 go_wp2
 go_ret
 exact ⟨rfl, rfl⟩

theorem index_any (x : Int) (w : World) (h1 : -1000 < x) (h2 : x < 1000) :
  Calls Try.prog 111 #[.int .i64 x] w fun e w' => e = .returned (.int .i64 (x * cnt x)) ∧ w = w' := by
 have hc : cnt x = -1 ∨ cnt x = 1 := by unfold cnt; split <;> simp
 have hw : wrap64 (x * cnt x) = x * cnt x := by rcases hc with e | e <;> rw [e] <;> exact IntWalk.wrap64_in _ (by omega)
 have HW := Lib.hid hw; clear hw hc
 go_enter Try.func111, Try.ntmps111
 go_wp2_with (go_at_call 103; refine (count_any _ _).mono ?_; rintro e w' ⟨rfl, rfl⟩)
 go_ret
 exact ⟨ret_int HW.out, rfl⟩

theorem withIndex_any (x i : Int) (w : World) (h1 : -1000000 < i) (h2 : i < 1000000) :
  Calls Try.prog 142 #[.int .i64 x, .int .i64 i] w fun e w' => e = .returned (.int .i64 (i * cnt x)) ∧ w = w' := by
 have hc : cnt x = -1 ∨ cnt x = 1 := by unfold cnt; split <;> simp
 have hw : wrap64 (i * cnt x) = i * cnt x := by rcases hc with e | e <;> rw [e] <;> exact IntWalk.wrap64_in _ (by omega)
 have HW := Lib.hid hw; clear hw hc
 go_enter Try.func142, Try.ntmps142
 go_wp2_with (go_at_call 103; refine (count_any _ _).mono ?_; rintro e w' ⟨rfl, rfl⟩)
 go_ret
 exact ⟨ret_int HW.out, rfl⟩

/-- The index of a letter, written without a product. -/
theorem idx_eq (x : Int) : x * cnt x = if x < 0 then -x else x := by
 unfold cnt
 split <;> omega

end Go.Proofs.Ytehcbamfendbaaa

