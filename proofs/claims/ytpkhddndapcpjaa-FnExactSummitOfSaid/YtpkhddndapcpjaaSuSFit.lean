/- The model and the program: a normal form within the limits. -/
import Derived.Test.YtpkhddndapcpjaaSuSMk0
import Derived.Test.YtpkhddndapcpjaaSuKit15
import Derived.Test.YtpkhddndapcpjaaSuSNorm
namespace Go.Proofs.Ytpkhddndapcpjaa
open Go.RowKit Go.ChangeShapes

/-- Within the limits? -/
def fitN (s q : Int) (rs : List (List Int)) : Int × Int × List (List Int) × Int := if -200 ≤ q ∧ q ≤ 200 ∧ rs.length ≤ 200 then (s, q, rs, 0) else (0, 0, [], 3)

set_option maxRecDepth 100000 in
theorem l03Fit_yes (s q : Int) (a : Option Addr) (n cap : Nat) (w : World) (h : -200 ≤ q ∧ q ≤ 200 ∧ n ≤ 200) :
  Calls Try.prog 23 #[.agg #[.int .i64 s, .int .i64 q, .slice a n cap]] w fun e w' => e = .returned (.tuple #[.agg #[.int .i64 s, .int .i64 q, .slice a n cap], .int .i64 0]) ∧ Below w.heap.size w w' := by
 go_enter Try.func23, Try.ntmps23
 have hc1 : inB q (-200) 200 = true := (inB_iff _ _ _).2 ⟨h.1, h.2.1⟩
 have hc2 : ¬ (200 : Int) < (n : Int) := by omega
 go_wp2_with fail
 refine (l01In_any q (-200) 200 _).mono ?_
 rw [hc1]
 rintro e w1 ⟨rfl, rfl⟩
 go_wp2
 try rw [Exit.noGoto_ret]
 exact bodyPost_ret (v := .tuple #[.agg #[.int .i64 s, .int .i64 q, .slice a n cap], .int .i64 0]) (by simp [results, Try.results23, go_sem]) rfl ⟨rfl, (below1 w _).alloc (by simp) _⟩

set_option maxRecDepth 100000 in
theorem l03Fit_no (s q : Int) (a : Option Addr) (n cap : Nat) (w : World) (h : ¬ (-200 ≤ q ∧ q ≤ 200 ∧ n ≤ 200)) :
  Calls Try.prog 23 #[.agg #[.int .i64 s, .int .i64 q, .slice a n cap]] w fun e w' => e = .returned (.tuple #[.agg #[.int .i64 0, .int .i64 0, .slice none 0 0], .int .i64 3]) ∧ Below w.heap.size w w' := by
 go_enter Try.func23, Try.ntmps23
 by_cases hc : -200 ≤ q ∧ q ≤ 200
 ·have hc1 : inB q (-200) 200 = true := (inB_iff _ _ _).2 hc
  have hc2 : (200 : Int) < (n : Int) := by omega
  go_wp2_with fail
  refine (l01In_any q (-200) 200 _).mono ?_
  rw [hc1]
  rintro e w1 ⟨rfl, rfl⟩
  go_wp2
  try rw [Exit.noGoto_ret]
  exact bodyPost_ret (v := .tuple #[.agg #[.int .i64 0, .int .i64 0, .slice none 0 0], .int .i64 3]) (by simp [results, Try.results23, go_sem]) rfl ⟨rfl, (below1 w _).alloc (by simp) _⟩
 ·have hc1 : inB q (-200) 200 = false := by rw [← Bool.not_eq_true, inB_iff]; exact hc
  go_wp2_with fail
  refine (l01In_any q (-200) 200 _).mono ?_
  rw [hc1]
  rintro e w1 ⟨rfl, rfl⟩
  go_wp2
  try rw [Exit.noGoto_ret]
  exact bodyPost_ret (v := .tuple #[.agg #[.int .i64 0, .int .i64 0, .slice none 0 0], .int .i64 3]) (by simp [results, Try.results23, go_sem]) rfl ⟨rfl, (below1 w _).alloc (by simp) _⟩

end Go.Proofs.Ytpkhddndapcpjaa

