/- The program: a normal form within the limits. -/
import Derived.Test.YtpkhddndapcpjaaSuSFit
namespace Go.Proofs.Ytpkhddndapcpjaa
open Go.RowKit Go.ChangeShapes

theorem within_yes (s q : Int) (a : Option Addr) (n cap : Nat) (w : World) (h : -200 ≤ q ∧ q ≤ 200 ∧ n ≤ 200) :
  Calls Try.prog 43 #[.agg #[.int .i64 s, .int .i64 q, .slice a n cap]] w fun e w' => e = .returned (.bool true) ∧ Below w.heap.size w w' := by
 obtain ⟨h1, h2, h3⟩ := h
 have h4 : (n : Int) ≤ 200 := by omega
 go_enter Try.func43, Try.ntmps43
 go_wp2
 go_ret
 exact ⟨rfl, below1 w _⟩

theorem within_no (s q : Int) (a : Option Addr) (n cap : Nat) (w : World) (h : ¬ (-200 ≤ q ∧ q ≤ 200 ∧ n ≤ 200)) :
  Calls Try.prog 43 #[.agg #[.int .i64 s, .int .i64 q, .slice a n cap]] w fun e w' => e = .returned (.bool false) ∧ Below w.heap.size w w' := by
 by_cases h1 : -200 ≤ q
 ·by_cases h2 : q ≤ 200
  ·have h4 : decide ((n : Int) ≤ 200) = false := by simp; omega
   go_enter Try.func43, Try.ntmps43
   go_wp2
   go_ret
   exact ⟨by simp, below1 w _⟩
  ·have h4 : decide (q ≤ 200) = false := by simp; omega
   go_enter Try.func43, Try.ntmps43
   go_wp2
   go_ret
   exact ⟨by simp, below1 w _⟩
 ·have h4 : decide (-200 ≤ q) = false := by simp; omega
  go_enter Try.func43, Try.ntmps43
  go_wp2
  go_ret
  exact ⟨by simp, below1 w _⟩

set_option maxRecDepth 100000 in
theorem limited_yes (s q : Int) (a : Option Addr) (n cap : Nat) (w : World) (h : -200 ≤ q ∧ q ≤ 200 ∧ n ≤ 200) :
  Calls Try.prog 27 #[.agg #[.int .i64 s, .int .i64 q, .slice a n cap]] w fun e w' => e = .returned (.tuple #[.agg #[.int .i64 s, .int .i64 q, .slice a n cap], .int .i64 0]) ∧ Below w.heap.size w w' := by
 go_enter Try.func27, Try.ntmps27
 have A := Lib.hid ((At3.place w (.int .i64 s) (.int .i64 q) (.slice a n cap) 28 w.heap.size rfl).alloc (.cells #[.int .i64 0, .int .i64 0, .slice none 0 0] 28))
 have Z := Lib.hid (At3.place (w.alloc (.cells #[.int .i64 s, .int .i64 q, .slice a n cap] 28)) (.int .i64 0) (.int .i64 0) (.slice none 0 0) 28 (w.heap.size + 1) (by simp))
 have B := Lib.hid ((below1 w (.cells #[.int .i64 s, .int .i64 q, .slice a n cap] 28)).alloc (by simp) (.cells #[.int .i64 0, .int .i64 0, .slice none 0 0] 28))
 go_wp2_with fail
 refine (within_yes s q a n cap _ h).mono ?_
 rintro e w1 ⟨rfl, hb⟩
 replace A := Lib.hid (A.out.below hb)
 replace Z := Lib.hid (Z.out.below hb)
 replace B := Lib.hid (below_go B.out hb (by simp; omega))
 clear hb
 obtain ⟨q1, q2, q3⟩ := A.out.all
 obtain ⟨x0, ⟨x1, x2, x3⟩, y1, y2, y3⟩ := Z.out
 go_wp2
 try rw [Exit.noGoto_ret]
 obtain ⟨_, ⟨e1, e2, e3⟩, _⟩ := Z.out.fill (.int .i64 s) (.int .i64 q) (.slice a n cap)
 exact bodyPost_ret (v := .tuple #[.agg #[.int .i64 s, .int .i64 q, .slice a n cap], .int .i64 0]) (by simp [results, Try.results27, go_sem, e1, e2, e3]) rfl ⟨rfl, below_set3 B.out (by simp) _ _ _⟩

set_option maxRecDepth 100000 in
theorem limited_no (s q : Int) (a : Option Addr) (n cap : Nat) (w : World) (h : ¬ (-200 ≤ q ∧ q ≤ 200 ∧ n ≤ 200)) :
  Calls Try.prog 27 #[.agg #[.int .i64 s, .int .i64 q, .slice a n cap]] w fun e w' => e = .returned (.tuple #[.agg #[.int .i64 0, .int .i64 0, .slice none 0 0], .int .i64 3]) ∧ Below w.heap.size w w' := by
 go_enter Try.func27, Try.ntmps27
 have Z := Lib.hid (At3.place (w.alloc (.cells #[.int .i64 s, .int .i64 q, .slice a n cap] 28)) (.int .i64 0) (.int .i64 0) (.slice none 0 0) 28 (w.heap.size + 1) (by simp))
 have B := Lib.hid ((below1 w (.cells #[.int .i64 s, .int .i64 q, .slice a n cap] 28)).alloc (by simp) (.cells #[.int .i64 0, .int .i64 0, .slice none 0 0] 28))
 go_wp2_with fail
 refine (within_no s q a n cap _ h).mono ?_
 rintro e w1 ⟨rfl, hb⟩
 replace Z := Lib.hid (Z.out.below hb)
 replace B := Lib.hid (below_go B.out hb (by simp; omega))
 clear hb
 obtain ⟨x0, ⟨x1, x2, x3⟩, y1, y2, y3⟩ := Z.out
 go_wp2
 try rw [Exit.noGoto_ret]
 obtain ⟨_, ⟨e1, e2, e3⟩, _⟩ := Z.out.fill (.int .i64 0) (.int .i64 0) (.slice none 0 0)
 exact bodyPost_ret (v := .tuple #[.agg #[.int .i64 0, .int .i64 0, .slice none 0 0], .int .i64 3]) (by simp [results, Try.results27, go_sem, e1, e2, e3]) rfl ⟨rfl, below_set3 B.out (by simp) _ _ _⟩

end Go.Proofs.Ytpkhddndapcpjaa

