/- Two arguments that have to be normal forms of equally many strands. -/
import Derived.Test.YtleoohplnkdbdabCjSNorm
import Derived.Test.YtleoohplnkdbdabCjINorm2
import Derived.Test.YtleoohplnkdbdabCjKit15
namespace Go.Proofs.Ytleoohplnkdbdab
open Go.RowKit Go.ChangeShapes

/-- The code of two normal forms. -/
def pairC (s p : Int) (rs : List (List Int)) (t q : Int) (ts : List (List Int)) : Int := if normB s p rs = true ∧ normB t q ts = true then (if s = t then 0 else 2) else 1

set_option maxRecDepth 100000 in
set_option maxHeartbeats 2000000 in
theorem l03Both_any (s p t q : Int) (a b : Option Addr) (n cap nb capb : Nat) (rs ts : List (List Int)) (w : World) (hr : ReadsA w a n rs) (hy : BytesA rs) (hn : n ≤ 1048576) (hr2 : ReadsA w b nb ts) (hy2 : BytesA ts) (hn2 : nb ≤ 1048576) :
  Calls Try.prog 50 #[.agg #[.int .i64 s, .int .i64 p, .slice a n cap], .agg #[.int .i64 t, .int .i64 q, .slice b nb capb]] w fun e w' => e = .returned (.int .i64 (pairC s p rs t q ts)) ∧ Below w.heap.size w w' := by
 have HR := Lib.hid hr; clear hr
 have HR2 := Lib.hid hr2; clear hr2
 have HY0 := Lib.hid hy; clear hy
 have HY1 := Lib.hid hy2; clear hy2
 go_enter Try.func50, Try.ntmps50
 have A := Lib.hid ((At3.place w (.int .i64 s) (.int .i64 p) (.slice a n cap) 28 w.heap.size rfl).alloc (.cells #[.int .i64 t, .int .i64 q, .slice b nb capb] 28))
 have X := Lib.hid (At3.place (w.alloc (.cells #[.int .i64 s, .int .i64 p, .slice a n cap] 28)) (.int .i64 t) (.int .i64 q) (.slice b nb capb) 28 (w.heap.size + 1) (by simp))
 have B := Lib.hid ((below1 w (.cells #[.int .i64 s, .int .i64 p, .slice a n cap] 28)).alloc (by simp) (.cells #[.int .i64 t, .int .i64 q, .slice b nb capb] 28))
 obtain ⟨q1, q2, q3⟩ := A.out.all
 obtain ⟨r1, r2, r3⟩ := X.out.all
 go_wp2_with fail
 refine (l03Is_any s p a n cap rs _ ((HR.out.alloc _).alloc _) HY0.out hn).mono ?_
 rintro e w1 ⟨rfl, hb⟩
 clear q1 q2 q3 r1 r2 r3
 replace A := Lib.hid (A.out.below hb)
 replace X := Lib.hid (X.out.below hb)
 replace B := Lib.hid (below_go B.out hb (by simp; omega))
 clear hb
 obtain ⟨q1, q2, q3⟩ := A.out.all
 obtain ⟨r1, r2, r3⟩ := X.out.all
 cases h1 : normB s p rs with
 | true =>
  go_wp2_with fail
  refine (l03Is_any t q b nb capb ts _ (HR2.out.below B.out) HY1.out hn2).mono ?_
  rintro e w2 ⟨rfl, hb⟩
  clear q1 q2 q3 r1 r2 r3
  replace A := Lib.hid (A.out.below hb)
  replace X := Lib.hid (X.out.below hb)
  replace B := Lib.hid (below_go B.out hb B.out.size)
  clear hb
  obtain ⟨q1, q2, q3⟩ := A.out.all
  obtain ⟨r1, r2, r3⟩ := X.out.all
  cases h2 : normB t q ts with
  | true =>
   by_cases hs : s = t
   ·subst hs
    have hne : (s != s) = false := by simp
    go_wp2
    try rw [Exit.noGoto_ret]
    go_ret
    exact ⟨ret_int (by simp [pairC, h1, h2]), B.out⟩
   ·have hne : (s != t) = true := by simpa using hs
    go_wp2
    try rw [Exit.noGoto_ret]
    go_ret
    exact ⟨ret_int (by simp [pairC, h1, h2, hs]), B.out⟩
  | false =>
   go_wp2
   try rw [Exit.noGoto_ret]
   go_ret
   exact ⟨ret_int (by simp [pairC, h1, h2]), B.out⟩
 | false =>
  go_wp2
  try rw [Exit.noGoto_ret]
  go_ret
  exact ⟨ret_int (by simp [pairC, h1]), B.out⟩

set_option maxRecDepth 100000 in
set_option maxHeartbeats 2000000 in
theorem pairCode_any (s p t q : Int) (a b : Option Addr) (n cap nb capb : Nat) (rs ts : List (List Int)) (w : World) (hr : ReadsA w a n rs) (_hy : BytesA rs) (hn : n ≤ 1048576) (hr2 : ReadsA w b nb ts) (_hy2 : BytesA ts) (hn2 : nb ≤ 1048576) :
  Calls Try.prog 54 #[.agg #[.int .i64 s, .int .i64 p, .slice a n cap], .agg #[.int .i64 t, .int .i64 q, .slice b nb capb]] w fun e w' => e = .returned (.int .i64 (pairC s p rs t q ts)) ∧ Below w.heap.size w w' := by
 have HR := Lib.hid hr; clear hr
 have HR2 := Lib.hid hr2; clear hr2
 go_enter Try.func54, Try.ntmps54
 have A := Lib.hid ((At3.place w (.int .i64 s) (.int .i64 p) (.slice a n cap) 28 w.heap.size rfl).alloc (.cells #[.int .i64 t, .int .i64 q, .slice b nb capb] 28))
 have X := Lib.hid (At3.place (w.alloc (.cells #[.int .i64 s, .int .i64 p, .slice a n cap] 28)) (.int .i64 t) (.int .i64 q) (.slice b nb capb) 28 (w.heap.size + 1) (by simp))
 have B := Lib.hid ((below1 w (.cells #[.int .i64 s, .int .i64 p, .slice a n cap] 28)).alloc (by simp) (.cells #[.int .i64 t, .int .i64 q, .slice b nb capb] 28))
 obtain ⟨q1, q2, q3⟩ := A.out.all
 obtain ⟨r1, r2, r3⟩ := X.out.all
 go_wp2_with fail
 refine (implIsNormal_any s p a n cap rs _ ((HR.out.alloc _).alloc _) hn).mono ?_
 rintro e w1 ⟨rfl, hb⟩
 clear q1 q2 q3 r1 r2 r3
 replace A := Lib.hid (A.out.below hb)
 replace X := Lib.hid (X.out.below hb)
 replace B := Lib.hid (below_go B.out hb (by simp; omega))
 clear hb
 obtain ⟨q1, q2, q3⟩ := A.out.all
 obtain ⟨r1, r2, r3⟩ := X.out.all
 cases h1 : normB s p rs with
 | true =>
  go_wp2_with fail
  refine (implIsNormal_any t q b nb capb ts _ (HR2.out.below B.out) hn2).mono ?_
  rintro e w2 ⟨rfl, hb⟩
  clear q1 q2 q3 r1 r2 r3
  replace A := Lib.hid (A.out.below hb)
  replace X := Lib.hid (X.out.below hb)
  replace B := Lib.hid (below_go B.out hb B.out.size)
  clear hb
  obtain ⟨q1, q2, q3⟩ := A.out.all
  obtain ⟨r1, r2, r3⟩ := X.out.all
  cases h2 : normB t q ts with
  | true =>
   by_cases hs : s = t
   ·subst hs
    have hne : (s != s) = false := by simp
    go_wp2
    try rw [Exit.noGoto_ret]
    go_ret
    exact ⟨ret_int (by simp [pairC, h1, h2]), B.out⟩
   ·have hne : (s != t) = true := by simpa using hs
    go_wp2
    try rw [Exit.noGoto_ret]
    go_ret
    exact ⟨ret_int (by simp [pairC, h1, h2, hs]), B.out⟩
  | false =>
   go_wp2
   try rw [Exit.noGoto_ret]
   go_ret
   exact ⟨ret_int (by simp [pairC, h1, h2]), B.out⟩
 | false =>
  go_wp2
  try rw [Exit.noGoto_ret]
  go_ret
  exact ⟨ret_int (by simp [pairC, h1]), B.out⟩

end Go.Proofs.Ytleoohplnkdbdab

