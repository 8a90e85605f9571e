/- Two positive normal forms: the model's code and the program's. -/
import Derived.Test.YtleoohplnkdbdaaBoNPair
import Derived.Test.YtleoohplnkdbdaaBoNMul
import Derived.Test.YtleoohplnkdbdaaBoComP
import Derived.Test.YtleoohplnkdbdaaBoQA
namespace Go.Proofs.Ytleoohplnkdbdaa
open Go.RowKit Go.ChangeShapes

/-- The code of two normal forms that have to be positive. -/
def posC (s p : Int) (rs : List (List Int)) (t q : Int) (ts : List (List Int)) : Int := if pairC s p rs t q ts = 0 then (if p < 0 ∨ q < 0 then 5 else 0) else pairC s p rs t q ts

set_option maxRecDepth 100000 in
set_option maxHeartbeats 800000 in
theorem l03Positive_any (s p t q : Int) (a b : Option Addr) (n cap nb capb : Nat) (rs ts : List (List Int)) (w : World) (hr : ReadsA w a n rs) (hy : BytesA rs) (hn : n ≤ 1048576) (hr2 : ReadsA w b nb ts) (hy2 : BytesA ts) (hn2 : nb ≤ 1048576) :
  Calls Try.prog 47 #[.agg #[.int .i64 s, .int .i64 p, .slice a n cap], .agg #[.int .i64 t, .int .i64 q, .slice b nb capb]] w fun e w' => e = .returned (.int .i64 (posC s p rs t q ts)) ∧ Below w.heap.size w w' := by
 have HR := Lib.hid hr; clear hr
 have HR2 := Lib.hid hr2; clear hr2
 have HY0 := Lib.hid hy; clear hy
 have HY1 := Lib.hid hy2; clear hy2
 obtain ⟨c, hc⟩ : ∃ c, c = pairC s p rs t q ts := ⟨_, rfl⟩
 have e : posC s p rs t q ts = if c = 0 then (if p < 0 ∨ q < 0 then 5 else 0) else c := by unfold posC; rw [hc]
 rw [e]
 clear e
 have HC := Lib.hid hc; clear hc
 have A := Lib.hid ((At3.place w (.int .i64 s) (.int .i64 p) (.slice a n cap) 28 w.heap.size rfl).alloc (.cells #[.int .i64 t, .int .i64 q, .slice b nb capb] 28))
 have B := Lib.hid (At3.place (w.alloc (.cells #[.int .i64 s, .int .i64 p, .slice a n cap] 28)) (.int .i64 t) (.int .i64 q) (.slice b nb capb) 28 (w.heap.size + 1) (by simp))
 have K := Lib.hid ((below1 w (.cells #[.int .i64 s, .int .i64 p, .slice a n cap] 28)).alloc (by simp) (.cells #[.int .i64 t, .int .i64 q, .slice b nb capb] 28))
 go_enter Try.func47, Try.ntmps47
 go_wp2_with fail
 refine (l03Both_any s p t q a b n cap nb capb rs ts _ ((HR.out.alloc _).alloc _) HY0.out hn ((HR2.out.alloc _).alloc _) HY1.out hn2).mono ?_
 rw [← HC.out]
 rintro e w1 ⟨rfl, hb⟩
 have A1 := A.out.below hb
 have B1 := B.out.below hb
 have K1 := Lib.hid (below_go K.out hb (by simp; omega))
 obtain ⟨x0, ⟨x1, x2, x3⟩, x4, x5, x6⟩ := A1
 obtain ⟨y0, ⟨y1, y2, y3⟩, y4, y5, y6⟩ := B1
 clear hb
 by_cases h0 : c = 0
 ·subst h0
  by_cases hp : p < 0
  ·go_wp2
   go_ret
   exact ⟨rfl, K1.out⟩
  ·by_cases hq : q < 0
   ·go_wp2
    go_ret
    exact ⟨rfl, K1.out⟩
   ·go_wp2
    go_ret
    exact ⟨rfl, K1.out⟩
 ·go_wp2
  go_ret
  exact ⟨rfl, K1.out⟩

set_option maxRecDepth 100000 in
set_option maxHeartbeats 800000 in
theorem positivePairCode_any (s p t q : Int) (a b : Option Addr) (n cap nb capb : Nat) (rs ts : List (List Int)) (w : World) (hr : ReadsA w a n rs) (hy : BytesA rs) (hn : n ≤ 1048576) (hr2 : ReadsA w b nb ts) (hy2 : BytesA ts) (hn2 : nb ≤ 1048576) :
  Calls Try.prog 49 #[.agg #[.int .i64 s, .int .i64 p, .slice a n cap], .agg #[.int .i64 t, .int .i64 q, .slice b nb capb]] w fun e w' => e = .returned (.int .i64 (posC s p rs t q ts)) ∧ Below w.heap.size w w' := by
 have HR := Lib.hid hr; clear hr
 have HR2 := Lib.hid hr2; clear hr2
 have HY0 := Lib.hid hy; clear hy
 have HY1 := Lib.hid hy2; clear hy2
 obtain ⟨c, hc⟩ : ∃ c, c = pairC s p rs t q ts := ⟨_, rfl⟩
 have e : posC s p rs t q ts = if c = 0 then (if p < 0 ∨ q < 0 then 5 else 0) else c := by unfold posC; rw [hc]
 rw [e]
 clear e
 have HC := Lib.hid hc; clear hc
 have A := Lib.hid ((At3.place w (.int .i64 s) (.int .i64 p) (.slice a n cap) 28 w.heap.size rfl).alloc (.cells #[.int .i64 t, .int .i64 q, .slice b nb capb] 28))
 have B := Lib.hid (At3.place (w.alloc (.cells #[.int .i64 s, .int .i64 p, .slice a n cap] 28)) (.int .i64 t) (.int .i64 q) (.slice b nb capb) 28 (w.heap.size + 1) (by simp))
 have K := Lib.hid ((below1 w (.cells #[.int .i64 s, .int .i64 p, .slice a n cap] 28)).alloc (by simp) (.cells #[.int .i64 t, .int .i64 q, .slice b nb capb] 28))
 go_enter Try.func49, Try.ntmps49
 go_wp2_with fail
 refine (pairCode_any s p t q a b n cap nb capb rs ts _ ((HR.out.alloc _).alloc _) HY0.out hn ((HR2.out.alloc _).alloc _) HY1.out hn2).mono ?_
 rw [← HC.out]
 rintro e w1 ⟨rfl, hb⟩
 have A1 := A.out.below hb
 have B1 := B.out.below hb
 have K1 := Lib.hid (below_go K.out hb (by simp; omega))
 obtain ⟨x0, ⟨x1, x2, x3⟩, x4, x5, x6⟩ := A1
 obtain ⟨y0, ⟨y1, y2, y3⟩, y4, y5, y6⟩ := B1
 clear hb
 by_cases h0 : c = 0
 ·subst h0
  by_cases hp : p < 0
  ·go_wp2
   go_ret
   exact ⟨rfl, K1.out⟩
  ·by_cases hq : q < 0
   ·go_wp2
    go_ret
    exact ⟨rfl, K1.out⟩
   ·go_wp2
    go_ret
    exact ⟨rfl, K1.out⟩
 ·go_wp2
  go_ret
  exact ⟨rfl, K1.out⟩

end Go.Proofs.Ytleoohplnkdbdaa

