/- The walk of the law of impl.IsPeriodic: the model's answer and the program's are compared, marks are written into what came back and looked for. -/
import Derived.Test.YtpkhddndapcpjaaIpNPer
import Derived.Test.YtpkhddndapcpjaaIpNEq
import Derived.Test.YtpkhddndapcpjaaIpBB
import Derived.Test.YtpkhddndapcpjaaIpQA
import Derived.Deep.RegionHeld3
namespace Go.Proofs.Ytpkhddndapcpjaa
open Go.RowKit Go.ChangeShapes

set_option maxRecDepth 100000 in
set_option maxHeartbeats 4000000 in
theorem fnExactIsPeriodic_walk {s p : Int} {a : Option Addr} {n cap : Nat} {rs : List (List Int)} {w : World} (hr : ReadsA w a n rs) (hy : BytesA rs) (hn : n ≤ maxLen) :
  Calls Try.prog 5 #[.agg #[.int .i64 s, .int .i64 p, .slice a n cap]] w fun e w' => e = .returned (.bool true) ∧ Below w.heap.size w w' := by
 have R := Lib.hid hr.old; clear hr
 have HY := Lib.hid hy; clear hy
 by_cases h20 : n ≤ 1048576
 ·obtain ⟨fb, fc, hM⟩ : ∃ fb fc, mPer s p rs = (fb, fc) := ⟨_, _, rfl⟩
  have HM := Lib.hid hM; clear hM
  have t1 : (fc != fc) = false := by simp
  have t2 : (fb != fb) = false := by simp
  go_enter Try.func5, Try.ntmps5
  replace R := Lib.hid (R.out.alloc (.cells #[.int .i64 s, .int .i64 p, .slice a n cap] 24))
  have A := Lib.hid (At3.place w (.int .i64 s) (.int .i64 p) (.slice a n cap) 24 w.heap.size rfl)
  have B := Lib.hid (below1 w (.cells #[.int .i64 s, .int .i64 p, .slice a n cap] 24))
  obtain ⟨qA1, qA2, qA3⟩ := A.out.cells
  go_wp2_with fail
  refine (szNormal_fit _ _ _ _ _ _ _ (by omega) (by omega)).mono ?_
  rintro e v1 ⟨rfl, hb⟩
  clear qA1 qA2 qA3
  replace R := Lib.hid (R.out.below hb)
  replace A := Lib.hid (A.out.below hb)
  replace B := Lib.hid (below_go B.out hb B.out.size)
  have z1 : w.heap.size + 1 ≤ v1.heap.size := by have := hb.size; (try simp at this); omega
  clear hb
  obtain ⟨qA1, qA2, qA3⟩ := A.out.cells
  go_wp2_with fail
  refine (toNormal_any _ _ _ _ _ rs _ R.out.1 h20).mono ?_
  rintro e v2 ⟨a2, n2, c2, rfl, ho, hb⟩
  clear qA1 qA2 qA3
  have hn2 : n2 ≤ 1048576 := by have := ho.len; have := R.out.1.len; omega
  have O2 : Hid (OwnAIn (v1.heap.size) v2.heap.size v2 a2 n2 c2 rs) := Lib.hid (by have := ho.within; simpa using this); clear ho
  replace R := Lib.hid (R.out.below hb)
  replace A := Lib.hid (A.out.below hb)
  replace B := Lib.hid (below_go B.out hb B.out.size)
  have z2 : v1.heap.size + 0 ≤ v2.heap.size := by have := hb.size; (try simp at this); omega
  clear hb
  obtain ⟨qA1, qA2, qA3⟩ := A.out.cells
  go_wp2_with fail
  refine (specIsPeriodic_any s p _ _ _ rs _ O2.out.reads HY.out hn2 _ _ HM.out).mono ?_
  rintro e v3 ⟨rfl, hb⟩
  clear qA1 qA2 qA3
  replace R := Lib.hid (R.out.below hb)
  replace A := Lib.hid (A.out.below hb)
  replace O2 := Lib.hid (O2.out.below hb)
  replace B := Lib.hid (below_go B.out hb B.out.size)
  have z3 : v2.heap.size + 0 ≤ v3.heap.size := by have := hb.size; (try simp at this); omega
  clear hb
  obtain ⟨qA1, qA2, qA3⟩ := A.out.cells
  go_wp2_with fail
  refine (toNormal_any _ _ _ _ _ rs _ R.out.1 h20).mono ?_
  rintro e v4 ⟨a4, n4, c4, rfl, ho, hb⟩
  clear qA1 qA2 qA3
  have hn4 : n4 ≤ 1048576 := by have := ho.len; have := R.out.1.len; omega
  have O4 : Hid (OwnAIn (v3.heap.size) v4.heap.size v4 a4 n4 c4 rs) := Lib.hid (by have := ho.within; simpa using this); clear ho
  replace R := Lib.hid (R.out.below hb)
  replace A := Lib.hid (A.out.below hb)
  replace O2 := Lib.hid (O2.out.below hb)
  replace B := Lib.hid (below_go B.out hb B.out.size)
  have z4 : v3.heap.size + 0 ≤ v4.heap.size := by have := hb.size; (try simp at this); omega
  clear hb
  replace R := Lib.hid (R.out.alloc (.cells #[.int .i64 s, .int .i64 p, .slice a4 n4 c4] 28))
  replace A := Lib.hid (A.out.alloc (.cells #[.int .i64 s, .int .i64 p, .slice a4 n4 c4] 28))
  replace O2 := Lib.hid (O2.out.alloc (.cells #[.int .i64 s, .int .i64 p, .slice a4 n4 c4] 28))
  replace O4 := Lib.hid (O4.out.alloc (.cells #[.int .i64 s, .int .i64 p, .slice a4 n4 c4] 28))
  have X := Lib.hid (At3.place v4 (.int .i64 s) (.int .i64 p) (.slice a4 n4 c4) 28 v4.heap.size rfl)
  replace B := Lib.hid (B.out.alloc B.out.size (.cells #[.int .i64 s, .int .i64 p, .slice a4 n4 c4] 28))
  obtain ⟨qA1, qA2, qA3⟩ := A.out.cells
  obtain ⟨qX1, qX2, qX3⟩ := X.out.cells
  go_wp2_with fail
  refine (implIsPeriodic_any s p _ _ _ rs _ O4.out.reads HY.out hn4 _ _ HM.out).mono ?_
  rintro e v5 ⟨rfl, hb⟩
  clear qA1 qA2 qA3 qX1 qX2 qX3
  replace R := Lib.hid (R.out.below hb)
  replace A := Lib.hid (A.out.below hb)
  replace O2 := Lib.hid (O2.out.below hb)
  replace O4 := Lib.hid (O4.out.below hb)
  replace X := Lib.hid (X.out.below hb)
  replace B := Lib.hid (below_go B.out hb B.out.size)
  have z5 : v4.heap.size + 1 ≤ v5.heap.size := by have := hb.size; (try simp at this); omega
  clear hb
  go_wp2
  replace R := Lib.hid R.out.drew
  replace A := Lib.hid A.out.drew
  replace O2 := Lib.hid O2.out.drew
  replace O4 := Lib.hid O4.out.drew
  replace X := Lib.hid X.out.drew
  replace B := Lib.hid B.out.drew
  go_region_held3 (fun w' => (w'.cell? ⟨w.heap.size, 0, none⟩ = some (.int .i64 s) ∧ w'.cell? ⟨w.heap.size, 1, none⟩ = some (.int .i64 p) ∧ w'.cell? ⟨w.heap.size, 2, none⟩ = some (.slice a n cap)) ∧ (w'.cell? ⟨v4.heap.size, 0, none⟩ = some (.int .i64 s) ∧ w'.cell? ⟨v4.heap.size, 1, none⟩ = some (.int .i64 p) ∧ w'.cell? ⟨v4.heap.size, 2, none⟩ = some (.slice a4 n4 c4))) (first | with_reducible exact ⟨A.out.cells, X.out.cells⟩)
   (first
    | (go_at_call 8; refine (toNormal_any _ _ _ _ _ rs _ R.out.1 h20).mono ?_; rintro e u1 ⟨ax, nx, cx, rfl, ho6, hb⟩; have OX := Lib.hid ho6.reads; have zx1 := hb.size; replace R := Lib.hid (R.out.below hb); replace A := Lib.hid (A.out.below hb); replace O2 := Lib.hid (O2.out.below hb); replace O4 := Lib.hid (O4.out.below hb); replace X := Lib.hid (X.out.below hb); replace B := Lib.hid (below_go B.out hb B.out.size))
    | (go_at_call 10; refine (eqNormal_yesn _ _ _ _ _ _ _ _ rs _ O4.out.reads OX.out hn4).mono ?_; rintro e u2 ⟨rfl, hb⟩; have zx2 := hb.size; replace R := Lib.hid (R.out.below hb); replace A := Lib.hid (A.out.below hb); replace O2 := Lib.hid (O2.out.below hb); replace O4 := Lib.hid (O4.out.below hb); replace X := Lib.hid (X.out.below hb); replace B := Lib.hid (below_go B.out hb B.out.size)))
  go_wp2
  go_ret
  exact ⟨rfl, B.out⟩
 ·have h0 : (1048576 : Int) < (n : Int) := by omega
  go_enter Try.func5, Try.ntmps5
  go_wp2_with (go_at_call 6; refine (szNormal_big _ _ _ _ _ _ _ h0 (by omega) hn).mono ?_; rintro e w1 ⟨rfl, hb1⟩)
  go_ret
  exact ⟨rfl, (below1 w _).trans (hb1.mono (by simp))⟩
end Go.Proofs.Ytpkhddndapcpjaa

