/- The walk of the law of IsNormal. -/
import Derived.Test.YtlgipimjhfmilaaPSDual
import Derived.Test.YtlgipimjhfmilaaPIDual
import Derived.Test.YtlgipimjhfmilaaDBase7
import Derived.Deep.RegionHeld3
namespace Go.Proofs.Ytlgipimjhfmilaa
open Go.RowKit Go.ChangeShapes

theorem specIsDual_any (s p : Int) (a : Option Addr) (n cap : Nat) (rs : List (List Int)) (w : World) (hr : ReadsA w a n rs) (hy : BytesA rs) (hn : n ≤ 1048576) :
    Calls Try.prog 14 #[.agg #[.int .i64 s, .int .i64 p, .slice a n cap]] w fun e w' => e = .returned (.bool (dualB s p rs)) ∧ Below w.heap.size w w' := by
  have HR := Lib.hid hr; clear hr
  go_enter Try.func14, Try.ntmps14
  go_wp2_with (go_at_call 41; refine (l07Dual_any s p a n cap rs _ (HR.out.alloc _) hy hn).mono ?_; rintro e w1 ⟨rfl, hb1⟩)
  go_ret
  exact ⟨rfl, (below1 w _).trans (hb1.mono (by simp))⟩

set_option maxRecDepth 100000 in
set_option maxHeartbeats 1000000 in
theorem fnExactIsDual_walk {s p : Int} {a : Option Addr} {n cap : Nat} {rs : List (List Int)} {w : World} (hr : ReadsA w a n rs) (hy : BytesA rs) (hn : n ≤ maxLen) :
    Calls Try.prog 4 #[.agg #[.int .i64 s, .int .i64 p, .slice a n cap]] w fun e w' => e = .returned (.bool true) ∧ Below w.heap.size w w' := by
  have R := Lib.hid hr; clear hr
  have HY := Lib.hid hy; clear hy
  by_cases h20 : n ≤ 1048576
  · obtain ⟨q, hq⟩ : ∃ q, q = dualB s p rs := ⟨_, rfl⟩
    have HQ := Lib.hid hq; clear hq
    have t1 : (q != q) = false := by simp
    go_enter Try.func4, Try.ntmps4
    replace R := Lib.hid (R.out.alloc (.cells #[.int .i64 s, .int .i64 p, .slice a n cap] 30))
    have A := Lib.hid (At3.place w (.int .i64 s) (.int .i64 p) (.slice a n cap) 30 w.heap.size rfl)
    have B := Lib.hid (below1 w (.cells #[.int .i64 s, .int .i64 p, .slice a n cap] 30))
    go_wp2_with fail
    refine (szDual_fit _ _ _ _ _ _ _ (by omega) (by omega)).mono ?_
    rintro e w1 ⟨rfl, hb⟩
    replace A := Lib.hid (A.out.below hb)
    replace R := Lib.hid (R.out.below hb)
    have z1 : w.heap.size + 1 ≤ w1.heap.size := by have := hb.size; simp at this; omega
    replace B := Lib.hid (below_go B.out hb (by simp))
    clear hb
    obtain ⟨q1, ⟨q2, q3, q4⟩, _, _, _⟩ := A.out
    go_wp2_with fail
    refine (toDual_any _ _ _ _ _ rs _ R.out h20).mono ?_
    rintro e w2 ⟨a2, n2, c2, rfl, ho2, hb⟩
    clear q1 q2 q3 q4
    have hn2 : n2 ≤ 1048576 := by have := ho2.len; have := R.out.len; omega
    have O2 := Lib.hid ho2.reads; clear ho2
    replace A := Lib.hid (A.out.below hb)
    replace R := Lib.hid (R.out.below hb)
    have z2 : w1.heap.size ≤ w2.heap.size := by have := hb.size; omega
    replace B := Lib.hid (below_go B.out hb (by omega))
    clear hb
    obtain ⟨q1, ⟨q2, q3, q4⟩, _, _, _⟩ := A.out
    go_wp2_with fail
    refine (specIsDual_any _ _ _ _ _ rs _ O2.out HY.out hn2).mono ?_
    rintro e w3 ⟨rfl, hb⟩
    clear q1 q2 q3 q4 O2
    replace A := Lib.hid (A.out.below hb)
    replace R := Lib.hid (R.out.below hb)
    have z3 : w2.heap.size ≤ w3.heap.size := by have := hb.size; omega
    replace B := Lib.hid (below_go B.out hb (by omega))
    clear hb
    rw [← HQ.out]
    obtain ⟨q1, ⟨q2, q3, q4⟩, _, _, _⟩ := A.out
    go_wp2_with fail
    refine (toDual_any _ _ _ _ _ rs _ R.out h20).mono ?_
    rintro e w4 ⟨a4, n4, c4, rfl, ho4, hb⟩
    clear q1 q2 q3 q4
    have hn4 : n4 ≤ 1048576 := by have := ho4.len; have := R.out.len; omega
    have O4 := Lib.hid ho4.reads; clear ho4
    replace A := Lib.hid (A.out.below hb)
    replace R := Lib.hid (R.out.below hb)
    have z4 : w3.heap.size ≤ w4.heap.size := by have := hb.size; omega
    replace B := Lib.hid (below_go B.out hb (by omega))
    clear hb
    obtain ⟨q1, ⟨q2, q3, q4⟩, _, _, _⟩ := A.out
    replace A := Lib.hid (A.out.alloc (.cells #[.int .i64 s, .int .i64 p, .slice a4 n4 c4] 34))
    replace R := Lib.hid (R.out.alloc (.cells #[.int .i64 s, .int .i64 p, .slice a4 n4 c4] 34))
    replace O4 := Lib.hid (O4.out.alloc (.cells #[.int .i64 s, .int .i64 p, .slice a4 n4 c4] 34))
    have X := Lib.hid (At3.place w4 (.int .i64 s) (.int .i64 p) (.slice a4 n4 c4) 34 w4.heap.size rfl)
    replace B := Lib.hid (B.out.alloc (by omega) (.cells #[.int .i64 s, .int .i64 p, .slice a4 n4 c4] 34))
    go_wp2_with fail
    refine (implIsDual_any _ _ _ _ _ rs _ O4.out HY.out hn4).mono ?_
    rintro e w5 ⟨rfl, hb⟩
    clear q1 q2 q3 q4
    replace A := Lib.hid (A.out.below hb)
    replace R := Lib.hid (R.out.below hb)
    replace O4 := Lib.hid (O4.out.below hb)
    replace X := Lib.hid (X.out.below hb)
    have z5 : w4.heap.size + 1 ≤ w5.heap.size := by have := hb.size; simp at this; omega
    replace B := Lib.hid (below_go B.out hb (by simp; omega))
    clear hb
    rw [← HQ.out]
    go_wp2
    replace A := Lib.hid A.out.drew
    replace R := Lib.hid R.out.drew
    replace O4 := Lib.hid O4.out.drew
    replace X := Lib.hid X.out.drew
    replace B := Lib.hid B.out.drew
    go_region_held3 (fun w' => (w'.cell? ⟨w.heap.size, 0, none⟩ = some (.int .i64 s) ∧ w'.cell? ⟨w.heap.size, 1, none⟩ = some (.int .i64 p) ∧ w'.cell? ⟨w.heap.size, 2, none⟩ = some (.slice a n cap)) ∧ (w'.cell? ⟨w4.heap.size, 0, none⟩ = some (.int .i64 s) ∧ w'.cell? ⟨w4.heap.size, 1, none⟩ = some (.int .i64 p) ∧ w'.cell? ⟨w4.heap.size, 2, none⟩ = some (.slice a4 n4 c4))) (first | with_reducible exact ⟨A.out.cells, X.out.cells⟩)
      (first
        | (go_at_call 15; refine (toDual_any _ _ _ _ _ rs _ R.out h20).mono ?_; rintro e w6 ⟨a6, n6, c6, rfl, ho6, hb⟩; have O6 := Lib.hid ho6.reads; replace A := Lib.hid (A.out.below hb); replace X := Lib.hid (X.out.below hb); replace O4 := Lib.hid (O4.out.below hb); replace R := Lib.hid (R.out.below hb); replace B := Lib.hid (below_go B.out hb B.out.size))
        | (go_at_call 17; obtain rfl := O4.out.same O6.out; refine (eqDual_yes _ _ _ _ _ _ _ rs _ O4.out O6.out hn4).mono ?_; rintro e w7 ⟨rfl, hb⟩; replace A := Lib.hid (A.out.below hb); replace X := Lib.hid (X.out.below hb); replace B := Lib.hid (below_go B.out hb B.out.size)))
    go_wp2
    go_ret
    exact ⟨rfl, B.out⟩
  · have h0 : (1048576 : Int) < (n : Int) := by omega
    go_enter Try.func4, Try.ntmps4
    go_wp2_with (go_at_call 13; refine (szDual_big _ _ _ _ _ _ _ h0 (by omega) hn).mono ?_; rintro e w1 ⟨rfl, hb1⟩)
    go_ret
    exact ⟨rfl, (below1 w _).trans (hb1.mono (by simp))⟩
end Go.Proofs.Ytlgipimjhfmilaa
