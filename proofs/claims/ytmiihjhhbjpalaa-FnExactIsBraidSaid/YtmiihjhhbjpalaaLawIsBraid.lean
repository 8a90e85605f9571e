/- The walk of the law of IsBraid. -/
import Derived.Test.YtmiihjhhbjpalaaIs2
import Derived.Test.YtmiihjhhbjpalaaBase4
import Derived.Deep.RegionHeld3
namespace Go.Proofs.Ytmiihjhhbjpalaa
open Go.RowKit Go.ChangeShapes

set_option maxHeartbeats 1000000 in
theorem fnExactIsBraid_walk {s : Int} {a : Option Addr} {n cap : Nat} {xs : List Int} {w : World} (hr : Reads w a n xs) (hf : Fits xs) (hn : n ≤ maxLen) (_hs : (Lit.int .i64 s).wf = true) :
    Calls Try.prog 3 #[.agg #[.int .i64 s, .slice a n cap]] w fun e w' => e = .returned (.bool true) ∧ Below w.heap.size w w' := by
  have R := Lib.hid hr.old; clear hr
  have HF := Lib.hid hf; clear hf
  by_cases h20 : n ≤ 1048576
  · obtain ⟨q, hq⟩ : ∃ q, q = isBraid s xs := ⟨_, rfl⟩
    have HQ := Lib.hid hq; clear hq
    have t1 : (q != q) = false := by simp
    go_enter Try.func3, Try.ntmps3
    replace R := Lib.hid (R.out.alloc (.cells #[.int .i64 s, .slice a n cap] 24))
    have A := Lib.hid (At2.new w (.int .i64 s) (.slice a n cap) 24)
    have B := Lib.hid (below1 w (.cells #[.int .i64 s, .slice a n cap] 24))
    go_wp2_with fail
    refine (szBraid_fit _ _ _ _ _ _ (by omega) (by omega)).mono ?_
    rintro e w1 ⟨rfl, hb⟩
    replace A := Lib.hid (A.out.below hb)
    replace R := Lib.hid (R.out.below hb)
    have z1 : w.heap.size + 1 ≤ w1.heap.size := by have := hb.size; simp at this; omega
    replace B := Lib.hid (below_go B.out hb (by simp))
    clear hb
    obtain ⟨q1, q2, q3⟩ := A.out
    go_wp2_with fail
    refine (toBraid_any _ _ _ _ xs _ R.out.reads h20).mono ?_
    rintro e w2 ⟨a2, n2, c2, rfl, ho2, hb⟩
    clear q1 q2 q3
    have O2 := Lib.hid ho2.within; clear ho2
    replace A := Lib.hid (A.out.below hb)
    replace R := Lib.hid (R.out.below hb)
    have z2 : w1.heap.size ≤ w2.heap.size := by have := hb.size; omega
    replace B := Lib.hid (below_go B.out hb (by omega))
    clear hb
    have hn2 : n2 ≤ 1048576 := by have := O2.out.len; have := R.out.reads.len; omega
    obtain ⟨q1, q2, q3⟩ := A.out
    go_wp2_with fail
    refine (specIsBraid_any _ _ _ _ xs _ O2.out.reads HF.out hn2).mono ?_
    rintro e w3 ⟨rfl, hb⟩
    clear q1 q2 q3
    replace A := Lib.hid (A.out.below hb)
    replace R := Lib.hid (R.out.below hb)
    have z3 : w2.heap.size ≤ w3.heap.size := by have := hb.size; omega
    replace B := Lib.hid (below_go B.out hb (by omega))
    clear hb
    rw [← HQ.out]
    obtain ⟨q1, q2, q3⟩ := A.out
    go_wp2_with fail
    refine (toBraid_any _ _ _ _ xs _ R.out.reads h20).mono ?_
    rintro e w4 ⟨a4, n4, c4, rfl, ho4, hb⟩
    clear q1 q2 q3
    have O4 := Lib.hid ho4.within; clear ho4
    replace A := Lib.hid (A.out.below hb)
    replace R := Lib.hid (R.out.below hb)
    have z4 : w3.heap.size ≤ w4.heap.size := by have := hb.size; omega
    replace B := Lib.hid (below_go B.out hb (by omega))
    clear hb
    have hn4 : n4 ≤ 1048576 := by have := O4.out.len; have := R.out.reads.len; omega
    obtain ⟨q1, q2, q3⟩ := A.out
    replace A := Lib.hid (A.out.alloc (.cells #[.int .i64 s, .slice a4 n4 c4] 27))
    replace R := Lib.hid (R.out.alloc (.cells #[.int .i64 s, .slice a4 n4 c4] 27))
    replace O4 := Lib.hid (O4.out.alloc (.cells #[.int .i64 s, .slice a4 n4 c4] 27))
    have X := Lib.hid (At2.new w4 (.int .i64 s) (.slice a4 n4 c4) 27)
    replace B := Lib.hid (B.out.alloc (by omega) (.cells #[.int .i64 s, .slice a4 n4 c4] 27))
    go_wp2_with fail
    refine (implIsBraid_any _ _ _ _ xs _ O4.out.reads hn4).mono ?_
    rintro e w5 ⟨rfl, hb⟩
    clear q1 q2 q3
    replace A := Lib.hid (A.out.below hb)
    replace R := Lib.hid (R.out.below hb)
    replace O4 := Lib.hid (O4.out.below hb)
    replace X := Lib.hid (X.out.below hb)
    have z5 : w4.heap.size + 1 ≤ w5.heap.size := by have := hb.size; simp at this; omega
    replace B := Lib.hid (below_go B.out hb (by simp; omega))
    clear hb
    rw [← HQ.out]
    obtain ⟨q1, q2, q3⟩ := A.out
    obtain ⟨p1, p2, p3⟩ := X.out
    go_wp2
    go_region_held3 (fun w' => w'.cell? ⟨w.heap.size, 0, none⟩ = some (.int .i64 s) ∧ w'.cell? ⟨w.heap.size, 1, none⟩ = some (.slice a n cap) ∧ w'.cell? ⟨w4.heap.size, 0, none⟩ = some (.int .i64 s) ∧ w'.cell? ⟨w4.heap.size, 1, none⟩ = some (.slice a4 n4 c4)) (first | exact ⟨q2, q3, p2, p3⟩ | exact ⟨r2, r3, s2, s3⟩)
      (first
        | (go_at_call 17; refine (toBraid_any _ _ _ _ xs _ R.out.drew.reads h20).mono ?_; rintro e w6 ⟨a6, n6, c6, rfl, ho6, hb⟩; obtain ⟨r1, r2, r3⟩ := A.out.drew.below hb; obtain ⟨s1, s2, s3⟩ := X.out.drew.below hb)
        | (go_at_call 19; refine (eqBraid_yes _ _ _ _ _ _ _ xs _ (O4.out.drew.below hb).reads ho6.reads hn4).mono ?_; rintro e w7 ⟨rfl, hb'⟩; obtain ⟨r1, r2, r3⟩ := (A.out.drew.below hb).below hb'; obtain ⟨s1, s2, s3⟩ := (X.out.drew.below hb).below hb'))
    go_wp2
    go_ret
    have z6 : w5.heap.size ≤ w6.heap.size := hb.size
    exact ⟨rfl, below_go (below_go B.out.drew hb (by show _ ≤ w5.heap.size; omega)) hb' (by omega)⟩
  · have h0 : (1048576 : Int) < (n : Int) := by omega
    go_enter Try.func3, Try.ntmps3
    go_wp2_with (go_at_call 15; refine (szBraid_big _ _ _ _ _ _ h0 (by omega) hn).mono ?_; rintro e w1 ⟨rfl, hb1⟩)
    go_ret
    exact ⟨rfl, (below1 w _).trans (hb1.mono (by simp))⟩
end Go.Proofs.Ytmiihjhhbjpalaa
