/- The program: a simple braid turned so many times. -/
import Derived.Test.YtpkhddndapcpjaaSuSB
import Derived.Test.YtpkhddndapcpjaaSuPB
namespace Go.Proofs.Ytpkhddndapcpjaa
open Go.RowKit Go.ChangeShapes

theorem tmod_even (k : Int) : (k.tmod 2 == 0) = decide (k % 2 = 0) := by
 have e : k.tmod 2 = 0 ↔ k % 2 = 0 := by rw [← Int.dvd_iff_emod_eq_zero, Int.dvd_iff_tmod_eq_zero]
 rw [Bool.eq_iff_iff, beq_iff_eq, decide_eq_true_eq]
 exact e

theorem turn_turnR (n : Nat) (s : List Int) (hs : Sim n s) (w : World) :
  Calls Try.prog 74 #[arr8 .u8 s, .int .i64 n] w (RetArr .u8 w (turnR n s)) := turn_any n s hs w

set_option maxRecDepth 100000 in
set_option maxHeartbeats 1000000 in
theorem turned_any (n : Nat) (k : Int) (s : List Int) (hs : Sim n s) (w : World) :
  Calls Try.prog 56 #[arr8 .u8 s, .int .i64 k, .int .i64 n] w (RetArr .u8 w (turnK n k s)) := by
 have HS := Lib.hid hs
 have LS := Lib.hid hs.len
 clear hs
 have t0 := tmod_even k
 by_cases hk : k % 2 = 0
 ·have e1 : turnK n k s = s := by unfold turnK; rw [if_pos hk]
  rw [e1]
  have t1 : (k.tmod 2 == 0) = true := by rw [t0, decide_eq_true hk]
  clear t0 hk e1
  go_enter Try.func56, Try.ntmps56
  have R := Lib.hid (Row8.place (w.alloc (.cells #[.int .u8 (at8 s 0), .int .u8 (at8 s 1), .int .u8 (at8 s 2), .int .u8 (at8 s 3), .int .u8 (at8 s 4), .int .u8 (at8 s 5), .int .u8 (at8 s 6), .int .u8 (at8 s 7)] 53)) .u8 s 53 (w.heap.size + 1) (by simp) LS.out)
  go_wp2
  try rw [Exit.noGoto_ret]
  obtain ⟨⟨e0, e1, e2, e3⟩, e4, e5, e6, e7⟩ := R.out.all
  exact bodyPost_ret (v := arr8 .u8 s) (by simp [results, Try.results56, go_sem, e0, e1, e2, e3, e4, e5, e6, e7]) rfl ⟨rfl, (below1 w _).alloc (by simp) _⟩
 ·have e1 : turnK n k s = turnR n s := by unfold turnK; rw [if_neg hk]
  rw [e1]
  have t1 : (k.tmod 2 == 0) = false := by rw [t0, decide_eq_false hk]
  clear t0 hk e1
  go_enter Try.func56, Try.ntmps56
  have RZ := Lib.hid (Row8.zeros (w.alloc (.cells #[.int .u8 (at8 s 0), .int .u8 (at8 s 1), .int .u8 (at8 s 2), .int .u8 (at8 s 3), .int .u8 (at8 s 4), .int .u8 (at8 s 5), .int .u8 (at8 s 6), .int .u8 (at8 s 7)] 53)) .u8 53 (w.heap.size + 1) (by simp))
  have BB := Lib.hid (below2 w (.cells #[.int .u8 (at8 s 0), .int .u8 (at8 s 1), .int .u8 (at8 s 2), .int .u8 (at8 s 3), .int .u8 (at8 s 4), .int .u8 (at8 s 5), .int .u8 (at8 s 6), .int .u8 (at8 s 7)] 53) (.cells #[.int .u8 0, .int .u8 0, .int .u8 0, .int .u8 0, .int .u8 0, .int .u8 0, .int .u8 0, .int .u8 0] 53))
  go_wp2_with fail
  refine (turn_turnR n s HS.out _).mono ?_
  rintro e w2 ⟨rfl, hb⟩
  replace RZ := Lib.hid (RZ.out.below hb)
  replace BB := Lib.hid (below_go BB.out hb BB.out.size)
  clear hb
  obtain ⟨⟨d0, d1, d2, d3⟩, d4, d5, d6, d7⟩ := RZ.out.all
  obtain ⟨⟨f0, f1, f2, f3⟩, f4, f5, f6, f7⟩ := RZ.out.frees
  have HT := Lib.hid (turnR_sim HS.out).len
  go_wp2
  try rw [Exit.noGoto_ret]
  obtain ⟨⟨e0, e1, e2, e3⟩, e4, e5, e6, e7⟩ := (RZ.out.fill (turnR n s) HT.out).all
  refine bodyPost_ret (v := arr8 .u8 (turnR n s)) (by simp [results, Try.results56, go_sem, e0, e1, e2, e3, e4, e5, e6, e7]) rfl ⟨rfl, ?_⟩
  exact below_fill8 BB.out _ (by omega) _ _ _ _ _ _ _ _

end Go.Proofs.Ytpkhddndapcpjaa

