/- The laws' small functions over polynomials: copies, comparisons, marks. -/
import Derived.Test.YthpmehhfhngnbaaLaMC
namespace Go.Proofs.Ythpmehhfhngnbaa
open Go.RowKit

theorem szLaurent_fit (s : Int) (a : Option Addr) (n cap : Nat) (left : Int) (w : World) (hn : (n : Int) ≤ left) (h1 : left ≤ 1048576) :
  Calls Try.prog 35 #[.agg #[.int .i64 s, .slice a n cap], .int .i64 left] w fun e w' => e = .returned (.int .i64 (left - n)) ∧ Below w.heap.size w w' := by
 go_enter Try.func35, Try.ntmps35
 go_wp2_with (go_at_call 50; refine (szInt64S_fit _ _ _ _ _ hn h1).mono ?_; rintro e w' ⟨rfl, rfl⟩)
 go_ret
 exact ⟨rfl, (Below.refl _ _).alloc (Nat.le_refl _) _⟩

theorem szLaurent_big (s : Int) (a : Option Addr) (n cap : Nat) (left : Int) (w : World) (hn : left < (n : Int)) (h0 : 0 ≤ left) (h1 : n ≤ maxLen) :
  Calls Try.prog 35 #[.agg #[.int .i64 s, .slice a n cap], .int .i64 left] w fun e w' => e = .returned (.int .i64 (-1)) ∧ Below w.heap.size w w' := by
 go_enter Try.func35, Try.ntmps35
 go_wp2_with (go_at_call 50; refine (szInt64S_big _ _ _ _ _ hn h0 h1).mono ?_; rintro e w' ⟨rfl, rfl⟩)
 go_ret
 exact ⟨rfl, (Below.refl _ _).alloc (Nat.le_refl _) _⟩

set_option maxHeartbeats 400000 in
theorem toLaurent_any (s : Int) (a : Option Addr) (n cap : Nat) (xs : List Int) (w : World) (hr : Reads w a n xs) (hn : n ≤ 1048576) :
  Calls Try.prog 37 #[.agg #[.int .i64 s, .slice a n cap]] w (MadeBraid w s xs) := by
 have HR := Lib.hid hr; clear hr
 go_enter Try.func37, Try.ntmps37
 go_wp2_with fail
 refine (toInt64S_any _ _ _ xs _ (((HR.out.alloc _).alloc _).alloc _) hn).mono ?_
 rintro e w1 ⟨a1, c1, rfl, ho, hb⟩
 obtain ⟨hc, hf⟩ := bcell hb
 have hz : w.heap.size + 2 < w1.heap.size := by have := hb.size; simp at this; omega
 have HO := Lib.hid ho; clear ho
 have HB := Lib.hid hb; clear hb
 go_wp2
 refine bodyPost_ret (v := .agg #[.int .i64 s, .slice a1 n c1]) (by simp [results, Try.results37, go_sem, hc]) rfl ⟨a1, n, c1, rfl, ?_, ?_⟩
 ·exact (((HO.out.setCell_below (by simp) _).setCell_below (by simp) _).setCell_below (by simp) _).mono (by simp; omega)
 ·exact ((((below3 w _ _ _).trans (HB.out.mono (by simp; omega))).setCell (by simp; omega) _).setCell (by simp) _).setCell (by simp) _

theorem eqLaurent_any (s t : Int) (a b : Option Addr) (n m ca cb : Nat) (xs ys : List Int) (w : World) (ha : Reads w a n xs) (hb : Reads w b m ys) (hn : n ≤ maxLen) :
  Calls Try.prog 39 #[.agg #[.int .i64 s, .slice a n ca], .agg #[.int .i64 t, .slice b m cb]] w fun e w' => e = .returned (.bool (decide (s = t ∧ xs = ys))) ∧ Below w.heap.size w w' := by
 have HA := Lib.hid ha; clear ha
 have HB := Lib.hid hb; clear hb
 by_cases hst : s = t
 ·have t1 : (s != t) = false := by simp [hst]
  have HST := Lib.hid hst; clear hst
  obtain ⟨q, hq⟩ : ∃ q : Bool, q = decide (xs = ys) := ⟨_, rfl⟩
  have c := eqInt64S_any a b n m ca cb xs ys ((w.alloc (.cells #[.int .i64 s, .slice a n ca] 56)).alloc (.cells #[.int .i64 t, .slice b m cb] 56)) ((HA.out.alloc _).alloc _) ((HB.out.alloc _).alloc _) hn
  rw [← hq] at c
  have HQ := Lib.hid hq; clear hq
  have C := Lib.hid c; clear c
  cases q
  all_goals
   go_enter Try.func39, Try.ntmps39
   go_wp2_with (go_at_call 58; refine C.out.mono ?_; rintro e w1 ⟨rfl, hb1⟩)
   go_ret
   refine ⟨?_, (below2 w _ _).trans (hb1.mono (by simp; omega))⟩
   simp [HST.out, ← HQ.out]
 ·have t1 : (s != t) = true := by simp [hst]
  have HST := Lib.hid hst; clear hst
  go_enter Try.func39, Try.ntmps39
  go_wp2
  go_ret
  refine ⟨?_, below2 w _ _⟩
  have := HST.out
  simp [this]

theorem eqLaurent_yes (s : Int) (a b : Option Addr) (n m ca cb : Nat) (xs : List Int) (w : World) (ha : Reads w a n xs) (hb : Reads w b m xs) (hn : n ≤ 1048576) :
  Calls Try.prog 39 #[.agg #[.int .i64 s, .slice a n ca], .agg #[.int .i64 s, .slice b m cb]] w fun e w' => e = .returned (.bool true) ∧ Below w.heap.size w w' :=
 (eqLaurent_any s s a b n m ca cb xs xs w ha hb (by unfold maxLen; omega)).mono fun e w' ⟨he, hw⟩ => ⟨by rw [he]; simp, hw⟩

end Go.Proofs.Ythpmehhfhngnbaa

