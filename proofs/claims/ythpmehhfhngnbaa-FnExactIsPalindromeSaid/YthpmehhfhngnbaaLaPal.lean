/- Polynomials: palindromes: the model and the program. -/
import Derived.Test.YthpmehhfhngnbaaLaVal
namespace Go.Proofs.Ythpmehhfhngnbaa
open Go.RowKit Go.ChangeShapes

theorem At2.drewN {w : World} {g : Nat} {u v : Value} (h : At2 w g u v) (n : Nat) : At2 (w.drewN n) g u v := h

theorem below_drewN {B : Nat} {w W : World} (h : Below B w W) (n : Nat) : Below B w (W.drewN n) := ⟨h.os, h.tape, h.output, h.size, h.block⟩

set_option maxRecDepth 100000 in
set_option maxHeartbeats 1000000 in
theorem l05Palindrome_any (low : Int) (a : Option Addr) (n cap : Nat) (xs : List Int) (w : World) (hr : Reads w a n xs) (hl : LauB low xs) :
  Calls Try.prog 89 #[.agg #[.int .i64 low, .slice a n cap]] w fun e w' => e = .returned (.int .i64 (palV n xs)) ∧ Below w.heap.size w w' := by
 have HL := Lib.hid hr.len
 have h2001 : n ≤ 2001 := by have := hl.len; have := HL.out; omega
 have HB := Lib.hid hl; clear hl
 obtain ⟨b, off, ha, hc⟩ : ∃ b off, (n = 0 ∨ a = some ⟨b, off, none⟩) ∧ ∀ j, j < n → w.cell? ⟨b, off + j, none⟩ = some (.int .i64 (xs.getD j 0)) := by
  rcases hr.2 with h | ⟨b, off, ha, hc⟩
  ·exact ⟨0, 0, .inl h, fun j hj => by omega⟩
  ·exact ⟨b, off, .inr ha, hc⟩
 have HA := Lib.hid ha
 have HC0 := Lib.hid hc
 clear ha hc hr
 go_enter Try.func89, Try.ntmps89
 go_wp2
 go_quiet (fail)
 have A0 := Lib.hid (At2.new w (.int .i64 low) (.slice a n cap) 56).drewN
 have B0 := Lib.hid (fun q => below_drewN (below1 w (.cells #[.int .i64 low, .slice a n cap] 56)) q)
 go_wp2
 go_loopw [3, 4, 6] (fun s o i wx => ∃ k : Nat, k ≤ n ∧ i = .int .i64 k ∧ s = .bool (sameK n xs k) ∧ o = .bool (oppK n xs k) ∧ At2 wx w.heap.size (.int .i64 low) (.slice a n cap) ∧ Below w.heap.size w wx) (fun _ _ i _ => n - (intOf i).toNat)
 case atStart => exact ⟨0, Nat.zero_le _, rfl, by rw [sameK_zero], by rw [oppK_zero], A0.out nq, B0.out nq⟩
 case round =>
  obtain ⟨k, hk, rfl, rfl, rfl, hA2, hB2⟩ := hrel
  clear A0 B0
  have A := Lib.hid hA2
  have B := Lib.hid hB2
  clear hA2 hB2
  have ss := Lib.hid (sameK_succ n xs k)
  have so := Lib.hid (oppK_succ n xs k)
  obtain ⟨q, hq⟩ : ∃ q, q = sameK n xs k := ⟨_, rfl⟩
  obtain ⟨r, hr⟩ : ∃ r, r = oppK n xs k := ⟨_, rfl⟩
  rw [← hq] at ss
  rw [← hr] at so
  rw [← hq, ← hr]
  have HQ := Lib.hid hq
  have HR := Lib.hid hr
  clear hq hr
  obtain ⟨q1, q2, q3, q4, q5⟩ := A.out
  by_cases hlt : k < n
  ·have hy1 := HB.out.at' (n - 1 - k) (by rw [HL.out]; omega)
   obtain ⟨x, hx⟩ : ∃ x, x = xs.getD k 0 := ⟨_, rfl⟩
   obtain ⟨y, hy⟩ : ∃ y, y = xs.getD (n - 1 - k) 0 := ⟨_, rfl⟩
   obtain ⟨j, hj⟩ : ∃ j, j = n - 1 - k := ⟨_, rfl⟩
   have c1 : wr.cell? ⟨b, off + k, none⟩ = some (.int .i64 x) := by rw [hx]; exact (B.out.cell (World.block_lt_of_cell? _ _ (HC0.out k hlt))).trans (HC0.out k hlt)
   have c2 : wr.cell? ⟨b, off + j, none⟩ = some (.int .i64 y) := by rw [hy, hj]; exact (B.out.cell (World.block_lt_of_cell? _ _ (HC0.out _ (by omega)))).trans (HC0.out _ (by omega))
   rw [← hx, ← hy] at ss so
   rw [← hy] at hy1
   obtain ⟨y1, y2⟩ := hy1
   have hn2 : n = k + 1 + j := by omega
   have HN2 := Lib.hid hn2
   have e1 : (n : Int) - 1 - (k : Int) = (j : Int) := by omega
   have e2 : IntKind.i64.wrap (-y) = -y := IntWalk.i64_in _ (by omega)
   have hjn : j < n := by omega
   clear hx hy hj hn2
   have ha2 : a = some ⟨b, off, none⟩ := HA.out.resolve_left (by omega)
   subst ha2
   have D1 : Hid (decide (x = y) = (x == y)) := Lib.hid (by rw [Bool.eq_iff_iff]; simp)
   have D2 : Hid (decide (x = -y) = (x == -y)) := Lib.hid (by rw [Bool.eq_iff_iff]; simp)
   rw [D1.out] at ss
   rw [D2.out] at so
   cases q
   all_goals
    cases r
    all_goals
     go_wp2
     go_quiet (fail)
     go_wp2
     go_quiet (fail)
     go_wp2
     go_roundw
     case measure => simp [intOf]; omega
     case rel => exact ⟨k + 1, by omega, by go_num, by rw [ss.out] <;> simp, by rw [so.out] <;> simp, A.out.drewN _, below_drewN B.out _⟩
  ·have hkn : k = n := by omega
   have HK := Lib.hid hkn; clear hkn
   have E1 : Hid (sameK n xs n = q) := Lib.hid (by have h := HQ.out; rw [HK.out] at h; exact h.symm)
   have E2 : Hid (oppK n xs n = r) := Lib.hid (by have h := HR.out; rw [HK.out] at h; exact h.symm)
   cases q
   ·cases r
    all_goals
     go_wp2
     go_ret
     exact ⟨ret_int (by unfold palV; rw [E1.out, E2.out]; rfl), B.out⟩
   ·go_wp2
    go_ret
    exact ⟨ret_int (by unfold palV; rw [E1.out]; rfl), B.out⟩

set_option maxRecDepth 100000 in
set_option maxHeartbeats 1000000 in
theorem specIsPalindrome_any {low : Int} {a : Option Addr} {n cap : Nat} {xs : List Int} {w : World} {fv fc : Int} (hr : Reads w a n xs) (_hf : Fits xs) (hn : n ≤ 1048576) (hM : mPal low xs = (fv, fc)) :
  Calls Try.prog 48 #[.agg #[.int .i64 low, .slice a n cap]] w fun e w' => e = .returned (.tuple #[.int .i64 fv, .int .i64 fc]) ∧ Below w.heap.size w w' := by
 have R := Lib.hid hr; clear hr
 have HL := Lib.hid R.out.len
 by_cases hbr : lauB low xs = true
 ·simp only [mPal, if_pos hbr, Prod.mk.injEq] at hM
  obtain ⟨rfl, rfl⟩ := hM
  rw [HL.out]
  go_enter Try.func48, Try.ntmps48
  go_wp2_with fail
  refine (l05Is_any _ _ _ _ xs _ (R.out.alloc _) hn).mono ?_
  rintro e w1 ⟨rfl, hb⟩
  obtain ⟨q1, q2, q3, q4, q5⟩ := (At2.new w (.int .i64 low) (.slice a n cap) 56).below hb
  have R1 := Lib.hid ((R.out.alloc (.cells #[.int .i64 low, .slice a n cap] 56)).below hb)
  have BB := Lib.hid (below_go (below1 w _) hb (by simp)); clear hb
  go_wp2_with (go_at_call 89; refine (l05Palindrome_any _ _ _ _ _ _ R1.out (LauB.of hbr)).mono ?_; rintro e w' ⟨rfl, hb⟩)
  go_ret2
  exact ⟨rfl, below_go BB.out hb BB.out.size⟩
 ·have hb0 : lauB low xs = false := by simpa using hbr
  simp only [mPal, if_neg hbr, Prod.mk.injEq] at hM
  obtain ⟨rfl, rfl⟩ := hM
  clear hbr
  go_enter Try.func48, Try.ntmps48
  go_wp2_with (go_at_call 78; refine (l05Is_any _ _ _ _ xs _ (R.out.alloc _) hn).mono ?_; rintro e w1 ⟨rfl, hb⟩)
  go_ret2
  exact ⟨rfl, below_go (below1 w _) hb (by simp)⟩

set_option maxRecDepth 100000 in
set_option maxHeartbeats 2000000 in
theorem implIsPalindrome_any {low : Int} {a : Option Addr} {n cap : Nat} {xs : List Int} {w : World} {fv fc : Int} (hr : Reads w a n xs) (_hf : Fits xs) (hn : n ≤ 1048576) (hM : mPal low xs = (fv, fc)) :
  Calls Try.prog 49 #[.agg #[.int .i64 low, .slice a n cap]] w fun e w' => e = .returned (.tuple #[.int .i64 fv, .int .i64 fc]) ∧ Below w.heap.size w w' := by
 have R := Lib.hid hr; clear hr
 have HL := Lib.hid R.out.len
 by_cases hbr : lauB low xs = true
 ·simp only [mPal, if_pos hbr, Prod.mk.injEq] at hM
  obtain ⟨rfl, rfl⟩ := hM
  rw [HL.out]
  have HB := Lib.hid (LauB.of hbr)
  have h2001 : n ≤ 2001 := by have := HB.out.len; have := HL.out; omega
  obtain ⟨b, off, ha, hc⟩ : ∃ b off, (n = 0 ∨ a = some ⟨b, off, none⟩) ∧ ∀ j, j < n → w.cell? ⟨b, off + j, none⟩ = some (.int .i64 (xs.getD j 0)) := by
   rcases R.out.2 with h | ⟨b, off, ha, hc⟩
   ·exact ⟨0, 0, .inl h, fun j hj => by omega⟩
   ·exact ⟨b, off, .inr ha, hc⟩
  have HA := Lib.hid ha
  have HC0 := Lib.hid hc
  clear ha hc
  go_enter Try.func49, Try.ntmps49
  go_wp2_with fail
  refine (implIsLaurent_any _ _ _ _ xs _ (R.out.alloc _) hn).mono ?_
  rintro e w1 ⟨rfl, hb⟩
  obtain ⟨q1, q2, q3, q4, q5⟩ := (At2.new w (.int .i64 low) (.slice a n cap) 56).below hb
  have BB := Lib.hid (below_go (below1 w (.cells #[.int .i64 low, .slice a n cap] 56)) hb (by simp)); clear hb
  go_wp2
  go_loop [4, 5, 15] (fun s o i => ∃ k : Nat, k ≤ n ∧ i = .int .i64 k ∧ s = .bool (sameK n xs k) ∧ o = .bool (oppK n xs k)) (fun _ _ i => n - (intOf i).toNat)
  case atStart => exact ⟨0, Nat.zero_le _, rfl, by rw [sameK_zero], by rw [oppK_zero]⟩
  case round =>
   obtain ⟨k, hk, rfl, rfl, rfl⟩ := hrel
   have ss := Lib.hid (sameK_succ n xs k)
   have so := Lib.hid (oppK_succ n xs k)
   obtain ⟨q, hq⟩ : ∃ q, q = sameK n xs k := ⟨_, rfl⟩
   obtain ⟨r, hr⟩ : ∃ r, r = oppK n xs k := ⟨_, rfl⟩
   rw [← hq] at ss
   rw [← hr] at so
   rw [← hq, ← hr]
   have HQ := Lib.hid hq
   have HR := Lib.hid hr
   clear hq hr
   by_cases hlt : k < n
   ·have hy1 := HB.out.at' (n - 1 - k) (by rw [HL.out]; omega)
    obtain ⟨x, hx⟩ : ∃ x, x = xs.getD k 0 := ⟨_, rfl⟩
    obtain ⟨y, hy⟩ : ∃ y, y = xs.getD (n - 1 - k) 0 := ⟨_, rfl⟩
    obtain ⟨j, hj⟩ : ∃ j, j = n - 1 - k := ⟨_, rfl⟩
    have c1 : w1.cell? ⟨b, off + k, none⟩ = some (.int .i64 x) := by rw [hx]; exact (BB.out.cell (World.block_lt_of_cell? _ _ (HC0.out k hlt))).trans (HC0.out k hlt)
    have c2 : w1.cell? ⟨b, off + j, none⟩ = some (.int .i64 y) := by rw [hy, hj]; exact (BB.out.cell (World.block_lt_of_cell? _ _ (HC0.out _ (by omega)))).trans (HC0.out _ (by omega))
    rw [← hx, ← hy] at ss so
    rw [← hy] at hy1
    obtain ⟨y1, y2⟩ := hy1
    have hn2 : n = k + 1 + j := by omega
    have e1 : (n : Int) - 1 - (k : Int) = (j : Int) := by omega
    have hjn : j < n := by omega
    clear hx hy hj hn2
    have ha2 : a = some ⟨b, off, none⟩ := HA.out.resolve_left (by omega)
    subst ha2
    have D1 : Hid (decide (x = y) = (x == y)) := Lib.hid (by rw [Bool.eq_iff_iff]; simp)
    have D2 : Hid (decide (x = -y) = (x == -y)) := Lib.hid (by rw [Bool.eq_iff_iff]; simp)
    rw [D1.out] at ss
    rw [D2.out] at so
    cases q
    all_goals
     cases r
     all_goals
      go_wp2
      go_round
      case measure => simp [intOf]; omega
      case rel => exact ⟨k + 1, by omega, by go_num, by rw [ss.out] <;> simp, by rw [so.out] <;> simp⟩
   ·have hkn : k = n := by omega
    have HK := Lib.hid hkn; clear hkn
    have E1 : Hid (sameK n xs n = q) := Lib.hid (by have h := HQ.out; rw [HK.out] at h; exact h.symm)
    have E2 : Hid (oppK n xs n = r) := Lib.hid (by have h := HR.out; rw [HK.out] at h; exact h.symm)
    cases q
    ·cases r
     all_goals
      go_wp2
      go_ret2
      exact ⟨by unfold palV; rw [E1.out, E2.out]; rfl, BB.out⟩
    ·go_wp2
     go_ret2
     exact ⟨by unfold palV; rw [E1.out]; rfl, BB.out⟩
 ·have hb0 : lauB low xs = false := by simpa using hbr
  simp only [mPal, if_neg hbr, Prod.mk.injEq] at hM
  obtain ⟨rfl, rfl⟩ := hM
  clear hbr
  go_enter Try.func49, Try.ntmps49
  go_wp2_with (go_at_call 38; refine (implIsLaurent_any _ _ _ _ xs _ (R.out.alloc _) hn).mono ?_; rintro e w1 ⟨rfl, hb⟩)
  go_ret2
  exact ⟨rfl, below_go (below1 w _) hb (by simp)⟩

end Go.Proofs.Ythpmehhfhngnbaa

