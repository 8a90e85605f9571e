/- Polynomials: their values at a sign, and palindromes: the model and the program. -/
import Derived.Test.YthpmehhfhngnbaaLaLau
import Derived.BigQuiet
namespace Go.Proofs.Ythpmehhfhngnbaa
open Go.RowKit Go.ChangeShapes

theorem tmod_two_ne (x : Int) : (x.tmod 2 != 0) = decide (x % 2 ≠ 0) := by
 rw [Bool.eq_iff_iff]
 simp only [bne_iff_ne, ne_eq, decide_eq_true_eq]
 constructor
 ·intro h k
  exact h (Int.tmod_eq_zero_of_dvd (Int.dvd_of_emod_eq_zero k))
 ·intro h k
  exact h (Int.emod_eq_zero_of_dvd (Int.dvd_of_tmod_eq_zero k))

set_option maxRecDepth 100000 in
set_option maxHeartbeats 2000000 in
theorem l05Value_any (low sign : Int) (a : Option Addr) (n cap : Nat) (xs : List Int) (w : World) (hr : Reads w a n xs) (hl : LauB low xs) :
  Calls Try.prog 88 #[.agg #[.int .i64 low, .slice a n cap], .int .i64 sign] w fun e w' => e = .returned (.int .i64 (valS sign low xs n)) ∧ Below w.heap.size w w' := by
 have HL := Lib.hid hr.len
 have h2001 : n ≤ 2001 := by have := hl.len; have := HL.out; omega
 have hlo := hl.lo
 have hhi := hl.hi
 have HB := Lib.hid hl; clear hl
 have HR := Lib.hid hr; clear hr
 rcases Nat.eq_zero_or_pos n with h0 | h0
 ·subst h0
  go_enter Try.func88, Try.ntmps88
  go_wp2
  refine wp_loop_rounds 1 ?_; rw [rounds_succ]
  go_wp2
  go_ret
  exact ⟨ret_int rfl, below1 w _⟩
 ·obtain ⟨b, off, rfl, hb, hc⟩ := (HR.out.alloc (.cells #[.int .i64 low, .slice a n cap] 56)).cells h0
  have HC := Lib.hid hc; clear hc hb h0
  go_enter Try.func88, Try.ntmps88
  go_wp2
  go_loop [5, 6] (fun v i => ∃ k : Nat, k ≤ n ∧ i = .int .i64 k ∧ v = .int .i64 (valS sign low xs k)) (fun _ i => n - (intOf i).toNat)
  case atStart => exact ⟨0, Nat.zero_le _, rfl, rfl⟩
  case round =>
   obtain ⟨k, hk, rfl, rfl⟩ := hrel
   have bd := valS_bd (sign := sign) (low := low) HB.out.at' k (by rw [HL.out]; exact hk)
   obtain ⟨b1, b2⟩ := bd
   have st : Hid (valS sign low xs (k + 1) = if sign < 0 ∧ (low + k) % 2 ≠ 0 then valS sign low xs k - xs.getD k 0 else valS sign low xs k + xs.getD k 0) := Lib.hid rfl
   obtain ⟨v, hv⟩ : ∃ v, v = valS sign low xs k := ⟨_, rfl⟩
   rw [← hv] at b1 b2 st ⊢
   have HV := Lib.hid hv; clear hv
   by_cases hlt : k < n
   ·have hx1 := HB.out.at' k (by rw [HL.out]; exact hlt)
    obtain ⟨x, hx⟩ : ∃ x, x = xs.getD k 0 := ⟨_, rfl⟩
    have hcx := HC.out k hlt
    rw [← hx] at hcx hx1 st
    clear hx
    obtain ⟨x1, x2⟩ := hx1
    have b3 : -2100000000000000 ≤ v := by omega
    have b4 : v ≤ 2100000000000000 := by omega
    clear b1 b2
    by_cases hs : sign < 0
    ·by_cases hp : (low + k) % 2 = 0
     ·have t1 : ((low + k).tmod 2 != 0) = false := by rw [tmod_two_ne]; simpa using hp
      have E : Hid (valS sign low xs (k + 1) = v + x) := Lib.hid (by rw [st.out, if_neg (by omega)])
      clear st
      go_wp2
      go_round
      case rel => exact ⟨k + 1, by omega, by go_num, by rw [E.out]⟩
      case measure => simp [intOf]; omega
     ·have t1 : ((low + k).tmod 2 != 0) = true := by rw [tmod_two_ne]; simpa using hp
      have E : Hid (valS sign low xs (k + 1) = v - x) := Lib.hid (by rw [st.out, if_pos ⟨hs, hp⟩])
      clear st
      go_wp2
      go_round
      case rel => exact ⟨k + 1, by omega, by go_num, by rw [E.out]⟩
      case measure => simp [intOf]; omega
    ·have E : Hid (valS sign low xs (k + 1) = v + x) := Lib.hid (by rw [st.out, if_neg (by omega)])
     clear st
     go_wp2
     go_round
     case rel => exact ⟨k + 1, by omega, by go_num, by rw [E.out]⟩
     case measure => simp [intOf]; omega
   ·have hkn : k = n := by omega
    have HK := Lib.hid hkn; clear hkn
    go_wp2
    go_ret
    exact ⟨ret_int (by rw [HV.out, HK.out]), below1 w _⟩

set_option maxRecDepth 100000 in
set_option maxHeartbeats 2000000 in
theorem specValueAtSign_any {low sign : Int} {a : Option Addr} {n cap : Nat} {xs : List Int} {w : World} {fv fc : Int} (hr : Reads w a n xs) (_hf : Fits xs) (hn : n ≤ 1048576) (_hs : (Lit.int .i64 sign).wf = true) (hM : mVal low xs sign = (fv, fc)) :
  Calls Try.prog 46 #[.agg #[.int .i64 low, .slice a n cap], .int .i64 sign] w fun e w' => e = .returned (.tuple #[.int .i64 fv, .int .i64 fc]) ∧ Below w.heap.size w w' := by
 have R := Lib.hid hr; clear hr
 have HL := Lib.hid R.out.len
 by_cases hbr : lauB low xs = true
 ·simp only [mVal, if_pos hbr] at hM
  by_cases hsg : sign = 1 ∨ sign = -1
  ·simp only [if_pos hsg, Prod.mk.injEq] at hM
   obtain ⟨rfl, rfl⟩ := hM
   have t1 : (sign != 1 && sign != -1) = false := by rcases hsg with h | h <;> simp [h]
   have HS : Hid (sign = 1 ∨ sign = -1) := Lib.hid hsg
   clear hsg t1
   rcases HS.out with h1 | h1
   all_goals
    subst h1
    go_enter Try.func46, Try.ntmps46
    go_wp2_with fail
    refine (l05Is_any _ _ _ _ xs _ (R.out.alloc _) hn).mono ?_
    rintro e w1 ⟨rfl, hb⟩
    obtain ⟨q1, q2, q3, q4, q5⟩ := (At2.new w (.int .i64 low) (.slice a n cap) 56).below hb
    have R1 := Lib.hid ((R.out.alloc (.cells #[.int .i64 low, .slice a n cap] 56)).below hb)
    have BB := Lib.hid (below_go (below1 w _) hb (by simp)); clear hb
    go_wp2_with (go_at_call 88; refine (l05Value_any _ _ _ _ _ _ _ R1.out (LauB.of hbr)).mono ?_; rintro e w' ⟨rfl, hb⟩)
    go_ret2
    exact ⟨by rw [HL.out]; rfl, below_go BB.out hb BB.out.size⟩
  ·simp only [if_neg hsg, Prod.mk.injEq] at hM
   obtain ⟨rfl, rfl⟩ := hM
   have t1 : (sign != 1) = true := by simp; omega
   have t2 : (sign != -1) = true := by simp; omega
   have HSG := Lib.hid hsg; clear hsg
   go_enter Try.func46, Try.ntmps46
   go_wp2_with (go_at_call 78; refine (l05Is_any _ _ _ _ xs _ (R.out.alloc _) hn).mono ?_; rintro e w1 ⟨rfl, hb⟩)
   go_ret2
   exact ⟨rfl, below_go (below1 w _) hb (by simp)⟩
 ·have hb0 : lauB low xs = false := by simpa using hbr
  simp only [mVal, if_neg hbr, Prod.mk.injEq] at hM
  obtain ⟨rfl, rfl⟩ := hM
  clear hbr
  go_enter Try.func46, Try.ntmps46
  go_wp2_with (go_at_call 78; refine (l05Is_any _ _ _ _ xs _ (R.out.alloc _) hn).mono ?_; rintro e w1 ⟨rfl, hb⟩)
  go_ret2
  exact ⟨rfl, below_go (below1 w _) hb (by simp)⟩

end Go.Proofs.Ythpmehhfhngnbaa

