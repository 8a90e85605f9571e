/- Polynomials: their values at a sign: the program. -/
import Derived.Test.YthpmehhfhngnbaaLaVal
namespace Go.Proofs.Ythpmehhfhngnbaa
open Go.RowKit Go.ChangeShapes

/-- The factor of the coefficient at k. -/
def sgF (sign low : Int) (k : Nat) : Int := if sign < 0 ∧ (low + k) % 2 ≠ 0 then -1 else 1

set_option maxRecDepth 100000 in
set_option maxHeartbeats 4000000 in
theorem implValueAtSign_any {low sign : Int} {a : Option Addr} {n cap : Nat} {xs : List Int} {w : World} {fv fc : Int} (hr : Reads w a n xs) (_hf : Fits xs) (hn : n ≤ 1048576) (_hs : (Lit.int .i64 sign).wf = true) (hM : mVal low xs sign = (fv, fc)) :
  Calls Try.prog 47 #[.agg #[.int .i64 low, .slice a n cap], .int .i64 sign] w fun e w' => e = .returned (.tuple #[.int .i64 fv, .int .i64 fc]) ∧ Below w.heap.size w w' := by
 have R := Lib.hid hr; clear hr
 have HL := Lib.hid R.out.len
 by_cases hbr : lauB low xs = true
 ·simp only [mVal, if_pos hbr] at hM
  have HB := Lib.hid (LauB.of hbr)
  have h2001 : n ≤ 2001 := by have := HB.out.len; have := HL.out; omega
  have hlo := HB.out.lo
  have hhi := HB.out.hi
  by_cases hsg : sign = 1 ∨ sign = -1
  ·simp only [if_pos hsg, Prod.mk.injEq] at hM
   obtain ⟨rfl, rfl⟩ := hM
   rw [HL.out]
   have HS : Hid (sign = 1 ∨ sign = -1) := Lib.hid hsg
   clear hsg
   obtain ⟨b, off, ha, hc⟩ : ∃ b off, (n = 0 ∨ a = some ⟨b, off, none⟩) ∧ ∀ j, j < n → w.cell? ⟨b, off + j, none⟩ = some (.int .i64 (xs.getD j 0)) := by
    rcases R.out.2 with h | ⟨b, off, ha, hc⟩
    ·exact ⟨0, 0, .inl h, fun j hj => by omega⟩
    ·exact ⟨b, off, .inr ha, hc⟩
   have HA := Lib.hid ha
   have HC0 := Lib.hid hc
   clear ha hc
   obtain ⟨q, hq, t1⟩ : ∃ q : Bool, Hid (q = decide (low % 2 ≠ 0)) ∧ (low.tmod 2 != 0) = q := ⟨_, Lib.hid rfl, tmod_two_ne low⟩
   have t2 : (sign != 1 && sign != -1) = false := by rcases HS.out with h | h <;> simp [h]
   have t3 : (sign != 1) = false ∨ ((sign != 1) = true ∧ (sign != -1) = false) := by rcases HS.out with h | h <;> simp [h]
   have F0 : Hid (sgF sign low 0 = if q = true then sign else 1) := Lib.hid (by
    unfold sgF
    rw [hq.out]
    have := HS.out
    simp only [Int.natCast_zero, Int.add_zero, decide_eq_true_eq]
    by_cases hp : low % 2 = 0
    ·rw [if_neg (by omega), if_neg (by omega)]
    ·rw [if_pos hp]
     by_cases hs : sign < 0
     ·rw [if_pos ⟨hs, hp⟩]; omega
     ·rw [if_neg (by omega)]; omega)
   clear t2
   have T3 := Lib.hid t3
   clear t3 hq
   cases q
   all_goals
    rcases T3.out with t3 | ⟨t3, t4⟩
    all_goals
     go_enter Try.func47, Try.ntmps47
     go_wp2_with fail
     refine (implIsLaurent_any _ _ _ _ xs _ (R.out.alloc _) hn).mono ?_
     rintro e w1 ⟨rfl, hb⟩
     obtain ⟨q1, q2, q3, q4, q5⟩ := (At2.new w (.int .i64 low) (.slice a n cap) 56).below hb
     have BB := Lib.hid (below_go (below1 w (.cells #[.int .i64 low, .slice a n cap] 56)) hb (by simp)); clear hb
     have HC : Hid (∀ j, j < n → w1.cell? ⟨b, off + j, none⟩ = some (.int .i64 (xs.getD j 0))) := Lib.hid (fun j hj => (BB.out.cell (World.block_lt_of_cell? _ _ (HC0.out j hj))).trans (HC0.out j hj))
     go_wp2
     go_loop [6, 7, 27] (fun v f i => ∃ k : Nat, k ≤ n ∧ i = .int .i64 k ∧ v = .int .i64 (valS sign low xs k) ∧ f = .int .i64 (sgF sign low k)) (fun _ _ i => n - (intOf i).toNat)
     case atStart => exact ⟨0, Nat.zero_le _, rfl, rfl, by rw [F0.out]; rfl⟩
     case round =>
      obtain ⟨k, hk, rfl, rfl, rfl⟩ := hrel
      obtain ⟨b1, b2⟩ := valS_bd (sign := sign) (low := low) HB.out.at' k (by rw [HL.out]; exact hk)
      have st : Hid (valS sign low xs (k + 1) = if sign < 0 ∧ (low + k) % 2 ≠ 0 then valS sign low xs k - xs.getD k 0 else valS sign low xs k + xs.getD k 0) := Lib.hid rfl
      have sf : Hid (sgF sign low k = if sign < 0 ∧ (low + k) % 2 ≠ 0 then -1 else 1) := Lib.hid rfl
      have sg : Hid (sgF sign low (k + 1) = if sign < 0 ∧ (low + k) % 2 = 0 then -1 else 1) := Lib.hid (by
       unfold sgF
       by_cases hh : sign < 0 ∧ (low + k) % 2 = 0
       ·rw [if_pos hh, if_pos (by omega)]
       ·rw [if_neg hh, if_neg (by omega)])
      obtain ⟨v, hv⟩ : ∃ v, v = valS sign low xs k := ⟨_, rfl⟩
      rw [← hv] at b1 b2 st ⊢
      obtain ⟨f, hf⟩ : ∃ f, f = sgF sign low k := ⟨_, rfl⟩
      rw [← hf] at sf ⊢
      have HV := Lib.hid hv; clear hv hf
      by_cases hlt : k < n
      ·have hx1 := HB.out.at' k (by rw [HL.out]; exact hlt)
       obtain ⟨x, hx⟩ : ∃ x, x = xs.getD k 0 := ⟨_, rfl⟩
       have hcx := HC.out k hlt
       rw [← hx] at hcx hx1 st
       clear hx
       obtain ⟨x1, x2⟩ := hx1
       have b3 : -2100000000000000 ≤ v := by omega
       have b4 : v ≤ 2100000000000000 := by omega
       clear b1 b2
       have ha2 : a = some ⟨b, off, none⟩ := HA.out.resolve_left (by omega)
       subst ha2
       have hh : Hid ((f = 1 ∧ sgF sign low (k + 1) = sign ∧ valS sign low xs (k + 1) = v + x) ∨ (f = -1 ∧ sign = -1 ∧ sgF sign low (k + 1) = 1 ∧ valS sign low xs (k + 1) = v - x)) := Lib.hid (by
        rw [st.out, sf.out, sg.out]
        have := HS.out
        by_cases hc : sign < 0 ∧ (low + k) % 2 ≠ 0
        ·rw [if_pos hc, if_neg (by omega), if_pos hc]; right; omega
        ·rw [if_neg hc, if_neg hc]; left
         by_cases hd : sign < 0 ∧ (low + k) % 2 = 0
         ·rw [if_pos hd]; omega
         ·rw [if_neg hd]; omega)
       clear st sf sg
       rcases hh.out with ⟨rfl, e1, e2⟩ | ⟨rfl, e0, e1, e2⟩
       ·have E1 := Lib.hid e1
        have E2 := Lib.hid e2
        clear e1 e2 hh
        rcases HS.out with hs1 | hs1
        all_goals
         subst hs1
         go_wp2
         go_round
         case rel => exact ⟨k + 1, by omega, by go_num, by rw [E2.out] <;> go_num, by rw [E1.out] <;> go_num⟩
         case measure => simp [intOf]; omega
       ·have E1 := Lib.hid e1
        have E2 := Lib.hid e2
        clear e1 e2 hh
        subst e0
        go_wp2
        go_round
        case rel => exact ⟨k + 1, by omega, by go_num, by rw [E2.out] <;> go_num, by rw [E1.out] <;> go_num⟩
        case measure => simp [intOf]; omega
      ·have hkn : k = n := by omega
       have HK := Lib.hid hkn; clear hkn
       go_wp2
       go_ret2
       exact ⟨by rw [HV.out, HK.out]; rfl, BB.out⟩
  ·simp only [if_neg hsg, Prod.mk.injEq] at hM
   obtain ⟨rfl, rfl⟩ := hM
   have t1 : (sign != 1) = true := by simp; omega
   have t2 : (sign != -1) = true := by simp; omega
   have HSG := Lib.hid hsg; clear hsg
   go_enter Try.func47, Try.ntmps47
   go_wp2_with (go_at_call 38; refine (implIsLaurent_any _ _ _ _ xs _ (R.out.alloc _) hn).mono ?_; rintro e w1 ⟨rfl, hb⟩)
   go_ret2
   exact ⟨rfl, below_go (below1 w _) hb (by simp)⟩
 ·have hb0 : lauB low xs = false := by simpa using hbr
  simp only [mVal, if_neg hbr, Prod.mk.injEq] at hM
  obtain ⟨rfl, rfl⟩ := hM
  clear hbr
  go_enter Try.func47, Try.ntmps47
  go_wp2_with (go_at_call 38; refine (implIsLaurent_any _ _ _ _ xs _ (R.out.alloc _) hn).mono ?_; rintro e w1 ⟨rfl, hb⟩)
  go_ret2
  exact ⟨rfl, below_go (below1 w _) hb (by simp)⟩

end Go.Proofs.Ythpmehhfhngnbaa

