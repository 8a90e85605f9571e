/- What is a braid: the program's answer. -/
import Derived.Test.YtehcbamfendbaaaSeQA
namespace Go.Proofs.Ytehcbamfendbaaa
open Go.RowKit Go.ChangeShapes

theorem fits_any (x s : Int) (w : World) (h1 : 1 ≤ s) (h2 : s ≤ 8) :
  Calls Try.prog 104 #[.int .i64 x, .int .i64 s] w fun e w' => e = .returned (.bool (okLetter s x)) ∧ w = w' := by
 by_cases p1 : x = 0
 ·have t1 : (x != 0) = false := by simp [p1]
  have H1 := Lib.hid p1; clear p1
  go_enter Try.func104, Try.ntmps104
  go_wp2
  go_ret
  exact ⟨ret_bool (by simp [okLetter, H1.out]), rfl⟩
 ·have t1 : (x != 0) = true := by simp [p1]
  have H1 := Lib.hid p1; clear p1
  by_cases p2 : -s < x
  ·by_cases p3 : x < s
   all_goals
    go_enter Try.func104, Try.ntmps104
    go_wp2
    go_ret
    exact ⟨ret_bool (by have := H1.out; simp [okLetter, p2, this]; omega), rfl⟩
  ·go_enter Try.func104, Try.ntmps104
   go_wp2
   go_ret
   exact ⟨ret_bool (by simp [okLetter]; omega), rfl⟩

theorem isBraid_low (s : Int) (xs : List Int) (h : s < 1 ∨ 8 < s ∨ 200 < xs.length) : isBraid s xs = false := by
 rw [← Bool.not_eq_true, isBraid_iff]
 omega

set_option maxHeartbeats 400000 in
theorem implIsBraid_any (s : Int) (a : Option Addr) (n cap : Nat) (xs : List Int) (w : World) (hr : Reads w a n xs) (hn : n ≤ 1048576) :
  Calls Try.prog 67 #[.agg #[.int .i64 s, .slice a n cap]] w fun e w' => e = .returned (.bool (isBraid s xs)) ∧ Below w.heap.size w w' := by
 have hl := hr.len
 have HL := Lib.hid hl; clear hl
 have HR := Lib.hid hr; clear hr
 by_cases g1 : 1 ≤ s
 ·by_cases g2 : s ≤ 8
  ·by_cases h2 : n ≤ 200
   ·rcases Nat.eq_zero_or_pos n with h0 | h0
    ·have HZ := Lib.hid h0; clear h0
     have hz : (n : Int) ≤ 0 := by rw [HZ.out]; simp
     go_enter Try.func67, Try.ntmps67
     go_wp2
     refine wp_loop_rounds 1 ?_; rw [rounds_succ]
     go_wp2
     go_ret
     have : isBraid s xs = true := isBraid_all s n xs g1 g2 h2 HL.out (fun j hj => by have := HZ.out; omega)
     exact ⟨ret_bool this.symm, below1 w _⟩
    ·obtain ⟨b, off, rfl, hb, hc⟩ := (HR.out.alloc (.cells #[.int .i64 s, .slice a n cap] 29)).cells h0
     have HC := Lib.hid hc; clear hc
     go_enter Try.func67, Try.ntmps67
     go_wp2
     go_loop [22] (fun i => ∃ k : Nat, k ≤ n ∧ i = .int .i64 k ∧ Hid (∀ j, j < k → okLetter s (xs.getD j 0) = true)) (fun i => n - (intOf i).toNat)
     case atStart => exact ⟨0, Nat.zero_le _, rfl, Lib.hid (fun j hj => absurd hj (Nat.not_lt_zero _))⟩
     case round =>
      obtain ⟨k, hk, rfl, HS⟩ := hrel
      by_cases hlt : k < n
      ·obtain ⟨x, hx⟩ : ∃ x, x = xs.getD k 0 := ⟨_, rfl⟩
       have h1 := HC.out k hlt
       rw [← hx] at h1
       have HX := Lib.hid hx; clear hx
       by_cases p1 : okLetter s x = true
       ·go_wp2_with (go_at_call 104; refine (fits_any _ _ _ g1 g2).mono ?_; rintro e w' ⟨rfl, rfl⟩)
        go_round
        case rel =>
         refine ⟨k + 1, by omega, by go_num, Lib.hid fun j hj => ?_⟩
         by_cases hjk : j = k
         ·rw [hjk, ← HX.out]; exact p1
         ·exact HS.out j (by omega)
        case measure => simp [intOf]; omega
       ·have p1' : okLetter s x = false := by simpa using p1
        clear p1
        go_wp2_with (go_at_call 104; refine (fits_any _ _ _ g1 g2).mono ?_; rintro e w' ⟨rfl, rfl⟩)
        go_ret
        have : isBraid s xs = false := isBraid_bad s xs k (by rw [HL.out]; exact hlt) (by rw [← HX.out]; exact p1')
        exact ⟨ret_bool this.symm, below1 w _⟩
      ·have hkn : k = n := by omega
       have HK := Lib.hid hkn; clear hkn
       go_wp2
       go_ret
       have : isBraid s xs = true := isBraid_all s n xs g1 g2 h2 HL.out (fun j hj => HS.out j (by rw [HK.out]; exact hj))
       exact ⟨ret_bool this.symm, below1 w _⟩
   ·go_enter Try.func67, Try.ntmps67
    go_wp2
    go_ret
    exact ⟨ret_bool (isBraid_low s xs (by rw [HL.out]; omega)).symm, below1 w _⟩
  ·go_enter Try.func67, Try.ntmps67
   go_wp2
   go_ret
   exact ⟨ret_bool (isBraid_low s xs (by omega)).symm, below1 w _⟩
 ·go_enter Try.func67, Try.ntmps67
  go_wp2
  go_ret
  exact ⟨ret_bool (isBraid_low s xs (by omega)).symm, below1 w _⟩

end Go.Proofs.Ytehcbamfendbaaa

