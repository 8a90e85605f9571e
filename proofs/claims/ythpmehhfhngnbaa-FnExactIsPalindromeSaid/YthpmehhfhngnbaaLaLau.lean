/- Polynomials: what is one: the model's answer and the program's. -/
import Derived.Test.YthpmehhfhngnbaaLaBasL
import Derived.Test.YthpmehhfhngnbaaLaLauP
import Derived.Test.YthpmehhfhngnbaaLaMC
namespace Go.Proofs.Ythpmehhfhngnbaa
open Go.RowKit Go.ChangeShapes

set_option maxRecDepth 100000 in
set_option maxHeartbeats 2000000 in
theorem l05Is_any (low : Int) (a : Option Addr) (n cap : Nat) (xs : List Int) (w : World) (hr : Reads w a n xs) (hn : n ≤ 1048576) :
  Calls Try.prog 78 #[.agg #[.int .i64 low, .slice a n cap]] w fun e w' => e = .returned (.bool (lauB low xs)) ∧ Below w.heap.size w w' := by
 have HL := Lib.hid hr.len
 have HR := Lib.hid hr; clear hr
 rcases Nat.eq_zero_or_pos n with h0 | h0
 ·subst h0
  go_enter Try.func78, Try.ntmps78
  go_wp2
  go_ret
  exact ⟨ret_bool (by rw [lauB_zero HL.out, Bool.eq_iff_iff]; simp), below1 w _⟩
 ·obtain ⟨m, rfl⟩ : ∃ m, n = m + 1 := ⟨n - 1, by omega⟩
  obtain ⟨b, off, rfl, hb, hc⟩ := (HR.out.alloc (.cells #[.int .i64 low, .slice a (m + 1) cap] 56)).cells h0
  have HC := Lib.hid hc; clear hc hb h0
  have c0 := HC.out 0 (by omega)
  have cm := HC.out m (by omega)
  simp only [Nat.add_zero] at c0
  obtain ⟨x0, hx0⟩ : ∃ x, x = xs.getD 0 0 := ⟨_, rfl⟩
  obtain ⟨xm, hxm⟩ : ∃ x, x = xs.getD m 0 := ⟨_, rfl⟩
  rw [← hx0] at c0
  rw [← hxm] at cm
  have HX0 := Lib.hid hx0; clear hx0
  have HXM := Lib.hid hxm; clear hxm
  have go : Hid (low < -1000 ∨ 1000 < low + m ∨ x0 = 0 ∨ xm = 0) → Hid (lauB low xs = false) := fun h => Lib.hid (lauB_bad HL.out (by rw [← HX0.out, ← HXM.out]; exact h.out))
  by_cases h1 : m + 1 ≤ 2001
  ·by_cases h2 : inB low (-1000) 1000 = true
   ·obtain ⟨g1, g2⟩ := (inB_iff _ _ _).1 h2
    by_cases h3 : low + m ≤ 1000
    ·by_cases h4 : x0 = 0
     ·have GO := go (Lib.hid (.inr (.inr (.inl h4))))
      clear go
      subst h4
      go_enter Try.func78, Try.ntmps78
      go_wp2_with (go_at_call 90; refine (l01In_any _ _ _ _).mono ?_; rintro e w' ⟨rfl, rfl⟩)
      go_ret
      exact ⟨ret_bool GO.out.symm, below1 w _⟩
     ·by_cases h5 : xm = 0
      ·have GO := go (Lib.hid (.inr (.inr (.inr h5))))
       clear go
       subst h5
       have t1 : (x0 == 0) = false := by simpa using h4
       go_enter Try.func78, Try.ntmps78
       go_wp2_with (go_at_call 90; refine (l01In_any _ _ _ _).mono ?_; rintro e w' ⟨rfl, rfl⟩)
       go_ret
       exact ⟨ret_bool GO.out.symm, below1 w _⟩
      ·clear go
       have t1 : (x0 == 0) = false := by simpa using h4
       have t2 : (xm == 0) = false := by simpa using h5
       have H4 := Lib.hid h4; clear h4
       have H5 := Lib.hid h5; clear h5
       go_enter Try.func78, Try.ntmps78
       go_wp2_with (go_at_call 90; refine (l01In_any _ _ _ _).mono ?_; rintro e w' ⟨rfl, rfl⟩)
       go_loop [4] (fun i => ∃ k : Nat, k ≤ m + 1 ∧ i = .int .i64 k ∧ Hid (∀ j, j < k → inB (xs.getD j 0) (-1000000000000) 1000000000000 = true)) (fun i => m + 1 - (intOf i).toNat)
       case atStart => exact ⟨0, Nat.zero_le _, rfl, Lib.hid (fun j hj => absurd hj (Nat.not_lt_zero _))⟩
       case round =>
        obtain ⟨k, hk, rfl, HS⟩ := hrel
        by_cases hlt : k < m + 1
        ·obtain ⟨x, hx⟩ : ∃ x, x = xs.getD k 0 := ⟨_, rfl⟩
         have hcx := HC.out k hlt
         rw [← hx] at hcx
         have HX := Lib.hid hx; clear hx
         by_cases p1 : inB x (-1000000000000) 1000000000000 = true
         ·go_wp2_with (go_at_call 90; refine (l01In_any _ _ _ _).mono ?_; rintro e w' ⟨rfl, rfl⟩)
          go_round
          case rel =>
           refine ⟨k + 1, by omega, by go_num, Lib.hid fun j hj => ?_⟩
           by_cases hjk : j = k
           ·rw [hjk, ← HX.out]; exact p1
           ·exact HS.out j (by omega)
          case measure => simp [intOf]; omega
         ·have p1' : inB x (-1000000000000) 1000000000000 = false := by simpa using p1
          clear p1
          go_wp2_with (go_at_call 90; refine (l01In_any _ _ _ _).mono ?_; rintro e w' ⟨rfl, rfl⟩)
          go_ret
          have : lauB low xs = false := lauB_big HL.out hlt (by rw [← HX.out]; exact p1')
          exact ⟨ret_bool this.symm, below1 w _⟩
        ·have hkn : k = m + 1 := by omega
         have HK := Lib.hid hkn; clear hkn
         go_wp2
         go_ret
         have : lauB low xs = true := lauB_good HL.out g1 h3 (by rw [← HX0.out]; exact H4.out) (by rw [← HXM.out]; exact H5.out) (fun j hj => HS.out j (by rw [HK.out]; exact hj))
         exact ⟨ret_bool this.symm, below1 w _⟩
    ·have GO := go (Lib.hid (.inr (.inl (by omega))))
     clear go
     go_enter Try.func78, Try.ntmps78
     go_wp2_with (go_at_call 90; refine (l01In_any _ _ _ _).mono ?_; rintro e w' ⟨rfl, rfl⟩)
     go_ret
     exact ⟨ret_bool GO.out.symm, below1 w _⟩
   ·have h2' : inB low (-1000) 1000 = false := by simpa using h2
    clear h2
    have GO := go (Lib.hid (by have := (inB_not _ _ _).1 h2'; omega))
    clear go
    go_enter Try.func78, Try.ntmps78
    go_wp2_with (go_at_call 90; refine (l01In_any _ _ _ _).mono ?_; rintro e w' ⟨rfl, rfl⟩)
    go_ret
    exact ⟨ret_bool GO.out.symm, below1 w _⟩
  ·have GO := go (Lib.hid (by omega))
   clear go
   go_enter Try.func78, Try.ntmps78
   go_wp2
   go_ret
   exact ⟨ret_bool GO.out.symm, below1 w _⟩

theorem isSmallNumber_any (x : Int) (w : World) :
  Calls Try.prog 79 #[.int .i64 x] w fun e w' => e = .returned (.bool (inB x (-1000000000000) 1000000000000)) ∧ w = w' := by
 by_cases h1 : -1000000000000 ≤ x
 ·by_cases h2 : x ≤ 1000000000000
  all_goals
   go_enter Try.func79, Try.ntmps79
   go_wp2
   go_ret
   exact ⟨ret_bool (by simp [inB, h1, h2]), rfl⟩
 ·go_enter Try.func79, Try.ntmps79
  go_wp2
  go_ret
  exact ⟨ret_bool (by simp [inB]; omega), rfl⟩

set_option maxRecDepth 100000 in
set_option maxHeartbeats 2000000 in
theorem implIsLaurent_any (low : Int) (a : Option Addr) (n cap : Nat) (xs : List Int) (w : World) (hr : Reads w a n xs) (hn : n ≤ 1048576) :
  Calls Try.prog 38 #[.agg #[.int .i64 low, .slice a n cap]] w fun e w' => e = .returned (.bool (lauB low xs)) ∧ Below w.heap.size w w' := by
 have HL := Lib.hid hr.len
 have HR := Lib.hid hr; clear hr
 rcases Nat.eq_zero_or_pos n with h0 | h0
 ·subst h0
  go_enter Try.func38, Try.ntmps38
  go_wp2
  go_ret
  exact ⟨ret_bool (by rw [lauB_zero HL.out, Bool.eq_iff_iff]; simp), below1 w _⟩
 ·obtain ⟨m, rfl⟩ : ∃ m, n = m + 1 := ⟨n - 1, by omega⟩
  obtain ⟨b, off, rfl, hb, hc⟩ := (HR.out.alloc (.cells #[.int .i64 low, .slice a (m + 1) cap] 56)).cells h0
  have HC := Lib.hid hc; clear hc hb h0
  have c0 := HC.out 0 (by omega)
  have cm := HC.out m (by omega)
  simp only [Nat.add_zero] at c0
  obtain ⟨x0, hx0⟩ : ∃ x, x = xs.getD 0 0 := ⟨_, rfl⟩
  obtain ⟨xm, hxm⟩ : ∃ x, x = xs.getD m 0 := ⟨_, rfl⟩
  rw [← hx0] at c0
  rw [← hxm] at cm
  have HX0 := Lib.hid hx0; clear hx0
  have HXM := Lib.hid hxm; clear hxm
  have go : Hid (low < -1000 ∨ 1000 < low + m ∨ x0 = 0 ∨ xm = 0) → Hid (lauB low xs = false) := fun h => Lib.hid (lauB_bad HL.out (by rw [← HX0.out, ← HXM.out]; exact h.out))
  by_cases g1 : -1000 ≤ low
  ·by_cases h3 : low + m ≤ 1000
   ·have h6 : Hid (x0 = 0 ∨ xm = 0 ∨ (x0 ≠ 0 ∧ xm ≠ 0)) := Lib.hid (by omega)
    go_enter Try.func38, Try.ntmps38
    go_wp2
    go_loop [27] (fun i => ∃ k : Nat, k ≤ m + 1 ∧ i = .int .i64 k ∧ Hid (∀ j, j < k → inB (xs.getD j 0) (-1000000000000) 1000000000000 = true)) (fun i => m + 1 - (intOf i).toNat)
    case atStart => exact ⟨0, Nat.zero_le _, rfl, Lib.hid (fun j hj => absurd hj (Nat.not_lt_zero _))⟩
    case round =>
     obtain ⟨k, hk, rfl, HS⟩ := hrel
     by_cases hlt : k < m + 1
     ·obtain ⟨x, hx⟩ : ∃ x, x = xs.getD k 0 := ⟨_, rfl⟩
      have hcx := HC.out k hlt
      rw [← hx] at hcx
      have HX := Lib.hid hx; clear hx
      by_cases p1 : inB x (-1000000000000) 1000000000000 = true
      ·go_wp2_with (go_at_call 79; refine (isSmallNumber_any _ _).mono ?_; rintro e w' ⟨rfl, rfl⟩)
       go_round
       case rel =>
        refine ⟨k + 1, by omega, by go_num, Lib.hid fun j hj => ?_⟩
        by_cases hjk : j = k
        ·rw [hjk, ← HX.out]; exact p1
        ·exact HS.out j (by omega)
       case measure => simp [intOf]; omega
      ·have p1' : inB x (-1000000000000) 1000000000000 = false := by simpa using p1
       clear p1
       go_wp2_with (go_at_call 79; refine (isSmallNumber_any _ _).mono ?_; rintro e w' ⟨rfl, rfl⟩)
       go_ret
       have : lauB low xs = false := lauB_big HL.out hlt (by rw [← HX.out]; exact p1')
       exact ⟨ret_bool this.symm, below1 w _⟩
     ·have hkn : k = m + 1 := by omega
      have HK := Lib.hid hkn; clear hkn
      rcases h6.out with h4 | h4 | ⟨h4, h5⟩
      ·have GO := go (Lib.hid (.inr (.inr (.inl h4))))
       clear go h6
       subst h4
       go_wp2
       go_ret
       exact ⟨ret_bool GO.out.symm, below1 w _⟩
      ·have GO := go (Lib.hid (.inr (.inr (.inr h4))))
       clear go h6
       subst h4
       by_cases h5 : x0 = 0
       all_goals
        try have t1 : (x0 != 0) = true := by simpa using h5
        try subst h5
        go_wp2
        go_ret
        exact ⟨ret_bool GO.out.symm, below1 w _⟩
      ·have t1 : (x0 != 0) = true := by simpa using h4
       have t2 : (xm != 0) = true := by simpa using h5
       have : Hid (lauB low xs = true) := Lib.hid (lauB_good HL.out g1 h3 (by rw [← HX0.out]; exact h4) (by rw [← HXM.out]; exact h5) (fun j hj => HS.out j (by rw [HK.out]; exact hj)))
       clear go h6 h4 h5
       go_wp2
       go_ret
       exact ⟨ret_bool this.out.symm, below1 w _⟩
   ·have GO := go (Lib.hid (.inr (.inl (by omega))))
    clear go
    go_enter Try.func38, Try.ntmps38
    go_wp2
    go_ret
    exact ⟨ret_bool GO.out.symm, below1 w _⟩
  ·have GO := go (Lib.hid (.inl (by omega)))
   clear go
   go_enter Try.func38, Try.ntmps38
   go_wp2
   go_ret
   exact ⟨ret_bool GO.out.symm, below1 w _⟩

end Go.Proofs.Ythpmehhfhngnbaa

