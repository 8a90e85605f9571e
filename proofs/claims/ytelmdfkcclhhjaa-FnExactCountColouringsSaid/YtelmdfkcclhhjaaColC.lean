/- Colours: the codes, the model's and the program's. -/
import Derived.Test.YtelmdfkcclhhjaaColP
import Derived.Test.YtelmdfkcclhhjaaFwI
import Derived.BigQuiet
namespace Go.Proofs.Ytelmdfkcclhhjaa
open Go.RowKit Go.ChangeShapes

set_option maxRecDepth 100000 in
set_option maxHeartbeats 1000000 in
theorem l08Prime_any (p : Int) (w : World) :
    Calls Try.prog 47 #[.int .i64 p] w fun e w' => e = .returned (.bool (isPrm p)) ∧ w = w' := by
  by_cases hb : inB p 3 97 = true
  · obtain ⟨b1, b2⟩ := (inB_iff _ _ _).1 hb
    have HBI := Lib.hid hb
    go_enter Try.func47, Try.ntmps47
    go_wp2_with (go_at_call 77; refine (l01In_any _ _ _ _).mono ?_; rintro e w' ⟨rfl, rfl⟩)
    go_loop [3] (fun i => ∃ k : Nat, 2 ≤ k ∧ (k : Int) ≤ p ∧ i = .int .i64 k ∧ Hid (∀ j : Nat, 2 ≤ j → j < k → p.tmod (j : Int) ≠ 0)) (fun i => (p - intOf i).toNat)
    case atStart => exact ⟨2, Nat.le_refl _, by omega, rfl, Lib.hid (fun j h1 h2 => by omega)⟩
    case round =>
      obtain ⟨k, hk2, hkp, rfl, HS⟩ := hrel
      by_cases hlt : (k : Int) < p
      · have hk0 : ¬ (k : Int) = 0 := by omega
        have hk0n : ¬ k = 0 := by omega
        have hre : p.tmod (k : Int) = p % (k : Int) := Int.tmod_eq_emod_of_nonneg (by omega)
        by_cases hm : p % (k : Int) = 0
        · have t1 : (p % (k : Int) == 0) = true := by simp [hm]
          have hbad : isPrm p = false := isPrm_bad p k hk2 hlt (by rw [hre]; exact hm)
          have HBAD := Lib.hid hbad
          clear hbad hm
          go_wp2
          go_ret
          exact ⟨ret_bool HBAD.out.symm, rfl⟩
        · have t1 : (p % (k : Int) == 0) = false := by simp [hm]
          have HM := Lib.hid hm
          have HRE := Lib.hid hre
          clear hm
          have hw : IntKind.i64.wrap ((k : Int) + 1) = (k : Int) + 1 := IntWalk.i64_in _ (by omega)
          go_wp2
          go_round
          case rel =>
            refine ⟨k + 1, by omega, by omega, by go_num, Lib.hid fun j h1 h2 => ?_⟩
            by_cases hjk : j = k
            · rw [hjk, HRE.out]; exact HM.out
            · exact HS.out j h1 (by omega)
          case measure => simp [intOf]; omega
      · have hkn : (k : Int) = p := by omega
        have hok : isPrm p = true := isPrm_all p HBI.out (fun j h1 h2 => HS.out j h1 (by omega))
        have HOK := Lib.hid hok; clear hok hkn
        go_wp2
        go_ret
        exact ⟨ret_bool HOK.out.symm, rfl⟩
  · have hb' : inB p 3 97 = false := by simpa using hb
    have HBAD := Lib.hid (isPrm_low p hb')
    clear hb
    go_enter Try.func47, Try.ntmps47
    go_wp2_with (go_at_call 77; refine (l01In_any _ _ _ _).mono ?_; rintro e w' ⟨rfl, rfl⟩)
    go_ret
    exact ⟨ret_bool HBAD.out.symm, rfl⟩

set_option maxRecDepth 100000 in
set_option maxHeartbeats 1000000 in
theorem isColourPrime_any (p : Int) (w : World) :
    Calls Try.prog 79 #[.int .i64 p] w fun e w' => e = .returned (.bool (isPrm p)) ∧ w = w' := by
  by_cases b1 : 3 ≤ p
  · by_cases b2 : p ≤ 97
    · have HBI := Lib.hid ((inB_iff _ _ _).2 ⟨b1, b2⟩)
      go_enter Try.func79, Try.ntmps79
      go_wp2
      go_loop [3] (fun i => ∃ k : Nat, 2 ≤ k ∧ (k : Int) ≤ p ∧ i = .int .i64 k ∧ Hid (∀ j : Nat, 2 ≤ j → j < k → p.tmod (j : Int) ≠ 0)) (fun i => (p - intOf i).toNat)
      case atStart => exact ⟨2, Nat.le_refl _, by omega, rfl, Lib.hid (fun j h1 h2 => by omega)⟩
      case round =>
        obtain ⟨k, hk2, hkp, rfl, HS⟩ := hrel
        by_cases hlt : (k : Int) < p
        · have hk0 : ¬ (k : Int) = 0 := by omega
          have hk0n : ¬ k = 0 := by omega
          have hre : p.tmod (k : Int) = p % (k : Int) := Int.tmod_eq_emod_of_nonneg (by omega)
          by_cases hm : p % (k : Int) = 0
          · have t1 : (p % (k : Int) == 0) = true := by simp [hm]
            have hbad : isPrm p = false := isPrm_bad p k hk2 hlt (by rw [hre]; exact hm)
            have HBAD := Lib.hid hbad
            clear hbad hm
            go_wp2
            go_ret
            exact ⟨ret_bool HBAD.out.symm, rfl⟩
          · have t1 : (p % (k : Int) == 0) = false := by simp [hm]
            have HM := Lib.hid hm
            have HRE := Lib.hid hre
            clear hm
            have hw : IntKind.i64.wrap ((k : Int) + 1) = (k : Int) + 1 := IntWalk.i64_in _ (by omega)
            go_wp2
            go_round
            case rel =>
              refine ⟨k + 1, by omega, by omega, by go_num, Lib.hid fun j h1 h2 => ?_⟩
              by_cases hjk : j = k
              · rw [hjk, HRE.out]; exact HM.out
              · exact HS.out j h1 (by omega)
            case measure => simp [intOf]; omega
        · have hkn : (k : Int) = p := by omega
          have hok : isPrm p = true := isPrm_all p HBI.out (fun j h1 h2 => HS.out j h1 (by omega))
          have HOK := Lib.hid hok; clear hok hkn
          go_wp2
          go_ret
          exact ⟨ret_bool HOK.out.symm, rfl⟩
    · have HBAD := Lib.hid (isPrm_low p (by simp [inB]; omega))
      go_enter Try.func79, Try.ntmps79
      go_wp2
      go_ret
      exact ⟨ret_bool HBAD.out.symm, rfl⟩
  · have HBAD := Lib.hid (isPrm_low p (by simp [inB]; omega))
    go_enter Try.func79, Try.ntmps79
    go_wp2
    go_ret
    exact ⟨ret_bool HBAD.out.symm, rfl⟩

/-- The code for a braid and a prime. -/
def mPrmCode (s : Int) (ls : List Int) (p : Int) : Int := if isBraid s ls = true then (if isPrm p = true then 0 else 2) else 1

set_option maxRecDepth 100000 in
set_option maxHeartbeats 1000000 in
theorem primeCode_any (s : Int) (a : Option Addr) (n cap : Nat) (ls : List Int) (p : Int) (w : World) (hr : Reads w a n ls) (hn : n ≤ 1048576) :
    Calls Try.prog 51 #[.agg #[.int .i64 s, .slice a n cap], .int .i64 p] w fun e w' => e = .returned (.int .i64 (mPrmCode s ls p)) ∧ Below w.heap.size w w' := by
  have R := Lib.hid (hr.alloc (.cells #[.int .i64 s, .slice a n cap] 28)); clear hr
  have A := Lib.hid (At2.new w (.int .i64 s) (.slice a n cap) 28)
  have BB := Lib.hid (below1 w (.cells #[.int .i64 s, .slice a n cap] 28))
  obtain ⟨qA1, qA2, qA3, qA4, qA5⟩ := A.out
  obtain ⟨ib, hib⟩ : ∃ b, b = isBraid s ls := ⟨_, rfl⟩
  obtain ⟨ip, hip⟩ : ∃ b, b = isPrm p := ⟨_, rfl⟩
  have HIB := Lib.hid hib; have HIP := Lib.hid hip
  have hres : mPrmCode s ls p = if ib = true then (if ip = true then 0 else 2) else 1 := by rw [hib, hip]; rfl
  have HRES := Lib.hid hres; clear hib hip hres
  rw [HRES.out]
  cases ib with
  | false =>
    go_enter Try.func51, Try.ntmps51
    go_wp2_with fail
    refine (implIsBraid_any s a n cap ls _ R.out hn).mono ?_
    rintro e w1 ⟨rfl, hb⟩
    rw [← HIB.out]
    clear qA1 qA2 qA3 qA4 qA5
    have B1 := Lib.hid (below_go BB.out hb (by simp)); clear hb
    go_wp2
    go_ret
    exact ⟨rfl, B1.out⟩
  | true =>
    cases ip with
    | false =>
      go_enter Try.func51, Try.ntmps51
      go_wp2_with fail
      refine (implIsBraid_any s a n cap ls _ R.out hn).mono ?_
      rintro e w1 ⟨rfl, hb⟩
      rw [← HIB.out]
      clear qA1 qA2 qA3 qA4 qA5
      have B1 := Lib.hid (below_go BB.out hb (by simp)); clear hb
      go_wp2_with fail
      refine (isColourPrime_any p _).mono ?_
      rintro e w2 ⟨rfl, rfl⟩
      rw [← HIP.out]
      go_wp2
      go_ret
      exact ⟨rfl, B1.out⟩
    | true =>
      go_enter Try.func51, Try.ntmps51
      go_wp2_with fail
      refine (implIsBraid_any s a n cap ls _ R.out hn).mono ?_
      rintro e w1 ⟨rfl, hb⟩
      rw [← HIB.out]
      clear qA1 qA2 qA3 qA4 qA5
      have B1 := Lib.hid (below_go BB.out hb (by simp)); clear hb
      go_wp2_with fail
      refine (isColourPrime_any p _).mono ?_
      rintro e w2 ⟨rfl, rfl⟩
      rw [← HIP.out]
      go_wp2
      go_ret
      exact ⟨rfl, B1.out⟩

end Go.Proofs.Ytelmdfkcclhhjaa
