/- Powers, inverses and opposites in the field: the model and the program. -/
import Derived.Test.YtelmdfkcclhhjaaPowP
import Derived.Test.YtelmdfkcclhhjaaFOf
namespace Go.Proofs.Ytelmdfkcclhhjaa
open Go.RowKit Go.ChangeShapes

set_option maxRecDepth 100000 in
set_option maxHeartbeats 1000000 in
theorem power_any (n : Nat) : ∀ (x : Int) (w : World), n ≤ 1000000 → 0 ≤ x → x < 10007 → Calls Try.prog 110 #[.int .i64 x, .int .i64 n] w fun e w' => e = .returned (.int .i64 (powZ x n)) ∧ w = w' := by
  induction n using Nat.strongRecOn with
  | _ n ih =>
    intro x w hn h0 h1
    by_cases hz : n = 0
    · subst hz
      have HE := Lib.hid (powZ_zero x)
      go_enter Try.func110, Try.ntmps110
      go_wp2
      go_ret
      exact ⟨ret_int HE.out.symm, rfl⟩
    · have hc := Lib.hid (ih (n / 2) (by omega) x w (by omega) h0 h1)
      clear ih
      have e1 : (n : Int).tdiv 2 = ((n / 2 : Nat) : Int) := by rw [Int.tdiv_eq_ediv_of_nonneg (by omega)]; omega
      have t0 : ((n : Int) == 0) = false := by simp; omega
      have bh := powZ_rem x (n / 2)
      have HS2 := Lib.hid (powZ_add x (n / 2) (n / 2))
      have w1 : IntKind.i64.wrap ((n / 2 : Nat) : Int) = ((n / 2 : Nat) : Int) := IntWalk.i64_in _ (by omega)
      have HX1 := Lib.hid (powZ_succ x (n / 2 + n / 2))
      have bq := powZ_rem x (n / 2 + n / 2)
      obtain ⟨p, hp⟩ : ∃ p, p = powZ x (n / 2) := ⟨_, rfl⟩
      obtain ⟨q, hq⟩ : ∃ q, q = powZ x (n / 2 + n / 2) := ⟨_, rfl⟩
      rw [← hp] at bh HS2
      rw [← hp] at hc
      rw [← hq] at HS2 HX1 bq
      have m1 := rem_mul bh bh
      have m2 := rem_mul bq ⟨h0, h1⟩
      obtain ⟨k, hk⟩ : ∃ k : Nat, k = n / 2 := ⟨_, rfl⟩
      rw [← hk] at e1 w1 hc
      by_cases hev : n % 2 = 0
      · have e2 : (n : Int).tmod 2 = 0 := by rw [Int.tmod_eq_emod_of_nonneg (by omega)]; omega
        have HE : Hid (powZ x n = q) := Lib.hid (by rw [hq, show n / 2 + n / 2 = n by omega])
        clear hp hq hk HX1 m2 bh bq
        go_enter Try.func110, Try.ntmps110
        go_wp2_with fail
        refine hc.out.mono ?_
        rintro e w2 ⟨rfl, rfl⟩
        go_wp2_with fail
        refine (times_any p p _ m1.1 (by omega)).mono ?_
        rw [HS2.out]
        rintro e w2 ⟨rfl, rfl⟩
        go_wp2
        go_ret
        exact ⟨ret_int HE.out.symm, rfl⟩
      · have e2 : (n : Int).tmod 2 = 1 := by rw [Int.tmod_eq_emod_of_nonneg (by omega)]; omega
        have HE : Hid (powZ x n = q * x % 10007) := Lib.hid (by rw [HX1.out, show n / 2 + n / 2 + 1 = n by omega])
        clear hp hq hk HX1 bh bq
        go_enter Try.func110, Try.ntmps110
        go_wp2_with fail
        refine hc.out.mono ?_
        rintro e w2 ⟨rfl, rfl⟩
        go_wp2_with fail
        refine (times_any p p _ m1.1 (by omega)).mono ?_
        rw [HS2.out]
        rintro e w2 ⟨rfl, rfl⟩
        go_wp2_with fail
        refine (times_any q x _ m2.1 (by omega)).mono ?_
        rw [← HE.out]
        rintro e w2 ⟨rfl, rfl⟩
        go_wp2
        go_ret
        exact ⟨rfl, rfl⟩

set_option maxRecDepth 100000 in
set_option maxHeartbeats 1000000 in
theorem resInv_any (x : Int) (w : World) (h0 : 0 ≤ x) (h1 : x < 10007) : Calls Try.prog 92 #[.int .i64 x] w fun e w' => e = .returned (.int .i64 (invF x)) ∧ w = w' := by
  go_enter Try.func92, Try.ntmps92
  go_wp2_with fail
  refine (power_any 10005 x _ (by omega) h0 h1).mono ?_
  rw [show powZ x 10005 = invF x from rfl]
  rintro e w2 ⟨rfl, rfl⟩
  go_wp2
  go_ret
  exact ⟨rfl, rfl⟩

set_option maxRecDepth 100000 in
set_option maxHeartbeats 1000000 in
theorem opp_any (x : Int) (w : World) (h0 : 0 ≤ x) (h1 : x < 10007) : Calls Try.prog 94 #[.int .i64 x] w fun e w' => e = .returned (.int .i64 (oppF x)) ∧ w = w' := by
  have w1 : IntKind.i64.wrap (10007 - x) = 10007 - x := IntWalk.i64_in _ (by omega)
  have e1 : (10007 - x).tmod 10007 = oppF x := Int.tmod_eq_emod_of_nonneg (by omega)
  have w2 : IntKind.i64.wrap (oppF x) = oppF x := IntWalk.i64_in _ (by have := oppF_rem x; omega)
  go_enter Try.func94, Try.ntmps94
  go_wp2
  go_ret
  exact ⟨rfl, rfl⟩

set_option maxRecDepth 100000 in
set_option maxHeartbeats 1000000 in
theorem l09Mod_any (x : Int) (w : World) : Calls Try.prog 88 #[.int .i64 x] w fun e w' => e = .returned (.int .i64 (x % 10007)) ∧ w = w' := by
  have b1 : -10007 < x.tmod 10007 := by
    have := Int.lt_tmod_of_pos x (show (0 : Int) < 10007 by decide)
    omega
  have b2 : x.tmod 10007 < 10007 := Int.tmod_lt_of_pos x (by decide)
  have HE := Lib.hid (mod_mod x)
  obtain ⟨y, hy⟩ : ∃ y, x.tmod 10007 = y := ⟨_, rfl⟩
  rw [hy] at b1 b2 HE
  have w1 : IntKind.i64.wrap y = y := IntWalk.i64_in _ (by omega)
  have w2 : IntKind.i64.wrap (y + 10007) = y + 10007 := IntWalk.i64_in _ (by omega)
  have e1 : (y + 10007).tmod 10007 = x % 10007 := HE.out
  have w3 : IntKind.i64.wrap (x % 10007) = x % 10007 := IntWalk.i64_in _ (by have := mod_rem x; omega)
  go_enter Try.func88, Try.ntmps88
  go_wp2
  go_ret
  exact ⟨rfl, rfl⟩

set_option maxRecDepth 100000 in
set_option maxHeartbeats 1000000 in
theorem l09Inverse_any (x : Int) (w : World) (h0 : 0 ≤ x) (h1 : x < 10007) : Calls Try.prog 89 #[.int .i64 x] w fun e w' => e = .returned (.int .i64 (invF x)) ∧ w = w' := by
  have HST : Hid (1 * powZ x 10005 % 10007 = invF x) := Lib.hid (by rw [Int.one_mul]; exact Int.emod_emod _ _)
  go_enter Try.func89, Try.ntmps89
  go_wp2
  go_loop [3, 4, 5] (fun ov sv kv => ∃ (o s : Int) (k : Nat), ov = .int .i64 o ∧ sv = .int .i64 s ∧ kv = .int .i64 k ∧ k ≤ 10005 ∧ (0 ≤ o ∧ o < 10007) ∧ (0 ≤ s ∧ s < 10007) ∧ o * powZ s k % 10007 = invF x) (fun _ _ kv => (intOf kv).toNat)
  case atStart => exact ⟨1, x, 10005, rfl, rfl, rfl, Nat.le_refl _, by omega, ⟨h0, h1⟩, HST.out⟩
  case round =>
    obtain ⟨o, s, k, rfl, rfl, rfl, hk, bo, bs, hI⟩ := hrel
    have HI := Lib.hid hI; clear hI
    by_cases hz : 0 < k
    · have k0 : 0 < (k : Int) := by omega
      have e1 : (k : Int).tdiv 2 = ((k / 2 : Nat) : Int) := by rw [Int.tdiv_eq_ediv_of_nonneg (by omega)]; omega
      have w1 : IntKind.i64.wrap ((k / 2 : Nat) : Int) = ((k / 2 : Nat) : Int) := IntWalk.i64_in _ (by omega)
      have m1 := rem_mul bs bs
      have m2 := rem_mul bo bs
      have w2 : IntKind.i64.wrap (s * s) = s * s := IntWalk.i64_in _ (by omega)
      have w3 : IntKind.i64.wrap (o * s) = o * s := IntWalk.i64_in _ (by omega)
      have e3 : (s * s).tmod 10007 = s * s % 10007 := Int.tmod_eq_emod_of_nonneg m1.1
      have e4 : (o * s).tmod 10007 = o * s % 10007 := Int.tmod_eq_emod_of_nonneg m2.1
      have b3 := mod_rem (s * s)
      have b4 := mod_rem (o * s)
      have HS : Hid (∀ z, z = s * s % 10007 → (k % 2 = 0 → o * powZ z (k / 2) % 10007 = invF x) ∧ (k % 2 = 1 → (o * s % 10007) * powZ z (k / 2) % 10007 = invF x)) := Lib.hid fun z hz => by rw [hz]; exact ⟨fun h => (bits_even h).trans HI.out, fun h => (bits_odd h).trans HI.out⟩
      obtain ⟨z, hz2⟩ : ∃ z, z = s * s % 10007 := ⟨_, rfl⟩
      obtain ⟨y, hy2⟩ : ∃ z, z = o * s % 10007 := ⟨_, rfl⟩
      have HS2 := Lib.hid (HS.out z hz2)
      rw [← hz2] at e3 b3
      rw [← hy2] at e4 b4 HS2
      have w5 : IntKind.i64.wrap z = z := IntWalk.i64_in _ (by omega)
      have w6 : IntKind.i64.wrap y = y := IntWalk.i64_in _ (by omega)
      obtain ⟨k2, hk2⟩ : ∃ q : Nat, q = k / 2 := ⟨_, rfl⟩
      have hlt : k2 < k := by omega
      rw [← hk2] at e1 w1 HS2
      clear hz2 hy2 hk2 HS HI m1 m2
      by_cases hev : k % 2 = 0
      · have e2 : (k : Int).tmod 2 = 0 := by rw [Int.tmod_eq_emod_of_nonneg (by omega)]; omega
        go_wp2
        go_round
        case rel => exact ⟨o, z, k2, rfl, rfl, rfl, by omega, bo, b3, HS2.out.1 hev⟩
        case measure => simp [intOf]; omega
      · have e2 : (k : Int).tmod 2 = 1 := by rw [Int.tmod_eq_emod_of_nonneg (by omega)]; omega
        go_wp2
        go_round
        case rel => exact ⟨y, z, k2, rfl, rfl, rfl, by omega, b4, b3, HS2.out.2 (by omega)⟩
        case measure => simp [intOf]; omega
    · obtain rfl : k = 0 := by omega
      have HE : Hid (o = invF x) := Lib.hid (by have := HI.out; rw [powZ_zero, Int.mul_one] at this; omega)
      go_wp2
      go_ret
      exact ⟨ret_int HE.out, rfl⟩

end Go.Proofs.Ytelmdfkcclhhjaa
