/- Powers in the field, plain. No program is spoken of. -/
import Derived.Test.YtelmdfkcclhhjaaFmP
namespace Go.Proofs.Ytelmdfkcclhhjaa

/-- A power in the field. -/
def powZ (x : Int) (n : Nat) : Int := x ^ n % 10007

theorem powZ_rem (x : Int) (n : Nat) : 0 ≤ powZ x n ∧ powZ x n < 10007 := mod_rem _

theorem powZ_zero (x : Int) : powZ x 0 = 1 := by unfold powZ; rw [Int.pow_zero]; rfl

theorem mul_mods (a b : Int) : (a % 10007) * (b % 10007) % 10007 = a * b % 10007 := (Int.mul_emod a b 10007).symm

theorem mul_modl (a b : Int) : (a % 10007) * b % 10007 = a * b % 10007 := by rw [Int.mul_emod, Int.emod_emod, ← Int.mul_emod]

theorem mul_modr (a b : Int) : a * (b % 10007) % 10007 = a * b % 10007 := by rw [Int.mul_emod, Int.emod_emod, ← Int.mul_emod]

theorem pow_addI (x : Int) (a b : Nat) : x ^ (a + b) = x ^ a * x ^ b := by
  induction b with
  | zero => rw [Nat.add_zero, Int.pow_zero, Int.mul_one]
  | succ b ih => rw [Nat.add_succ, Int.pow_succ, Int.pow_succ, ih, Int.mul_assoc]

theorem powZ_add (x : Int) (a b : Nat) : powZ x a * powZ x b % 10007 = powZ x (a + b) := by unfold powZ; rw [mul_mods, pow_addI]

theorem powZ_succ (x : Int) (a : Nat) : powZ x a * x % 10007 = powZ x (a + 1) := by unfold powZ; rw [mul_modl, Int.pow_succ]

theorem powZ_mod (x : Int) (n : Nat) : powZ (x % 10007) n = powZ x n := by
  induction n with
  | zero => rw [powZ_zero, powZ_zero]
  | succ n ih => rw [← powZ_succ, ih, mul_modr, powZ_succ]

theorem powZ_sq (x : Int) (n : Nat) : powZ (x * x) n = powZ x (2 * n) := by
  induction n with
  | zero => rw [powZ_zero, Nat.mul_zero, powZ_zero]
  | succ n ih => rw [← powZ_succ, ih, show 2 * (n + 1) = 2 * n + 1 + 1 by omega, ← powZ_succ, ← powZ_succ, mul_modl, Int.mul_assoc]

/-- The inverse. -/
def invF (x : Int) : Int := powZ x 10005

theorem invF_rem (x : Int) : 0 ≤ invF x ∧ invF x < 10007 := powZ_rem x _

/-- One step of the counting of bits. -/
theorem bits_even {o s : Int} {j : Nat} (h : j % 2 = 0) : o * powZ (s * s % 10007) (j / 2) % 10007 = o * powZ s j % 10007 := by
  rw [powZ_mod, powZ_sq, show 2 * (j / 2) = j by omega]

theorem bits_odd {o s : Int} {j : Nat} (h : j % 2 = 1) : (o * s % 10007) * powZ (s * s % 10007) (j / 2) % 10007 = o * powZ s j % 10007 := by
  rw [powZ_mod, powZ_sq, mul_modl, Int.mul_assoc, ← mul_modr, Int.mul_comm s, powZ_succ, show 2 * (j / 2) + 1 = j by omega]

/-- The opposite, as the program and as the model count it. -/
def oppF (x : Int) : Int := (10007 - x) % 10007

theorem oppF_rem (x : Int) : 0 ≤ oppF x ∧ oppF x < 10007 := mod_rem _

theorem neg_mul_mod (t u : Int) : (-t * u) % 10007 = oppF (t * u % 10007) := by
  unfold oppF
  rw [Int.neg_mul]
  omega

theorem mod_mod (x : Int) : (x.tmod 10007 + 10007).tmod 10007 = x % 10007 := by
  have h1 : x.tmod 10007 = x - 10007 * x.tdiv 10007 := Int.tmod_def x 10007
  have h2 : -10007 < x.tmod 10007 := by
    have := Int.lt_tmod_of_pos x (show (0 : Int) < 10007 by decide)
    omega
  rw [Int.tmod_eq_emod_of_nonneg (by omega)]
  omega

end Go.Proofs.Ytelmdfkcclhhjaa
