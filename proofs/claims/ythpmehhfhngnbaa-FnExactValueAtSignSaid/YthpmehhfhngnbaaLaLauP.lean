/- Polynomials: what is one, the value at a sign, palindromes. No function of the program is spoken of. -/
import Derived.Test.YthpmehhfhngnbaaLaMA
namespace Go.Proofs.Ythpmehhfhngnbaa

/-- What is a polynomial. -/
def lauB (low : Int) (xs : List Int) : Bool :=
 if xs.length = 0 then decide (low = 0) else
  decide (-1000 ≤ low) && decide (low + xs.length ≤ 1001) && decide (xs.getD 0 0 ≠ 0) && decide (xs.getD (xs.length - 1) 0 ≠ 0) && xs.all fun x => inB x (-1000000000000) 1000000000000

theorem lauB_zero {low : Int} {xs : List Int} (h : xs.length = 0) : lauB low xs = decide (low = 0) := by unfold lauB; rw [if_pos h]

theorem lauB_bad {low : Int} {xs : List Int} {n : Nat} (hl : xs.length = n + 1) (h : low < -1000 ∨ 1000 < low + n ∨ xs.getD 0 0 = 0 ∨ xs.getD n 0 = 0) : lauB low xs = false := by
 unfold lauB
 rw [if_neg (by omega)]
 rw [← Bool.not_eq_true]
 intro hh
 simp only [Bool.and_eq_true, decide_eq_true_eq, hl, Nat.add_sub_cancel] at hh
 obtain ⟨⟨⟨⟨h1, h2⟩, h3⟩, h4⟩, _⟩ := hh
 rcases h with h | h | h | h
 ·omega
 ·omega
 ·exact h3 h
 ·exact h4 h

theorem lauB_big {low : Int} {xs : List Int} {n k : Nat} (hl : xs.length = n + 1) (hk : k < n + 1) (h : inB (xs.getD k 0) (-1000000000000) 1000000000000 = false) : lauB low xs = false := by
 unfold lauB
 rw [if_neg (by omega), all_false_of_getD xs _ k (by omega) h, Bool.and_false]

theorem lauB_good {low : Int} {xs : List Int} {n : Nat} (hl : xs.length = n + 1) (h1 : -1000 ≤ low) (h2 : low + n ≤ 1000) (h3 : xs.getD 0 0 ≠ 0) (h4 : xs.getD n 0 ≠ 0) (h : ∀ k, k < n + 1 → inB (xs.getD k 0) (-1000000000000) 1000000000000 = true) : lauB low xs = true := by
 unfold lauB
 rw [if_neg (by omega), all_of_getD xs _ (fun j hj => h j (by omega))]
 simp only [hl, Nat.add_sub_cancel, Bool.and_true, Bool.and_eq_true, decide_eq_true_eq]
 exact ⟨⟨⟨h1, by omega⟩, h3⟩, h4⟩

/-- What a polynomial is bounded by. -/
structure LauB (low : Int) (xs : List Int) : Prop where
 len : xs.length ≤ 2001
 lo : -1000 ≤ low
 hi : low ≤ 1000
 top : low + xs.length ≤ 1001
 at' : ∀ k, k < xs.length → -1000000000000 ≤ xs.getD k 0 ∧ xs.getD k 0 ≤ 1000000000000
 zero : xs.length = 0 → low = 0

theorem LauB.of {low : Int} {xs : List Int} (h : lauB low xs = true) : LauB low xs := by
 unfold lauB at h
 by_cases h0 : xs.length = 0
 ·rw [if_pos h0] at h
  have := of_decide_eq_true h
  subst this
  exact ⟨by omega, by omega, by omega, by omega, fun k hk => by omega, fun _ => rfl⟩
 ·rw [if_neg h0] at h
  simp only [Bool.and_eq_true, decide_eq_true_eq] at h
  obtain ⟨⟨⟨⟨h1, h2⟩, h3⟩, h4⟩, h5⟩ := h
  rw [List.all_eq_true] at h5
  exact ⟨by omega, h1, by omega, h2, fun k hk => (inB_iff _ _ _).1 (h5 _ (getD_mem xs k hk)), fun h => absurd h h0⟩

/-- The value at a sign, of the coefficients ahead of k. -/
def valS (sign low : Int) (xs : List Int) : Nat → Int
 | 0 => 0
 | k + 1 => if sign < 0 ∧ (low + k) % 2 ≠ 0 then valS sign low xs k - xs.getD k 0 else valS sign low xs k + xs.getD k 0

theorem valS_bd {sign low : Int} {xs : List Int} (h : ∀ k, k < xs.length → -1000000000000 ≤ xs.getD k 0 ∧ xs.getD k 0 ≤ 1000000000000) (k : Nat) (hk : k ≤ xs.length) : -1000000000000 * (k : Int) ≤ valS sign low xs k ∧ valS sign low xs k ≤ 1000000000000 * (k : Int) := by
 induction k with
 | zero => simp [valS]
 | succ k ih =>
  have h1 := ih (by omega)
  have h2 := h k (by omega)
  unfold valS
  split <;> omega

/-- The value at a sign and the code. -/
def mVal (low : Int) (xs : List Int) (sign : Int) : Int × Int :=
 if lauB low xs = true then (if sign = 1 ∨ sign = -1 then (valS sign low xs xs.length, 0) else (0, 2)) else (0, 1)

/-- Ahead of k the coefficients are those behind. -/
def sameK (n : Nat) (xs : List Int) (k : Nat) : Bool := decide (∀ j, j < k → xs.getD j 0 = xs.getD (n - 1 - j) 0)

def oppK (n : Nat) (xs : List Int) (k : Nat) : Bool := decide (∀ j, j < k → xs.getD j 0 = -(xs.getD (n - 1 - j) 0))

theorem sameK_succ (n : Nat) (xs : List Int) (k : Nat) : sameK n xs (k + 1) = (sameK n xs k && decide (xs.getD k 0 = xs.getD (n - 1 - k) 0)) := by
 rw [Bool.eq_iff_iff]
 simp only [sameK, Bool.and_eq_true, decide_eq_true_eq]
 constructor
 ·intro h
  exact ⟨fun j hj => h j (by omega), h k (by omega)⟩
 ·rintro ⟨h1, h2⟩ j hj
  by_cases hjk : j = k
  ·rw [hjk]; exact h2
  ·exact h1 j (by omega)

theorem oppK_succ (n : Nat) (xs : List Int) (k : Nat) : oppK n xs (k + 1) = (oppK n xs k && decide (xs.getD k 0 = -(xs.getD (n - 1 - k) 0))) := by
 rw [Bool.eq_iff_iff]
 simp only [oppK, Bool.and_eq_true, decide_eq_true_eq]
 constructor
 ·intro h
  exact ⟨fun j hj => h j (by omega), h k (by omega)⟩
 ·rintro ⟨h1, h2⟩ j hj
  by_cases hjk : j = k
  ·rw [hjk]; exact h2
  ·exact h1 j (by omega)

theorem sameK_zero (n : Nat) (xs : List Int) : sameK n xs 0 = true := by simp [sameK]

theorem oppK_zero (n : Nat) (xs : List Int) : oppK n xs 0 = true := by simp [oppK]

/-- Whether it is a palindrome, and the code. -/
def palV (n : Nat) (xs : List Int) : Int := if sameK n xs n = true then 1 else if oppK n xs n = true then -1 else 0

def mPal (low : Int) (xs : List Int) : Int × Int := if lauB low xs = true then (palV xs.length xs, 0) else (0, 1)

end Go.Proofs.Ythpmehhfhngnbaa

