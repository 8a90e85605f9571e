/- Eliminations in the field, plain: solutions stay, so inverses are the same. No program is spoken of. -/
import Derived.Test.YtelmdfkcclhhjaaPowP
namespace Go.Proofs.Ytelmdfkcclhhjaa

def pwN : Nat → Nat → Nat → Nat → Nat
  | 0, o, _, _ => o
  | n + 1, o, s, k => bif Nat.beq k 0 then o else pwN n (bif Nat.beq (k % 2) 1 then o * s % 10007 else o) (s * s % 10007) (k / 2)

theorem cast_mm (a b : Nat) : ((a * b % 10007 : Nat) : Int) = (a : Int) * (b : Int) % 10007 := by rw [Int.natCast_emod, Int.natCast_mul]; rfl

theorem pwN_pow : ∀ (n o s k : Nat), k < 2 ^ n → o < 10007 → ((pwN n o s k : Nat) : Int) = (o : Int) * powZ (s : Int) k % 10007
  | 0, o, s, k, hk, ho => by
    have : k = 0 := by omega
    subst this
    rw [powZ_zero, Int.mul_one]
    show (o : Int) = _
    omega
  | n + 1, o, s, k, hk, ho => by
    unfold pwN
    by_cases h : k = 0
    · subst h
      rw [powZ_zero, Int.mul_one]
      show (o : Int) = _
      omega
    · have e0 : Nat.beq k 0 = false := by
        cases e : Nat.beq k 0 with
        | false => rfl
        | true => exact absurd (Nat.eq_of_beq_eq_true e) h
      rw [e0, cond_false]
      have hk2 : k / 2 < 2 ^ n := by rw [Nat.pow_succ] at hk; omega
      by_cases h2 : k % 2 = 1
      · rw [h2, show Nat.beq 1 1 = true from rfl, cond_true, pwN_pow n _ _ _ hk2 (Nat.mod_lt _ (by decide))]
        rw [cast_mm, cast_mm]
        exact bits_odd h2
      · have h3 : k % 2 = 0 := by omega
        rw [h3, show Nat.beq 0 1 = false from rfl, cond_false, pwN_pow n _ _ _ hk2 ho]
        rw [cast_mm]
        exact bits_even h3

set_option maxRecDepth 100000 in
theorem inv_all : ((List.range 101).all fun a => (List.range 100).all fun b => Nat.beq (a * 100 + b) 0 || Nat.ble 10007 (a * 100 + b) || Nat.beq (pwN 14 1 (a * 100 + b) 10005 * (a * 100 + b) % 10007) 1) = true := by decide +kernel

theorem inv_mul {x : Int} (h0 : 0 < x) (h1 : x < 10007) : x * invF x % 10007 = 1 := by
  obtain ⟨n, rfl⟩ : ∃ n : Nat, x = (n : Int) := ⟨x.toNat, by omega⟩
  have h := List.all_eq_true.1 inv_all (n / 100) (List.mem_range.2 (by omega))
  have h2 := List.all_eq_true.1 h (n % 100) (List.mem_range.2 (by omega))
  rw [show n / 100 * 100 + n % 100 = n by omega, Bool.or_eq_true, Bool.or_eq_true] at h2
  rcases h2 with (h2 | h2) | h2
  · have := Nat.eq_of_beq_eq_true h2; omega
  · have := Nat.le_of_ble_eq_true h2; omega
  · have h3 := Nat.eq_of_beq_eq_true h2
    have h4 := pwN_pow 14 1 n 10005 (by decide) (by decide)
    have h5 : ((pwN 14 1 n 10005 * n % 10007 : Nat) : Int) = ((1 : Nat) : Int) := congrArg (fun z : Nat => (z : Int)) h3
    rw [cast_mm, h4, mul_modl] at h5
    have h6 : ((1 : Nat) : Int) * powZ (n : Int) 10005 * (n : Int) = (n : Int) * invF (n : Int) := by
      show ((1 : Nat) : Int) * powZ (n : Int) 10005 * (n : Int) = (n : Int) * powZ (n : Int) 10005
      rw [show ((1 : Nat) : Int) = 1 from rfl, Int.one_mul, Int.mul_comm]
    rw [h6] at h5
    exact h5

/-- A row times a column. -/
def dotV (K : Nat) (r v : Nat → Int) : Int := sumT (fun j => r j * v j) K

/-- Equal but for multiples of the prime. -/
def Eqm (a b : Int) : Prop := (a - b) % 10007 = 0

theorem Eqm.refl (a : Int) : Eqm a a := by unfold Eqm; rw [Int.sub_self]; rfl
theorem Eqm.symm {a b : Int} (h : Eqm a b) : Eqm b a := by unfold Eqm at *; omega
theorem Eqm.trans {a b c : Int} (h : Eqm a b) (k : Eqm b c) : Eqm a c := by unfold Eqm at *; omega
theorem Eqm.add {a b c d : Int} (h : Eqm a b) (k : Eqm c d) : Eqm (a + c) (b + d) := by unfold Eqm at *; omega
theorem Eqm.sub {a b c d : Int} (h : Eqm a b) (k : Eqm c d) : Eqm (a - c) (b - d) := by unfold Eqm at *; omega
theorem Eqm.mul {a b : Int} (h : Eqm a b) (c : Int) : Eqm (a * c) (b * c) := by
  unfold Eqm at *
  rw [← Int.sub_mul, ← mul_modl, h, Int.zero_mul]
  rfl
theorem Eqm.mulL {a b : Int} (h : Eqm a b) (c : Int) : Eqm (c * a) (c * b) := by rw [Int.mul_comm c, Int.mul_comm c]; exact h.mul c
theorem Eqm.of_mod (a : Int) : Eqm (a % 10007) a := by unfold Eqm; omega
theorem Eqm.mod {a b : Int} (h : Eqm a b) : a % 10007 = b % 10007 := by unfold Eqm at h; omega
theorem Eqm.zero {a b : Int} (h : Eqm a b) : a % 10007 = 0 ↔ b % 10007 = 0 := by rw [h.mod]
theorem Eqm.small {a b : Int} (h : Eqm a b) (ha : 0 ≤ a ∧ a < 10007) (hb : 0 ≤ b ∧ b < 10007) : a = b := by unfold Eqm at h; omega

theorem sumT_eqm {f g : Nat → Int} {n : Nat} (h : ∀ k, k < n → Eqm (f k) (g k)) : Eqm (sumT f n) (sumT g n) := by
  induction n with
  | zero => exact Eqm.refl _
  | succ n ih => exact (ih fun k hk => h k (by omega)).add (h n (by omega))

theorem sumT_lin (f g : Nat → Int) (x y : Int) (n : Nat) : sumT (fun j => x * f j + y * g j) n = x * sumT f n + y * sumT g n := by
  induction n with
  | zero => simp [sumT]
  | succ n ih =>
    simp only [sumT]
    rw [ih, Int.mul_add, Int.mul_add]
    omega

/-- A row that is put together. -/
theorem dotV_lin {K : Nat} {r a b v : Nat → Int} {x y : Int} (h : ∀ j, j < K → Eqm (r j) (x * a j + y * b j)) : Eqm (dotV K r v) (x * dotV K a v + y * dotV K b v) := by
  unfold dotV
  rw [← sumT_lin]
  refine sumT_eqm fun j hj => ?_
  have := (h j hj).mul (v j)
  rwa [Int.add_mul, Int.mul_assoc, Int.mul_assoc] at this

def Sol (m K : Nat) (f : Nat → Nat → Int) (v : Nat → Int) : Prop := ∀ i, i < m → dotV K (f i) v % 10007 = 0

/-- One row added to another. -/
def addR (f : Nat → Nat → Int) (i o : Nat) (x : Int) : Nat → Nat → Int := fun a b => if a = i then (f i b + f o b * x % 10007) % 10007 else f a b

/-- The row k brought to 1 at its column, and the others to 0. -/
def ownF (g : Nat → Nat → Int) (k b : Nat) : Int := g k b * invF (g k k) % 10007
def clearF (g : Nat → Nat → Int) (k : Nat) : Nat → Nat → Int := fun a b => if a = k then ownF g k b else (g a b - g a k * ownF g k b) % 10007

def swpF (f : Nat → Nat → Int) (r t : Nat) : Nat → Nat → Int := fun i => if i = r then f t else if i = t then f r else f i

theorem zero_lin {a b : Int} {x y : Int} (ha : a % 10007 = 0) (hb : b % 10007 = 0) : (x * a + y * b) % 10007 = 0 := by
  rw [Int.add_emod, ← mul_modr, ha, ← mul_modr y, hb, Int.mul_zero, Int.mul_zero]
  rfl

theorem sol_add {m K : Nat} {f : Nat → Nat → Int} {i o : Nat} (hi : i < m) (ho : o < m) (hne : i ≠ o) (x : Int) (v : Nat → Int) : Sol m K (addR f i o x) v ↔ Sol m K f v := by
  have e1 : Eqm (dotV K (addR f i o x i) v) (1 * dotV K (f i) v + x * dotV K (f o) v) := dotV_lin fun j _ => by
    unfold addR
    rw [if_pos rfl, Int.one_mul, Int.mul_comm x]
    exact (Eqm.of_mod _).trans ((Eqm.refl _).add (Eqm.of_mod _))
  have e2 : Eqm (dotV K (f i) v) (1 * dotV K (addR f i o x i) v + -x * dotV K (f o) v) := by
    have := e1.sub (Eqm.refl (x * dotV K (f o) v))
    rw [show 1 * dotV K (f i) v + x * dotV K (f o) v - x * dotV K (f o) v = dotV K (f i) v by omega] at this
    rw [Int.neg_mul, Int.one_mul, ← Int.sub_eq_add_neg]
    exact this.symm
  have e3 : ∀ a, a ≠ i → addR f i o x a = f a := fun a ha => by funext b; unfold addR; rw [if_neg ha]
  constructor
  · intro h a ha
    by_cases e : a = i
    · subst e
      have ho' := h o ho
      rw [e3 o (Ne.symm hne)] at ho'
      exact (e2.zero).2 (zero_lin (h a ha) ho')
    · have := h a ha
      rwa [e3 a e] at this
  · intro h a ha
    by_cases e : a = i
    · subst e
      exact (e1.zero).2 (zero_lin (h a ha) (h o ho))
    · rw [e3 a e]
      exact h a ha

theorem sol_swap {m K : Nat} {f : Nat → Nat → Int} {r t : Nat} (hr : r < m) (ht : t < m) (v : Nat → Int) : Sol m K (swpF f r t) v ↔ Sol m K f v := by
  constructor
  · intro h a ha
    by_cases e : a = t
    · subst e
      have := h r hr
      unfold swpF at this
      rwa [if_pos rfl] at this
    · by_cases e2 : a = r
      · subst e2
        have := h t ht
        unfold swpF at this
        rw [if_neg (Ne.symm e), if_pos rfl] at this
        exact this
      · have := h a ha
        unfold swpF at this
        rwa [if_neg e2, if_neg e] at this
  · intro h a ha
    unfold swpF
    split
    · exact h t ht
    · split
      · exact h r hr
      · exact h a ha

theorem own_eqm {g : Nat → Nat → Int} {k : Nat} (h : 0 < g k k ∧ g k k < 10007) (b : Nat) : Eqm (g k b) (g k k * ownF g k b) := by
  unfold ownF
  refine Eqm.symm (((Eqm.of_mod _).mulL _).trans ?_)
  have h1 : Eqm (g k k * invF (g k k)) 1 := by
    have := inv_mul h.1 h.2
    unfold Eqm
    omega
  have h2 := h1.mul (g k b)
  rwa [Int.one_mul, Int.mul_assoc, Int.mul_comm (invF _)] at h2

theorem sol_clear {m K : Nat} {g : Nat → Nat → Int} {k : Nat} (hk : k < m) (h : 0 < g k k ∧ g k k < 10007) (v : Nat → Int) : Sol m K (clearF g k) v ↔ Sol m K g v := by
  have ek : clearF g k k = ownF g k := by funext b; unfold clearF; rw [if_pos rfl]
  have e1 : Eqm (dotV K (clearF g k k) v) (invF (g k k) * dotV K (g k) v + 0 * dotV K (g k) v) := dotV_lin fun j _ => by
    rw [ek]
    unfold ownF
    rw [Int.zero_mul, Int.add_zero, Int.mul_comm (invF _)]
    exact Eqm.of_mod _
  have e2 : Eqm (dotV K (g k) v) (g k k * dotV K (clearF g k k) v + 0 * dotV K (g k) v) := dotV_lin fun j _ => by
    rw [ek, Int.zero_mul, Int.add_zero]
    exact own_eqm h j
  have e3 : ∀ a, a ≠ k → Eqm (dotV K (clearF g k a) v) (1 * dotV K (g a) v + -(g a k) * dotV K (clearF g k k) v) := fun a ha => dotV_lin fun j _ => by
    rw [ek]
    unfold clearF
    rw [if_neg ha, Int.one_mul, Int.neg_mul, ← Int.sub_eq_add_neg]
    exact Eqm.of_mod _
  have e4 : ∀ a, a ≠ k → Eqm (dotV K (g a) v) (1 * dotV K (clearF g k a) v + g a k * dotV K (clearF g k k) v) := fun a ha => by
    have := (e3 a ha).add (Eqm.refl (g a k * dotV K (clearF g k k) v))
    rw [show 1 * dotV K (g a) v + -(g a k) * dotV K (clearF g k k) v + g a k * dotV K (clearF g k k) v = dotV K (g a) v by rw [Int.neg_mul]; omega] at this
    rw [Int.one_mul]
    exact this.symm
  constructor
  · intro hs a ha
    by_cases e : a = k
    · subst e
      exact (e2.zero).2 (by
        have := hs a ha
        rw [Int.zero_mul, Int.add_zero, ← mul_modr, this, Int.mul_zero]
        rfl)
    · exact (e4 a e).zero.2 (zero_lin (hs a ha) (hs k hk))
  · intro hs a ha
    have hkk : dotV K (clearF g k k) v % 10007 = 0 := (e1.zero).2 (zero_lin (hs k hk) (hs k hk))
    by_cases e : a = k
    · subst e; exact hkk
    · exact (e3 a e).zero.2 (zero_lin (hs a ha) hkk)

end Go.Proofs.Ytelmdfkcclhhjaa
