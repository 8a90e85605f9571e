/- The rank of a matrix modulo a prime, by any elimination: plain lemmas. No program is spoken of. -/
namespace Go.Proofs.Ytelmdfkcclhhjaa

/-- What is written for a prime: it divides a product only if it divides a factor, and it does not divide 1. -/
def PrimeZ (p : Int) : Prop := ¬ p ∣ 1 ∧ ∀ a b : Int, p ∣ a * b → p ∣ a ∨ p ∣ b

/-- The entry of a row. -/
def ent (r : List Int) (j : Nat) : Int := r.getD j 0

/-- What the rows span modulo p. -/
inductive Spn (p : Int) (A : List (List Int)) : (Nat → Int) → Prop
  | zero (v : Nat → Int) : (∀ j, p ∣ v j) → Spn p A v
  | row (r : List Int) : r ∈ A → Spn p A (ent r)
  | add (u v : Nat → Int) : Spn p A u → Spn p A v → Spn p A (fun j => u j + v j)
  | mul (k : Int) (u : Nat → Int) : Spn p A u → Spn p A (fun j => k * u j)
  | cong (u v : Nat → Int) : Spn p A u → (∀ j, p ∣ u j - v j) → Spn p A v
  | div (k : Int) (u : Nat → Int) : ¬ p ∣ k → Spn p A (fun j => k * u j) → Spn p A u

/-- Where no row has an entry, nothing that they span has one. -/
theorem Spn.none {p : Int} (hp : PrimeZ p) {A : List (List Int)} {c : Nat} (h : ∀ r ∈ A, p ∣ ent r c) {v : Nat → Int} (hv : Spn p A v) : p ∣ v c := by
  induction hv with
  | zero v h0 => exact h0 c
  | row r hr => exact h r hr
  | add u v _ _ iu iv => exact Int.dvd_add iu iv
  | mul k u _ iu => exact Int.dvd_trans iu (Int.dvd_mul_left _ _)
  | cong u v _ hc iu =>
    have := Int.dvd_sub iu (hc c)
    rwa [show u c - (u c - v c) = v c by omega] at this
  | div k u hk _ iu => exact (hp.2 _ _ iu).resolve_left hk

/-- One step: P is the row of the column c that is taken; of each other row a multiple is kept, less a multiple of P. -/
structure Elim (p : Int) (A : List (List Int)) (P : List Int) (c : Nat) (A' : List (List Int)) : Prop where
  inA : P ∈ A
  has : ¬ p ∣ ent P c
  off : ∀ r ∈ A', p ∣ ent r c
  from_ : ∀ r' ∈ A', ∃ r ∈ A, ∃ x y : Int, ∀ j, p ∣ x * ent r j - y * ent P j - ent r' j
  into : ∀ r ∈ A, (∀ j, p ∣ ent r j - ent P j) ∨ ∃ r' ∈ A', ∃ x y : Int, ¬ p ∣ x ∧ ∀ j, p ∣ x * ent r j - y * ent P j - ent r' j

theorem Elim.up {p : Int} {A A' : List (List Int)} {P : List Int} {c : Nat} (h : Elim p A P c A') {v : Nat → Int} (hv : Spn p A' v) : Spn p A v := by
  induction hv with
  | zero v h0 => exact .zero v h0
  | row r' hr =>
    obtain ⟨r, hrA, x, y, hx⟩ := h.from_ r' hr
    refine .cong _ _ (.add _ _ (.mul x _ (.row r hrA)) (.mul (-y) _ (.row P h.inA))) fun j => ?_
    have := hx j
    rwa [show x * ent r j + -y * ent P j - ent r' j = x * ent r j - y * ent P j - ent r' j by rw [Int.neg_mul]; omega]
  | add u v _ _ iu iv => exact .add u v iu iv
  | mul k u _ iu => exact .mul k u iu
  | cong u v _ hc iu => exact .cong u v iu hc
  | div k u hk _ iu => exact .div k u hk iu

theorem Elim.part {p : Int} (hp : PrimeZ p) {A A' : List (List Int)} {P : List Int} {c : Nat} (h : Elim p A P c A') {v : Nat → Int} (hv : Spn p A v) :
    ∃ m b : Int, ¬ p ∣ m ∧ Spn p A' (fun j => m * v j + b * ent P j) := by
  induction hv with
  | zero v h0 => exact ⟨1, 0, hp.1, .zero _ fun j => by have := h0 j; simpa using this⟩
  | row r hr =>
    rcases h.into r hr with e | ⟨r', hr', x, y, hx, he⟩
    · refine ⟨1, -1, hp.1, .zero _ fun j => ?_⟩
      have := e j
      rwa [show 1 * ent r j + -1 * ent P j = ent r j - ent P j by omega]
    · refine ⟨x, -y, hx, .cong _ _ (.row r' hr') fun j => ?_⟩
      have := Int.dvd_neg.2 (he j)
      rwa [show -(x * ent r j - y * ent P j - ent r' j) = ent r' j - (x * ent r j + -y * ent P j) by rw [Int.neg_mul]; omega] at this
  | add u v _ _ iu iv =>
    obtain ⟨m1, b1, h1, s1⟩ := iu
    obtain ⟨m2, b2, h2, s2⟩ := iv
    refine ⟨m1 * m2, m2 * b1 + m1 * b2, fun hd => (hp.2 _ _ hd).elim h1 h2, ?_⟩
    have := Spn.add _ _ (.mul m2 _ s1) (.mul m1 _ s2)
    refine .cong _ _ this fun j => ?_
    have e : m2 * (m1 * u j + b1 * ent P j) + m1 * (m2 * v j + b2 * ent P j) - (m1 * m2 * (u j + v j) + (m2 * b1 + m1 * b2) * ent P j) = 0 := by
      simp only [Int.mul_add, Int.add_mul, ← Int.mul_assoc, Int.mul_comm m2 m1]
      omega
    rw [e]
    exact Int.dvd_zero p
  | mul k u _ iu =>
    obtain ⟨m, b, hm, s⟩ := iu
    refine ⟨m, k * b, hm, .cong _ _ (.mul k _ s) fun j => ?_⟩
    have e : k * (m * u j + b * ent P j) - (m * (k * u j) + k * b * ent P j) = 0 := by
      simp only [Int.mul_add, ← Int.mul_assoc, Int.mul_comm m k]
      omega
    rw [e]
    exact Int.dvd_zero p
  | cong u v _ hc iu =>
    obtain ⟨m, b, hm, s⟩ := iu
    refine ⟨m, b, hm, .cong _ _ s fun j => ?_⟩
    have := Int.dvd_trans (hc j) (Int.dvd_mul_left m (u j - v j))
    rwa [Int.mul_sub, show m * u j - m * v j = m * u j + b * ent P j - (m * v j + b * ent P j) by omega] at this
  | div k u hk _ iu =>
    obtain ⟨m, b, hm, s⟩ := iu
    refine ⟨m * k, b, fun hd => (hp.2 _ _ hd).elim hm hk, .cong _ _ s fun j => ?_⟩
    have e : m * (k * u j) + b * ent P j - (m * k * u j + b * ent P j) = 0 := by
      rw [Int.mul_assoc]
      omega
    rw [e]
    exact Int.dvd_zero p

/-- What is left spans just what had no entry in the column. -/
theorem Elim.span {p : Int} (hp : PrimeZ p) {A A' : List (List Int)} {P : List Int} {c : Nat} (h : Elim p A P c A') (v : Nat → Int) : Spn p A' v ↔ Spn p A v ∧ p ∣ v c := by
  constructor
  · exact fun hv => ⟨h.up hv, Spn.none hp h.off hv⟩
  · rintro ⟨hv, hc⟩
    obtain ⟨m, b, hm, s⟩ := h.part hp hv
    have h1 := Spn.none hp h.off s
    have h2 : p ∣ b * ent P c := by
      have := Int.dvd_sub h1 (Int.dvd_trans hc (Int.dvd_mul_left m (v c)))
      rwa [show m * v c + b * ent P c - m * v c = b * ent P c by omega] at this
    have h3 := (hp.2 _ _ h2).resolve_right h.has
    refine .div m v hm (.cong _ _ s fun j => ?_)
    rw [show m * v j + b * ent P j - m * v j = b * ent P j by omega]
    exact Int.dvd_trans h3 (Int.dvd_mul_right _ _)

/-- Is a row taken at the column c? -/
def Piv (p : Int) (A : List (List Int)) (c : Nat) : Prop := ∃ v, Spn p A v ∧ (∀ j, j < c → p ∣ v j) ∧ ¬ p ∣ v c

open Classical in
/-- The rank: the columns at which a row is taken. -/
noncomputable def rk (p : Int) (A : List (List Int)) : Nat → Nat
  | 0 => 0
  | c + 1 => rk p A c + (if Piv p A c then 1 else 0)

/-- What holds of the rows that are left ahead of the column c. -/
def Left_ (p : Int) (A : List (List Int)) (c : Nat) (B : List (List Int)) : Prop := ∀ v, Spn p B v ↔ Spn p A v ∧ ∀ j, j < c → p ∣ v j

theorem Left_.start (p : Int) (A : List (List Int)) : Left_ p A 0 A := fun _ => ⟨fun h => ⟨h, fun j hj => absurd hj (Nat.not_lt_zero j)⟩, fun h => h.1⟩

theorem Left_.take {p : Int} (hp : PrimeZ p) {A B B' : List (List Int)} {c : Nat} {P : List Int} (h : Left_ p A c B) (e : Elim p B P c B') : Left_ p A (c + 1) B' ∧ rk p A (c + 1) = rk p A c + 1 := by
  constructor
  · intro v
    rw [e.span hp v, h v]
    constructor
    · rintro ⟨⟨h1, h2⟩, h3⟩
      refine ⟨h1, fun j hj => ?_⟩
      rcases Nat.lt_or_ge j c with hjc | hjc
      · exact h2 j hjc
      · obtain rfl : j = c := by omega
        exact h3
    · rintro ⟨h1, h2⟩
      exact ⟨⟨h1, fun j hj => h2 j (by omega)⟩, h2 c (Nat.lt_succ_self c)⟩
  · have hpv : Piv p A c := by
      have := (h _).1 (.row P e.inA)
      exact ⟨_, this.1, this.2, e.has⟩
    simp [rk, hpv]

theorem Left_.pass {p : Int} (hp : PrimeZ p) {A B : List (List Int)} {c : Nat} (h : Left_ p A c B) (hn : ∀ r ∈ B, p ∣ ent r c) : Left_ p A (c + 1) B ∧ rk p A (c + 1) = rk p A c := by
  have hall : ∀ v, Spn p B v → p ∣ v c := fun v hv => Spn.none hp hn hv
  constructor
  · intro v
    constructor
    · intro hv
      obtain ⟨h1, h2⟩ := (h v).1 hv
      refine ⟨h1, fun j hj => ?_⟩
      rcases Nat.lt_or_ge j c with hjc | hjc
      · exact h2 j hjc
      · obtain rfl : j = c := by omega
        exact hall v hv
    · rintro ⟨h1, h2⟩
      exact (h v).2 ⟨h1, fun j hj => h2 j (by omega)⟩
  · have hpv : ¬ Piv p A c := by
      rintro ⟨v, h1, h2, h3⟩
      exact h3 (hall v ((h v).2 ⟨h1, h2⟩))
    simp [rk, hpv]

/-- A number without divisors of its own is a prime. -/
theorem primeZ_of (p : Nat) (h2 : 2 ≤ p) (h : ∀ d, 2 ≤ d → d < p → ¬ d ∣ p) : PrimeZ (p : Int) := by
  constructor
  · intro hd
    have := Int.natCast_dvd_natCast.1 (show (p : Int) ∣ ((1 : Nat) : Int) from hd)
    have := Nat.le_of_dvd (by omega) this
    omega
  · intro a b hd
    have h1 : p ∣ a.natAbs * b.natAbs := by
      rw [← Int.natAbs_mul]
      exact Int.ofNat_dvd_left.1 hd
    have hg1 := Nat.gcd_dvd_left p a.natAbs
    have hg2 := Nat.gcd_dvd_right p a.natAbs
    have hpos : 0 < Nat.gcd p a.natAbs := Nat.gcd_pos_of_pos_left _ (by omega)
    have hle := Nat.le_of_dvd (by omega) hg1
    by_cases e1 : Nat.gcd p a.natAbs = 1
    · right
      exact Int.ofNat_dvd_left.2 (Nat.Coprime.dvd_of_dvd_mul_left e1 h1)
    · left
      have e2 : Nat.gcd p a.natAbs = p := by
        rcases Nat.lt_or_ge (Nat.gcd p a.natAbs) p with hlt | hge
        · exact absurd hg1 (h _ (by omega) hlt)
        · omega
      rw [e2] at hg2
      exact Int.ofNat_dvd_left.2 hg2

end Go.Proofs.Ytelmdfkcclhhjaa
