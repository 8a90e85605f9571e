/- Eliminations in the field, plain: what holds after k columns; two that end are the same. No program is spoken of. -/
import Derived.Test.YtelmdfkcclhhjaaGauP
namespace Go.Proofs.Ytelmdfkcclhhjaa

/-- The first k columns are those of the unit matrix. -/
def Unit (m k : Nat) (g : Nat → Nat → Int) : Prop := ∀ a j, a < m → j < k → g a j = if a = j then 1 else 0

/-- What determinants are: only these rules are asked. -/
structure IsDet (m : Nat) (D : (Nat → Nat → Int) → Int) : Prop where
  add : ∀ g i o x, i < m → o < m → i ≠ o → Eqm (D (addR g i o x)) (D g)
  swp : ∀ g r t, r < m → t < m → r ≠ t → Eqm (D (swpF g r t)) (-(D g))
  clr : ∀ g k, k < m → 0 < g k k ∧ g k k < 10007 → Eqm (D g) (g k k * D (clearF g k))
  one : ∀ g, Unit m m g → Eqm (D g) 1
  stk : ∀ g k, k < m → Unit m k g → (∀ i, k ≤ i → i < m → g i k = 0) → Eqm (D g) 0

/-- What holds after k columns of an elimination of f, with the product d so far. -/
structure GJ (m K : Nat) (f : Nat → Nat → Int) (k : Nat) (g : Nat → Nat → Int) (d : Int) : Prop where
  sol : ∀ v, Sol m K g v ↔ Sol m K f v
  rem : Rem m K g
  unit : Unit m k g
  det : ∀ D, IsDet m D → Eqm (D f) (d * D g)

theorem GJ.start {m K : Nat} {f : Nat → Nat → Int} (h : Rem m K f) : GJ m K f 0 f 1 := ⟨fun _ => Iff.rfl, h, fun _ j _ hj => absurd hj (Nat.not_lt_zero j), fun D _ => by rw [Int.one_mul]; exact Eqm.refl _⟩

theorem addR_rem {m K : Nat} {f : Nat → Nat → Int} (h : Rem m K f) (i o : Nat) (x : Int) : Rem m K (addR f i o x) := fun a b ha hb => by
  unfold addR
  split
  · exact mod_rem _
  · exact h a b ha hb

theorem swpF_rem {m K : Nat} {f : Nat → Nat → Int} (h : Rem m K f) {r t : Nat} (hr : r < m) (ht : t < m) : Rem m K (swpF f r t) := fun a b ha hb => by
  unfold swpF
  split
  · exact h t b ht hb
  · split
    · exact h r b hr hb
    · exact h a b ha hb

theorem clearF_rem {m K : Nat} {g : Nat → Nat → Int} (k : Nat) : Rem m K (clearF g k) := fun a b _ _ => by
  unfold clearF
  split
  · exact mod_rem _
  · exact mod_rem _

theorem clear_unit {m K k : Nat} {g : Nat → Nat → Int} (h : Unit m k g) (hr : Rem m K g) (hk : k < m) (hK : m ≤ K) (hp : 0 < g k k ∧ g k k < 10007) : Unit m (k + 1) (clearF g k) := fun a j ha hj => by
  by_cases e : j = k
  · subst e
    have ho : ownF g j j = 1 := inv_mul hp.1 hp.2
    unfold clearF
    by_cases e2 : a = j
    · rw [if_pos e2, if_pos e2, ho]
    · rw [if_neg e2, if_neg e2, ho, Int.mul_one, Int.sub_self]
      rfl
  · have hj' : j < k := by omega
    have h1 := h k j hk hj'
    rw [if_neg (Ne.symm e)] at h1
    have ho : ownF g k j = 0 := by unfold ownF; rw [h1, Int.zero_mul]; rfl
    have h2 := h a j ha hj'
    have h3 := hr a j ha (by omega)
    unfold clearF
    by_cases e2 : a = k
    · rw [if_pos e2, ho, if_neg (by omega)]
    · rw [if_neg e2, ho, Int.mul_zero, Int.sub_zero, ← h2]
      omega

/-- The column k is brought up: nothing else changes. -/
theorem GJ.bring {m K : Nat} {f : Nat → Nat → Int} {k : Nat} {g : Nat → Nat → Int} {d : Int} (h : GJ m K f k g d) (hK : m ≤ K) {t : Nat} (hkt : k < t) (ht : t < m) (h0 : g k k = 0) : GJ m K f k (addR g k t 1) d ∧ addR g k t 1 k k = g t k := by
  have hr := h.rem t k ht (by omega)
  refine ⟨⟨fun v => (sol_add (by omega) ht (by omega) 1 v).trans (h.sol v), addR_rem h.rem _ _ _, fun a j ha hj => ?_, fun D hD => ?_⟩, ?_⟩
  · unfold addR
    split
    · rename_i e
      rw [h.unit k j (by omega) hj, h.unit t j ht hj, if_neg (by omega), if_neg (by omega), if_neg (by omega)]
      rfl
    · exact h.unit a j ha hj
  · exact (h.det D hD).trans ((hD.add g k t 1 (by omega) ht (by omega)).symm.mulL d)
  · unfold addR
    rw [if_pos rfl, h0, Int.mul_one]
    omega

theorem GJ.swap {m K : Nat} {f : Nat → Nat → Int} {k : Nat} {g : Nat → Nat → Int} {d d' : Int} (h : GJ m K f k g d) {t : Nat} (hkt : k < t) (ht : t < m) (hd : Eqm d' (-d)) : GJ m K f k (swpF g k t) d' := by
  refine ⟨fun v => (sol_swap (by omega) ht v).trans (h.sol v), swpF_rem h.rem (by omega) ht, fun a j ha hj => ?_, fun D hD => ?_⟩
  · unfold swpF
    split
    · rw [h.unit t j ht hj, if_neg (by omega), if_neg (by omega)]
    · split
      · rw [h.unit k j (by omega) hj, if_neg (by omega), if_neg (by omega)]
      · exact h.unit a j ha hj
  · have h1 := hD.swp g k t (by omega) ht (by omega)
    have h2 := (hd.mul (D (swpF g k t))).trans (h1.mulL (-d))
    rw [Int.neg_mul_neg] at h2
    exact (h.det D hD).trans h2.symm

theorem GJ.clear {m K : Nat} {f : Nat → Nat → Int} {k : Nat} {g : Nat → Nat → Int} {d d' : Int} (h : GJ m K f k g d) (hk : k < m) (hK : m ≤ K) (hne : g k k ≠ 0) (hd : Eqm d' (d * g k k)) : GJ m K f (k + 1) (clearF g k) d' := by
  have hr := h.rem k k hk (by omega)
  have hp : 0 < g k k ∧ g k k < 10007 := by omega
  refine ⟨fun v => (sol_clear hk hp v).trans (h.sol v), clearF_rem k, clear_unit h.unit h.rem hk hK hp, fun D hD => ?_⟩
  have h1 := (h.det D hD).trans ((hD.clr g k hk hp).mulL d)
  rw [← Int.mul_assoc] at h1
  exact h1.trans (hd.mul _).symm

theorem GJ.congr {m K : Nat} {f : Nat → Nat → Int} {k : Nat} {g : Nat → Nat → Int} {d d' : Int} (h : GJ m K f k g d) (e : Eqm d' d) : GJ m K f k g d' := { h with det := fun D hD => (h.det D hD).trans (e.mul _).symm }

theorem sumT_add (h : Nat → Int) (m n : Nat) : sumT h (m + n) = sumT h m + sumT (fun j => h (m + j)) n := by
  induction n with
  | zero => simp [sumT]
  | succ n ih =>
    rw [Nat.add_succ]
    simp only [sumT]
    rw [ih]
    omega

theorem sumT_none {h : Nat → Int} {n : Nat} (e : ∀ j, j < n → h j = 0) : sumT h n = 0 := by
  induction n with
  | zero => rfl
  | succ n ih => simp only [sumT]; rw [ih fun j hj => e j (by omega), e n (by omega)]; rfl

theorem sumT_one {h : Nat → Int} {n t : Nat} (ht : t < n) (e : ∀ j, j < n → j ≠ t → h j = 0) : sumT h n = h t := by
  induction n with
  | zero => omega
  | succ n ih =>
    simp only [sumT]
    by_cases e2 : t = n
    · subst e2
      rw [sumT_none fun j hj => e j (by omega) (by omega)]
      omega
    · rw [ih (by omega) fun j hj => e j (by omega), e n (by omega) (by omega)]
      omega

/-- A column: u ahead of k, and 1 at t. -/
def colV (k t : Nat) (u : Nat → Int) (j : Nat) : Int := if j < k then u j else if j = t then 1 else 0

theorem colV_lt {k t : Nat} {u : Nat → Int} {j : Nat} (h : j < k) : colV k t u j = u j := by unfold colV; rw [if_pos h]
theorem colV_at {k t : Nat} {u : Nat → Int} (h : k ≤ t) : colV k t u t = 1 := by unfold colV; rw [if_neg (by omega), if_pos rfl]
theorem colV_no {k t : Nat} {u : Nat → Int} {j : Nat} (h : k ≤ j) (hne : j ≠ t) : colV k t u j = 0 := by unfold colV; rw [if_neg (by omega), if_neg hne]

/-- A row behind unit columns, and a column that undoes it. -/
theorem dot_unit {m K k t : Nat} {g : Nat → Nat → Int} {u : Nat → Int} (hu : Unit m k g) (hk : k ≤ t) (ht : t < K) {i : Nat} (hi : i < m) :
    dotV K (g i) (colV k t u) = (if i < k then u i else 0) + g i t := by
  unfold dotV
  obtain ⟨r, rfl⟩ : ∃ r, K = k + r := ⟨K - k, by omega⟩
  rw [sumT_add]
  congr 1
  · split
    · rename_i h
      rw [sumT_one (t := i) h fun j hj hne => by rw [hu i j hi hj, if_neg (Ne.symm hne), Int.zero_mul], hu i i hi h, if_pos rfl, colV_lt h, Int.one_mul]
    · rename_i h
      exact sumT_none fun j hj => by rw [hu i j hi hj, if_neg (by omega), Int.zero_mul]
  · rw [sumT_one (t := t - k) (by omega) fun j hj hne => by rw [colV_no (by omega) (by omega), Int.mul_zero]]
    rw [show k + (t - k) = t by omega, colV_at hk, Int.mul_one]

/-- Two eliminations that end have the same right sides. -/
theorem gj_same {m K : Nat} {f g1 g2 : Nat → Nat → Int} {d1 d2 : Int} (h1 : GJ m K f m g1 d1) (h2 : GJ m K f m g2 d2) {i t : Nat} (hi : i < m) (hmt : m ≤ t) (ht : t < K) : g1 i t = g2 i t := by
  have hs : Sol m K g1 (colV m t fun j => -(g1 j t)) := fun a ha => by
    rw [dot_unit h1.unit hmt ht ha, if_pos ha]
    omega
  have h3 := (h2.sol _).2 ((h1.sol _).1 hs) i hi
  rw [dot_unit h2.unit hmt ht hi, if_pos hi] at h3
  have r1 := h1.rem i t hi ht
  have r2 := h2.rem i t hi ht
  omega

/-- An elimination that stands. -/
def Stuck (m K : Nat) (f : Nat → Nat → Int) : Prop := ∃ k g d, k < m ∧ GJ m K f k g d ∧ ∀ i, k ≤ i → i < m → g i k = 0

/-- One does not end where another stands. -/
theorem gj_stuck {m K : Nat} {f g1 : Nat → Nat → Int} {d1 : Int} (hK : m ≤ K) (h1 : GJ m K f m g1 d1) (h2 : Stuck m K f) : False := by
  obtain ⟨k, g, d, hk, h, hz⟩ := h2
  have hs : Sol m K g (colV k k fun j => -(g j k)) := fun a ha => by
    rw [dot_unit h.unit (Nat.le_refl k) (by omega) ha]
    by_cases e : a < k
    · rw [if_pos e]
      omega
    · rw [if_neg e, hz a (by omega) ha]
      rfl
  have h3 := (h1.sol _).2 ((h.sol _).1 hs) k hk
  have e : dotV K (g1 k) (colV k k fun j => -(g j k)) = 1 := by
    unfold dotV
    rw [sumT_one (t := k) (by omega) fun j hj hne => ?_]
    · rw [h1.unit k k hk hk, if_pos rfl, colV_at (Nat.le_refl k)]
      rfl
    · by_cases e2 : j < k
      · rw [h1.unit k j hk (by omega), if_neg (Ne.symm hne), Int.zero_mul]
      · rw [colV_no (by omega) hne, Int.mul_zero]
  rw [e] at h3
  exact absurd h3 (by decide)

/-- The product of numbers other than 0 is none. -/
theorem prod_ne {a b : Int} (ha : 0 < a ∧ a < 10007) (hb : 0 < b ∧ b < 10007) : a * b % 10007 ≠ 0 := fun h => by
  have h1 := inv_mul ha.1 ha.2
  have h2 : b % 10007 = 0 := by
    have e : Eqm (a * invF a * b) b := by
      have : Eqm (a * invF a) 1 := by unfold Eqm; omega
      have := this.mul b
      rwa [Int.one_mul] at this
    rw [← e.mod, show a * invF a * b = a * b * invF a by rw [Int.mul_assoc, Int.mul_assoc, Int.mul_comm (invF a)], ← mul_modl, h, Int.zero_mul]
    rfl
  omega

end Go.Proofs.Ytelmdfkcclhhjaa
