/- Rows of partitions: the whole one, complements, turns. No program is spoken of. Ways of rows of numbers: orbits, their least numbers, packed rows. No program is spoken of. Least numbers of blocks as rows; what the loops of the model and of the program hold. No program is spoken of. The part of a division, and crossings: what they say. No program is spoken of. Blocks as lists, as the program goes through them. No program is spoken of. The meet of two parts: going on to the next number of both blocks. No program is spoken of. -/
import Derived.Test.YtehcbamfendbaaaQA
import Derived.Test.YtehcbamfendbaaaPtD
namespace Go.Proofs.Ytehcbamfendbaaa

/-- The whole partition. -/
def wholeR (n : Nat) : List Int := mapR n fun x => ((x : Int) + 1) % (n : Int)

theorem wholeR_sim (n : Nat) (h1 : 1 ≤ n) (h8 : n ≤ 8) : Sim n (wholeR n) := Sim.mk' h1 h8 (fun j hj => ⟨Int.emod_nonneg _ (by omega), Int.emod_lt_of_pos _ (by omega)⟩) (fun i j hi hj e => by
  have e2 : (i + 1) % n = (j + 1) % n := by have h5 : (((i + 1) % n : Nat) : Int) = (((j + 1) % n : Nat) : Int) := by push_cast; exact e
                                            omega
  by_cases h3 : i + 1 = n
  · by_cases h4 : j + 1 = n
    · omega
    · rw [h3, Nat.mod_self, Nat.mod_eq_of_lt (by omega)] at e2; omega
  · by_cases h4 : j + 1 = n
    · rw [h4, Nat.mod_self, Nat.mod_eq_of_lt (by omega)] at e2; omega
    · rw [Nat.mod_eq_of_lt (by omega), Nat.mod_eq_of_lt (by omega)] at e2; omega)

/-- The complement; the row of which it is the complement; the turn. -/
def compP (n : Nat) (p : List Int) : List Int := thenR n (backR n p) (wholeR n)
def leftP (n : Nat) (p : List Int) : List Int := thenR n (wholeR n) (backR n p)
def turnP (n : Nat) (p : List Int) : List Int := thenR n (thenR n (backR n (wholeR n)) p) (wholeR n)

theorem compP_sim {n : Nat} {p : List Int} (h : Sim n p) : Sim n (compP n p) := thenR_sim (backR_sim h) (wholeR_sim n h.lo h.hi)
theorem leftP_sim {n : Nat} {p : List Int} (h : Sim n p) : Sim n (leftP n p) := thenR_sim (wholeR_sim n h.lo h.hi) (backR_sim h)
theorem turnP_sim {n : Nat} {p : List Int} (h : Sim n p) : Sim n (turnP n p) := thenR_sim (thenR_sim (backR_sim (wholeR_sim n h.lo h.hi)) h) (wholeR_sim n h.lo h.hi)

end Go.Proofs.Ytehcbamfendbaaa

namespace Go.Proofs.Ytehcbamfendbaaa

theorem ite2_eq {α : Type} (b : Bool) (t f : α) : ite2 b t f = if b = true then t else f := by cases b <;> rfl
theorem ite2_true {α : Type} (b : Bool) (t f : α) (h : b = true) : ite2 b t f = t := by subst h; rfl
theorem ite2_false {α : Type} (b : Bool) (t f : α) (h : b = false) : ite2 b t f = f := by subst h; rfl
theorem notB_eq (b : Bool) : notB b = !b := by cases b <;> rfl
theorem ite2_and (b c : Bool) : ite2 b c false = (b && c) := by cases b <;> rfl
theorem ite2_imp (b c : Bool) : ite2 b c true = (!b || c) := by cases b <;> rfl

theorem allN_iff (p : Nat → Bool) (n : Nat) : allN p n = true ↔ ∀ k, k < n → p k = true := by
  induction n with
  | zero => exact ⟨fun _ k hk => by omega, fun _ => rfl⟩
  | succ n ih =>
    show ite2 (p n) (allN p n) false = true ↔ _
    rw [ite2_and, Bool.and_eq_true, ih]
    constructor
    · rintro ⟨h1, h2⟩ k hk
      by_cases e : k = n
      · subst e; exact h1
      · exact h2 k (by omega)
    · intro h
      exact ⟨h n (by omega), fun k hk => h k (by omega)⟩

theorem ble_iffN (a b : Nat) : Nat.ble a b = true ↔ a ≤ b := by rw [Nat.ble_eq]
theorem beq_iffN (a b : Nat) : Nat.beq a b = true ↔ a = b := Nat.beq_eq ▸ Iff.rfl

/-- A row packed and read again. -/
theorem pkN_lt (f : Nat → Nat) (n : Nat) (h : ∀ k, k < n → f k < 8) : pkN f n < 8 ^ n := by
  induction n with
  | zero => show 0 < 1; omega
  | succ n ih =>
    show pkN f n + f n * 8 ^ n < 8 ^ (n + 1)
    have h1 := ih fun k hk => h k (by omega)
    have h2 := h n (by omega)
    have h3 : f n * 8 ^ n ≤ 7 * 8 ^ n := Nat.mul_le_mul_right _ (by omega)
    rw [Nat.pow_succ]
    omega

theorem gtN_pkN (f : Nat → Nat) (n : Nat) (h : ∀ k, k < n → f k < 8) (x : Nat) : gtN (pkN f n) x = if x < n then f x else 0 := by
  show pkN f n / 8 ^ x % 8 = _
  induction n with
  | zero =>
    show 0 / 8 ^ x % 8 = _
    rw [if_neg (by omega), Nat.zero_div]
  | succ n ih =>
    show (pkN f n + f n * 8 ^ n) / 8 ^ x % 8 = _
    have h1 := pkN_lt f n fun k hk => h k (by omega)
    have h2 := h n (by omega)
    have ih := ih fun k hk => h k (by omega)
    by_cases e1 : x < n
    · rw [if_pos (by omega)]
      rw [if_pos e1] at ih
      rw [← ih]
      have e2 : f n * 8 ^ n = (f n * 8 ^ (n - x - 1) * 8) * 8 ^ x := by
        rw [Nat.mul_assoc, Nat.mul_assoc, ← Nat.pow_succ', ← Nat.pow_add]
        congr 2
        omega
      rw [e2, Nat.add_mul_div_right _ _ (Nat.pow_pos (by omega)), Nat.add_mul_mod_self_right]
    · by_cases e2 : x = n
      · subst e2
        rw [if_pos (by omega), Nat.add_mul_div_right _ _ (Nat.pow_pos (by omega)), Nat.div_eq_of_lt h1, Nat.zero_add, Nat.mod_eq_of_lt h2]
      · rw [if_neg (by omega)]
        have h3 : f n * 8 ^ n ≤ 7 * 8 ^ n := Nat.mul_le_mul_right _ (by omega)
        have h4 : 8 ^ (n + 1) ≤ 8 ^ x := Nat.pow_le_pow_right (by omega) (by omega)
        rw [Nat.pow_succ] at h4
        rw [Nat.div_eq_of_lt (by omega)]

/-- The test holds at every row that goes on from here. -/
theorem chkN_all (T : Nat → Bool) (n : Nat) (f : Nat → Nat) (k : Nat) : ∀ (used P : Nat), chkN T n k used P = true → (∀ j, j < k → f j < n) → (∀ i j, i < k → j < k → f i = f j → i = j) →
    (∀ j, j < k → used.testBit (f j) = false) → T (P + pkN f k) = true := by
  induction k with
  | zero =>
    intro used P h _ _ _
    exact h
  | succ k ih =>
    intro used P h hb hi hu
    have h1 := (allN_iff _ _).1 h (f k) (hb k (by omega))
    rw [ite2_false _ _ _ (hu k (by omega))] at h1
    have h2 := ih _ _ h1 (fun j hj => hb j (by omega)) (fun i j hi' hj => hi i j (by omega) (by omega)) (fun j hj => by
      show (used ||| 2 ^ f k).testBit (f j) = false
      rw [Nat.testBit_or, hu j (by omega), Nat.testBit_two_pow, Bool.false_or, decide_eq_false_iff_not]
      intro e
      have := hi k j (by omega) (by omega) e
      omega)
    have e : P + pkN f (k + 1) = Nat.add P (Nat.mul (f k) (Nat.pow 8 k)) + pkN f k := by
      show P + (pkN f k + f k * 8 ^ k) = (P + f k * 8 ^ k) + pkN f k
      omega
    rw [e]
    exact h2

/-- f leads the numbers below n to different ones. -/
structure Prm (n : Nat) (f : Nat → Nat) : Prop where
  bd : ∀ j, j < n → f j < n
  inj : ∀ i j, i < n → j < n → f i = f j → i = j
  tail : ∀ j, n ≤ j → f j = 0

theorem Prm.read {n : Nat} {f : Nat → Nat} (h : Prm n f) (h8 : n ≤ 8) : gtN (pkN f n) = f := by
  funext x
  rw [gtN_pkN f n (fun k hk => by have := h.bd k hk; omega)]
  by_cases e : x < n
  · rw [if_pos e]
  · rw [if_neg e, h.tail x (by omega)]

/-- The complement's row, with zeros behind it. -/
noncomputable def kR (f : Nat → Nat) (n x : Nat) : Nat := if x < n then kN f n x else 0

theorem tst_of {n : Nat} {f : Nat → Nat} (h : Prm n f) (h1 : 1 ≤ n) (h8 : n ≤ 8) (ht : tstN n (pkN f n) = true) :
    ncN f (cmin f n) n = Nat.beq (cycs f n n + cycs (kR f n) n n) (n + 1) ∧ (ncN f (cmin f n) n = true → ncN (kR f n) (cmin (kR f n) n) n = true) := by
  have e1 : gtN (pkN f n) = f := h.read h8
  have e2 : gtN (pkN (kN f n) n) = kR f n := by
    funext x
    rw [gtN_pkN _ _ fun k hk => by
      show (fnN f k n 0 + 1) % n < 8
      have := Nat.mod_lt (fnN f k n 0 + 1) (show 0 < n by omega)
      omega]
    rfl
  have h2 : tstK f n (pkN (kN f n) n) = true := by
    have := ht
    unfold tstN at this
    rw [e1] at this
    exact this
  unfold tstK at h2
  rw [e2, ite2_and] at h2
  change ite2 (Nat.beq (cycs f n n + cycs (kR f n) n n) (n + 1)) _ _ = true at h2
  cases hb : Nat.beq (cycs f n n + cycs (kR f n) n n) (n + 1) with
  | true =>
    rw [ite2_true _ _ _ hb, Bool.and_eq_true] at h2
    exact ⟨h2.1, fun _ => h2.2⟩
  | false =>
    rw [ite2_false _ _ _ hb, notB_eq, Bool.not_eq_true'] at h2
    exact ⟨h2, fun e => by rw [h2] at e; cases e⟩

/-- The n-th number on the way from x. -/
def itN (f : Nat → Nat) : Nat → Nat → Nat
  | 0, x => x
  | j + 1, x => f (itN f j x)

theorem itN_front (f : Nat → Nat) (j x : Nat) : itN f (j + 1) x = itN f j (f x) := by
  induction j with
  | zero => rfl
  | succ j ih => show f (itN f (j + 1) x) = f (itN f j (f x)); rw [ih]

theorem itN_add (f : Nat → Nat) (i j x : Nat) : itN f (i + j) x = itN f i (itN f j x) := by
  induction i with
  | zero => rw [Nat.zero_add]; rfl
  | succ i ih => rw [Nat.add_right_comm]; show f (itN f (i + j) x) = f (itN f i (itN f j x)); rw [ih]

theorem Prm.it {n : Nat} {f : Nat → Nat} (h : Prm n f) (j x : Nat) (hx : x < n) : itN f j x < n := by
  induction j with
  | zero => exact hx
  | succ j ih => exact h.bd _ ih

theorem Prm.it_inj {n : Nat} {f : Nat → Nat} (h : Prm n f) (j x y : Nat) (hx : x < n) (hy : y < n) (e : itN f j x = itN f j y) : x = y := by
  induction j with
  | zero => exact e
  | succ j ih => exact ih (h.inj _ _ (h.it j x hx) (h.it j y hy) e)

/-- The way comes back in at most n steps. -/
theorem Prm.period {n : Nat} {f : Nat → Nat} (h : Prm n f) (x : Nat) (hx : x < n) : ∃ d, 1 ≤ d ∧ d ≤ n ∧ itN f d x = x ∧ ∀ i, 1 ≤ i → i < d → itN f i x ≠ x := by
  have key : ∃ d, 1 ≤ d ∧ d ≤ n ∧ itN f d x = x := by
    apply Classical.byContradiction
    intro hno
    have hd : ((List.range (n + 1)).map fun j => itN f j x).Nodup := by
      unfold List.Nodup
      rw [List.pairwise_map]
      have := List.nodup_range (n := n + 1)
      unfold List.Nodup at this
      refine List.Pairwise.imp_of_mem (fun {a b} ha hb hne e => ?_) this
      have ha := List.mem_range.1 ha
      have hb := List.mem_range.1 hb
      have aux : ∀ i k, i ≤ k → k ≤ n → itN f i x = itN f k x → i = k := by
        intro i k hik hk e
        apply Classical.byContradiction
        intro hne
        apply hno
        refine ⟨k - i, by omega, by omega, ?_⟩
        have e2 : itN f i (itN f (k - i) x) = itN f i x := by rw [← itN_add, show i + (k - i) = k by omega, e]
        exact h.it_inj i _ _ (h.it _ x hx) hx e2
      rcases Nat.le_total a b with hab | hab
      · exact hne (aux a b hab (by omega) e)
      · exact hne (aux b a hab (by omega) e.symm).symm
    have := nodup_le n _ hd (fun v hv => by
      obtain ⟨j, _, rfl⟩ := List.mem_map.1 hv
      exact h.it j x hx)
    simp at this
    omega
  have least : ∀ m, (∃ d, 1 ≤ d ∧ d ≤ m ∧ itN f d x = x) → ∃ d, 1 ≤ d ∧ d ≤ m ∧ itN f d x = x ∧ ∀ i, 1 ≤ i → i < d → itN f i x ≠ x := by
    intro m
    induction m with
    | zero => rintro ⟨d, h1, h2, _⟩; omega
    | succ m ih =>
      rintro ⟨d, h1, h2, h3⟩
      by_cases e : ∃ d, 1 ≤ d ∧ d ≤ m ∧ itN f d x = x
      · obtain ⟨d2, g1, g2, g3⟩ := ih e
        exact ⟨d2, g1, by omega, g3⟩
      · refine ⟨d, h1, h2, h3, fun i hi hid he => e ⟨i, hi, by omega, he⟩⟩
  exact least n key

theorem itN_mul {f : Nat → Nat} {d x : Nat} (h : itN f d x = x) (k : Nat) : itN f (d * k) x = x := by
  induction k with
  | zero => rfl
  | succ k ih => rw [Nat.mul_succ, itN_add, h, ih]

theorem itN_mod {f : Nat → Nat} {d x : Nat} (h : itN f d x = x) (j : Nat) : itN f j x = itN f (j % d) x := by
  have e : j = j % d + d * (j / d) := (Nat.mod_add_div j d).symm
  conv => lhs; rw [e, itN_add, itN_mul h]

theorem cmin_le (f : Nat → Nat) (k x j : Nat) (hj : j ≤ k) : cmin f k x ≤ itN f j x := by
  induction k generalizing x j with
  | zero =>
    have : j = 0 := by omega
    subst this
    exact Nat.le_refl _
  | succ k ih =>
    show ite2 (Nat.ble x (cmin f k (f x))) x (cmin f k (f x)) ≤ _
    rw [ite2_eq]
    cases j with
    | zero =>
      show _ ≤ x
      split
      · exact Nat.le_refl _
      · rename_i h
        have : ¬ x ≤ cmin f k (f x) := fun e => h ((ble_iffN _ _).2 e)
        omega
    | succ j =>
      have := ih (f x) j (by omega)
      rw [itN_front]
      split
      · rename_i h
        have := (ble_iffN _ _).1 h
        omega
      · exact this

theorem cmin_is (f : Nat → Nat) (k x : Nat) : ∃ j, j ≤ k ∧ cmin f k x = itN f j x := by
  induction k generalizing x with
  | zero => exact ⟨0, by omega, rfl⟩
  | succ k ih =>
    show ∃ j, j ≤ k + 1 ∧ ite2 (Nat.ble x (cmin f k (f x))) x (cmin f k (f x)) = _
    rw [ite2_eq]
    split
    · exact ⟨0, by omega, rfl⟩
    · obtain ⟨j, hj, e⟩ := ih (f x)
      exact ⟨j + 1, by omega, by rw [itN_front, e]⟩

theorem Prm.cmin_all {n : Nat} {f : Nat → Nat} (h : Prm n f) (x : Nat) (hx : x < n) (j : Nat) : cmin f n x ≤ itN f j x := by
  obtain ⟨d, h1, h2, h3, _⟩ := h.period x hx
  rw [itN_mod h3]
  exact cmin_le f n x _ (by have := Nat.mod_lt j (show d > 0 by omega); omega)

theorem Prm.cmin_lt {n : Nat} {f : Nat → Nat} (h : Prm n f) (x : Nat) (hx : x < n) : cmin f n x ≤ x ∧ cmin f n x < n := by
  have := h.cmin_all x hx 0
  exact ⟨this, Nat.lt_of_le_of_lt this hx⟩

/-- The way back. -/
theorem Prm.reach {n : Nat} {f : Nat → Nat} (h : Prm n f) (x : Nat) (hx : x < n) (j : Nat) : ∃ i, itN f i (itN f j x) = x := by
  obtain ⟨d, h1, h2, h3, _⟩ := h.period x hx
  refine ⟨d * j - j, ?_⟩
  rw [← itN_add, show d * j - j + j = d * j from by have : j ≤ d * j := Nat.le_mul_of_pos_left _ (by omega); omega]
  exact itN_mul h3 j

theorem Prm.cmin_it {n : Nat} {f : Nat → Nat} (h : Prm n f) (x : Nat) (hx : x < n) (j : Nat) : cmin f n (itN f j x) = cmin f n x := by
  obtain ⟨i, hi⟩ := h.reach x hx j
  obtain ⟨a, _, ea⟩ := cmin_is f n x
  obtain ⟨b, _, eb⟩ := cmin_is f n (itN f j x)
  have h1 : cmin f n (itN f j x) ≤ cmin f n x := by
    rw [ea]
    have := h.cmin_all (itN f j x) (h.it j x hx) (a + i)
    rw [itN_add, hi] at this
    exact this
  have h2 : cmin f n x ≤ cmin f n (itN f j x) := by
    rw [eb, ← itN_add]
    exact h.cmin_all x hx _
  omega

/-- Numbers with the same least one are on one way. -/
theorem Prm.orbit {n : Nat} {f : Nat → Nat} (h : Prm n f) (x z : Nat) (hx : x < n) (hz : z < n) : cmin f n z = cmin f n x ↔ ∃ j, z = itN f j x := by
  constructor
  · intro e
    obtain ⟨a, _, ea⟩ := cmin_is f n x
    obtain ⟨b, _, eb⟩ := cmin_is f n z
    obtain ⟨c, hc⟩ := h.reach z hz b
    refine ⟨c + a, ?_⟩
    rw [itN_add, ← ea, ← e, eb, hc]
  · rintro ⟨j, rfl⟩
    exact h.cmin_it x hx j

/-- The first j numbers on the way from x have z. -/
def orbN (f : Nat → Nat) (x : Nat) (j z : Nat) : Bool := (List.range j).any fun i => decide (itN f i x = z)

theorem orbN_iff (f : Nat → Nat) (x j z : Nat) : orbN f x j z = true ↔ ∃ i, i < j ∧ itN f i x = z := by simp [orbN]

theorem orbN_step (f : Nat → Nat) (x j z : Nat) : orbN f x (j + 1) z = (decide (itN f j x = z) || orbN f x j z) := by
  rw [Bool.eq_iff_iff, Bool.or_eq_true, orbN_iff, orbN_iff, decide_eq_true_eq]
  constructor
  · rintro ⟨i, hi, e⟩
    by_cases h : i = j
    · subst h; exact .inl e
    · exact .inr ⟨i, by omega, e⟩
  · rintro (e | ⟨i, hi, e⟩)
    · exact ⟨j, by omega, e⟩
    · exact ⟨i, by omega, e⟩

/-- Once the way has come back, all of it has been met. -/
theorem Prm.orb_all {n : Nat} {f : Nat → Nat} (h : Prm n f) (x d z : Nat) (hx : x < n) (hz : z < n) (h1 : 1 ≤ d) (hd : itN f d x = x) : orbN f x d z = true ↔ cmin f n z = cmin f n x := by
  rw [h.orbit x z hx hz, orbN_iff]
  constructor
  · rintro ⟨i, _, e⟩; exact ⟨i, e.symm⟩
  · rintro ⟨j, e⟩
    exact ⟨j % d, Nat.mod_lt _ (by omega), by rw [e]; exact (itN_mod hd j).symm⟩

/-- The test for the least one. -/
theorem isMin_iff (f : Nat → Nat) (x k y : Nat) : isMin f x k y = true ↔ (∀ j, j < k → (∀ i, i < j → x < itN f i y) → x ≤ itN f j y) := by
  induction k generalizing y with
  | zero => exact ⟨fun _ j hj => by omega, fun _ => rfl⟩
  | succ k ih =>
    show ite2 (Nat.ble y x) (Nat.beq y x) (isMin f x k (f y)) = true ↔ _
    rw [ite2_eq]
    by_cases h : y ≤ x
    · rw [if_pos ((ble_iffN _ _).2 h), beq_iffN]
      constructor
      · rintro rfl j hj hi
        cases j with
        | zero => exact Nat.le_refl _
        | succ j => have := hi 0 (by omega); exact absurd this (Nat.lt_irrefl _)
      · intro hall
        have := hall 0 (by omega) (fun i hi => by omega)
        change x ≤ y at this
        omega
    · rw [if_neg (fun e => h ((ble_iffN _ _).1 e)), ih]
      constructor
      · intro hall j hj hi
        cases j with
        | zero => show x ≤ y; omega
        | succ j =>
          rw [itN_front]
          exact hall j (by omega) fun i hij => by have := hi (i + 1) (by omega); rwa [itN_front] at this
      · intro hall j hj hi
        have := hall (j + 1) (by omega) fun i hij => by
          cases i with
          | zero => show x < y; omega
          | succ i => rw [itN_front]; exact hi i (by omega)
        rwa [itN_front] at this

theorem Prm.isMin {n : Nat} {f : Nat → Nat} (h : Prm n f) (x : Nat) (hx : x < n) : isMin f x n (f x) = true ↔ cmin f n x = x := by
  rw [isMin_iff]
  obtain ⟨d, h1, h2, h3, h4⟩ := h.period x hx
  constructor
  · intro hall
    have key : ∀ j, j < d - 1 → x < itN f j (f x) := by
      intro j
      induction j using Nat.strongRecOn with
      | ind j ih =>
        intro hj
        have h5 := hall j (by omega) (fun i hi => ih i hi (by omega))
        have h6 := h4 (j + 1) (by omega) (by omega)
        rw [itN_front] at h6
        omega
    obtain ⟨j, hj, e⟩ := cmin_is f n x
    rw [itN_mod h3] at e
    have hm := Nat.mod_lt j (show d > 0 by omega)
    have hle := (h.cmin_lt x hx).1
    by_cases e0 : j % d = 0
    · rw [e, e0]; rfl
    · have := key (j % d - 1) (by omega)
      rw [← itN_front, show j % d - 1 + 1 = j % d by omega] at this
      omega
  · intro e j _ _
    rw [← itN_front, ← e]
    have := h.cmin_all x hx (j + 1)
    rw [e] at this ⊢
    exact this

/-- How many numbers below k are the least of their ways. -/
theorem Prm.cycs {n : Nat} {f : Nat → Nat} (h : Prm n f) (k : Nat) (hk : k ≤ n) : cycs f n k = ((List.range k).filter fun x => decide (cmin f n x = x)).length := by
  induction k with
  | zero => rfl
  | succ k ih =>
    have e : Go.Proofs.Ytehcbamfendbaaa.cycs f n (k + 1) = ite2 (Go.Proofs.Ytehcbamfendbaaa.isMin f k n (f k)) (Go.Proofs.Ytehcbamfendbaaa.cycs f n k + 1) (Go.Proofs.Ytehcbamfendbaaa.cycs f n k) := rfl
    rw [e, ite2_eq, List.range_succ, List.filter_append, List.length_append, ← ih (by omega)]
    by_cases hm : cmin f n k = k
    · rw [if_pos ((h.isMin k (by omega)).2 hm)]
      simp [hm]
    · rw [if_neg (fun e => hm ((h.isMin k (by omega)).1 e))]
      simp [hm]

end Go.Proofs.Ytehcbamfendbaaa

namespace Go.Proofs.Ytehcbamfendbaaa

/-- The next number. -/
def nx (p : List Int) (x : Nat) : Nat := (at8 p x).toNat

theorem Sim.nx {n : Nat} {p : List Int} (h : Sim n p) (x : Nat) : (at8 p x) = (Go.Proofs.Ytehcbamfendbaaa.nx p x : Nat) := by
  have := h.all x
  unfold Go.Proofs.Ytehcbamfendbaaa.nx
  omega

theorem Sim.prm {n : Nat} {p : List Int} (h : Sim n p) : Prm n (Go.Proofs.Ytehcbamfendbaaa.nx p) where
  bd := fun j hj => by have := h.bd j hj; unfold Go.Proofs.Ytehcbamfendbaaa.nx; omega
  inj := fun i j hi hj e => h.inj i j hi hj (by rw [h.nx i, h.nx j, e])
  tail := fun j hj => by unfold Go.Proofs.Ytehcbamfendbaaa.nx; rw [h.tail j hj]; rfl

/-- The least number of the block of each number. -/
noncomputable def lstN (n : Nat) (p : List Int) (x : Nat) : Nat := cmin (nx p) n x
noncomputable def lstR (n : Nat) (p : List Int) : List Int := mapR n fun x => ((lstN n p x : Nat) : Int)
noncomputable def lstM (n : Int) (p : List Int) : List Int := if simB n p = true then lstR n.toNat p else [0, 0, 0, 0, 0, 0, 0, 0]

theorem lstN_bd {n : Nat} {p : List Int} (h : Sim n p) (x : Nat) (hx : x < n) : lstN n p x ≤ x ∧ lstN n p x < n := h.prm.cmin_lt x hx

/-- Met so far: the blocks of the numbers below x, and the first j numbers of the block of x. -/
noncomputable def metP (n : Nat) (p : List Int) (x j z : Nat) : Bool := (decide (z < n) && decide (lstN n p z < x)) || orbN (nx p) x j z
noncomputable def outP (n : Nat) (p : List Int) (x j : Nat) : List Int := mapR n fun z => if lstN n p z < x then ((lstN n p z : Nat) : Int) else if orbN (nx p) x j z = true then (x : Int) else 0

theorem outP_len (n : Nat) (h8 : n ≤ 8) (p : List Int) (x j : Nat) : (outP n p x j).length = 8 := mapR_len _ _ h8

theorem orbN_zero (f : Nat → Nat) (x z : Nat) : orbN f x 0 z = false := rfl

theorem metP_start (n : Nat) (p : List Int) (z : Nat) : metP n p 0 0 z = false := by
  simp [metP, orbN_zero]

theorem outP_start (n : Nat) (h8 : n ≤ 8) (p : List Int) : outP n p 0 0 = [0, 0, 0, 0, 0, 0, 0, 0] := by
  refine ext8 (outP_len n h8 p 0 0) rfl fun j hj => ?_
  unfold outP
  rw [at8_mapR]
  have e : at8 [0, 0, 0, 0, 0, 0, 0, 0] j = 0 := by
    have : j = 0 ∨ j = 1 ∨ j = 2 ∨ j = 3 ∨ j = 4 ∨ j = 5 ∨ j = 6 ∨ j = 7 := by omega
    rcases this with rfl | rfl | rfl | rfl | rfl | rfl | rfl | rfl <;> rfl
  rw [e]
  split
  · rw [if_neg (by omega), if_neg (by rw [orbN_zero]; simp)]
  · rfl

/-- What the way holds while it is gone: all of its numbers are new and different. -/
structure Way (n : Nat) (p : List Int) (x j : Nat) : Prop where
  lt : x < n
  new : 0 < j → lstN n p x = x
  dif : ∀ i, 1 ≤ i → i < j → itN (nx p) i x ≠ x

theorem Way.start {n : Nat} {p : List Int} (x : Nat) (hx : x < n) : Way n p x 0 := ⟨hx, fun h => by omega, fun i _ hi => by omega⟩

theorem Way.here {n : Nat} {p : List Int} {x j : Nat} (w : Way n p x j) (h : Sim n p) : itN (nx p) j x < n := h.prm.it j x w.lt

theorem Way.le {n : Nat} {p : List Int} {x j : Nat} (w : Way n p x j) (h : Sim n p) : j ≤ n := by
  obtain ⟨d, h1, h2, h3, _⟩ := h.prm.period x w.lt
  by_cases e : j ≤ d
  · omega
  · exact absurd h3 (w.dif d h1 (by omega))

/-- The number at hand is met before: the block of x is done. -/
theorem Way.stop {n : Nat} {p : List Int} {x j : Nat} (w : Way n p x j) (h : Sim n p) (hm : metP n p x j (itN (nx p) j x) = true) :
    (lstN n p x < x ∧ j = 0) ∨ (lstN n p x = x ∧ 1 ≤ j ∧ itN (nx p) j x = x) := by
  have hl := (lstN_bd h x w.lt).1
  have e := h.prm.cmin_it x w.lt j
  by_cases hj : j = 0
  · subst hj
    refine .inl ⟨?_, rfl⟩
    unfold metP at hm
    rw [orbN_zero, Bool.or_false, Bool.and_eq_true, decide_eq_true_eq, decide_eq_true_eq] at hm
    exact hm.2
  · have hx := w.new (by omega)
    refine .inr ⟨hx, by omega, ?_⟩
    unfold metP at hm
    rw [Bool.or_eq_true, Bool.and_eq_true, decide_eq_true_eq, decide_eq_true_eq, orbN_iff] at hm
    rcases hm with ⟨_, h2⟩ | ⟨i, hi, ei⟩
    · unfold lstN at h2 hx
      rw [e] at h2
      omega
    · by_cases h0 : i = 0
      · subst h0; exact ei.symm
      · exfalso
        have e2 : itN (nx p) (j - i) x = x := by
          refine h.prm.it_inj i _ _ (h.prm.it _ x w.lt) w.lt ?_
          rw [← itN_add, show i + (j - i) = j by omega, ei]
        exact w.dif (j - i) (by omega) (by omega) e2

/-- The number at hand is new. -/
theorem Way.go {n : Nat} {p : List Int} {x j : Nat} (w : Way n p x j) (h : Sim n p) (hm : metP n p x j (itN (nx p) j x) = false) :
    Way n p x (j + 1) ∧ j < n := by
  unfold metP at hm
  rw [Bool.or_eq_false_iff] at hm
  have hx : lstN n p x = x := by
    by_cases hj : j = 0
    · subst hj
      have := (lstN_bd h x w.lt).1
      have h2 := hm.1
      have h3 : itN (nx p) 0 x = x := rfl
      rw [h3] at h2
      have hxl := w.lt
      simp only [Bool.and_eq_false_iff, decide_eq_false_iff_not] at h2
      omega
    · exact w.new (by omega)
  have key : Way n p x (j + 1) := ⟨w.lt, fun _ => hx, fun i h1 hi e => by
    by_cases e2 : i = j
    · subst e2
      have h3 := hm.2
      rw [← Bool.not_eq_true, orbN_iff] at h3
      exact h3 ⟨0, by omega, e.symm⟩
    · exact w.dif i h1 (by omega) e⟩
  exact ⟨key, by have := key.le h; omega⟩

theorem metP_step (n : Nat) (p : List Int) (x j z : Nat) : metP n p x (j + 1) z = if itN (nx p) j x = z then true else metP n p x j z := by
  unfold metP
  rw [orbN_step]
  by_cases e : itN (nx p) j x = z
  · simp [e]
  · simp [e]

theorem outP_step {n : Nat} {p : List Int} {x j : Nat} (h : Sim n p) (w : Way n p x (j + 1)) : (outP n p x j).set (itN (nx p) j x) (x : Int) = outP n p x (j + 1) := by
  have h8 := h.hi
  have hit := h.prm.it j x w.lt
  refine ext8 (by rw [List.length_set]; exact outP_len n h8 p x j) (outP_len n h8 p x (j + 1)) fun z hz => ?_
  rw [at8_set _ _ _ _ (by rw [outP_len n h8]; omega)]
  unfold outP
  rw [at8_mapR, at8_mapR]
  by_cases e : itN (nx p) j x = z
  · subst e
    rw [if_pos rfl, if_pos hit]
    have hx := w.new (by omega)
    have e2 := h.prm.cmin_it x w.lt j
    have e3 : lstN n p (itN (nx p) j x) = x := by unfold lstN at hx ⊢; rw [e2, hx]
    rw [e3, if_neg (by omega), if_pos]
    rw [orbN_step]
    simp
  · rw [if_neg e, orbN_step]
    simp [e]

/-- The block of x is done: on to the next number. -/
theorem Way.next {n : Nat} {p : List Int} {x j : Nat} (w : Way n p x j) (h : Sim n p) (hm : metP n p x j (itN (nx p) j x) = true) :
    (∀ z, z < 8 → metP n p x j z = metP n p (x + 1) 0 z) ∧ outP n p x j = outP n p (x + 1) 0 := by
  have h8 := h.hi
  have hlx := (lstN_bd h x w.lt)
  have key : ∀ z, z < n → (orbN (nx p) x j z = true ↔ (1 ≤ j ∧ lstN n p z = x)) := by
    intro z hz
    rcases w.stop h hm with ⟨h1, h2⟩ | ⟨h1, h2, h3⟩
    · subst h2
      rw [orbN_zero]
      simp
    · rw [h.prm.orb_all x j z w.lt hz h2 h3]
      change lstN n p z = lstN n p x ↔ _
      rw [h1]
      simp [h2]
  have none : j = 0 → ∀ z, z < n → lstN n p z ≠ x := by
    intro hj z hz e
    rcases w.stop h hm with ⟨h1, h2⟩ | ⟨h1, h2, h3⟩
    · have h4 : lstN n p x = x := by
        obtain ⟨a, _, ea⟩ := cmin_is (nx p) n z
        have e6 : lstN n p z = itN (nx p) a z := ea
        have e7 : lstN n p (lstN n p z) = lstN n p z := by
          have := h.prm.cmin_it z hz a
          rw [← e6] at this
          exact this
        rwa [e] at e7
      omega
    · omega
  have hcase : j = 0 ∨ 1 ≤ j := by omega
  refine ⟨fun z hz => ?_, ?_⟩
  · unfold metP
    rw [orbN_zero, Bool.or_false, Bool.eq_iff_iff]
    simp only [Bool.or_eq_true, Bool.and_eq_true, decide_eq_true_eq]
    by_cases hzn : z < n
    · rw [key z hzn]
      rcases hcase with hj | hj
      · have := none hj z hzn
        omega
      · omega
    · have : orbN (nx p) x j z = false := by
        rw [← Bool.not_eq_true, orbN_iff]
        rintro ⟨i, _, rfl⟩
        exact hzn (h.prm.it i x w.lt)
      rw [this]
      simp [hzn]
  · unfold outP
    refine mapR_congr _ _ _ fun z hz => ?_
    rw [orbN_zero, if_neg (show ¬ (false = true) by simp)]
    by_cases e1 : lstN n p z < x
    · rw [if_pos e1, if_pos (by omega)]
    · rw [if_neg e1]
      by_cases e2 : lstN n p z = x
      · rcases hcase with hj | hj
        · exact absurd e2 (none hj z hz)
        · rw [if_pos ((key z hz).2 ⟨hj, e2⟩), if_pos (by omega), e2]
      · rw [if_neg (fun e => e2 ((key z hz).1 e).2), if_neg (by omega)]

theorem outP_end {n : Nat} {p : List Int} (h : Sim n p) : outP n p n 0 = lstR n p := by
  unfold outP lstR
  exact mapR_congr _ _ _ fun z hz => by rw [if_pos (lstN_bd h z hz).2]

end Go.Proofs.Ytehcbamfendbaaa

namespace Go.Proofs.Ytehcbamfendbaaa

/-- The part of a division. -/
noncomputable def madeR (n : Nat) (L : List Int) : List Int := mapR n fun x => ((mdN (nx L) n x : Nat) : Int)

theorem upN_step (L : Nat → Nat) (x k y : Nat) : upN L x (k + 1) y = if L y = L x then y else upN L x k (y + 1) := by
  show ite2 (Nat.beq (L y) (L x)) y (upN L x k (y + 1)) = _
  rw [ite2_eq]
  by_cases h : L y = L x
  · rw [if_pos ((beq_iffN _ _).2 h), if_pos h]
  · rw [if_neg (fun e => h ((beq_iffN _ _).1 e)), if_neg h]

theorem upN_lt (L : Nat → Nat) (x k y m : Nat) (hx : L x < m) (hy : y + k ≤ m) : upN L x k y < m := by
  induction k generalizing y with
  | zero => exact hx
  | succ k ih =>
    rw [upN_step]
    split
    · omega
    · exact ih (y + 1) (by omega)

theorem mdN_lt (L : Nat → Nat) (n x : Nat) (hx : x < n) (hL : L x < n) : mdN L n x < n := upN_lt L x _ _ n hL (by show x + 1 + (n - 1 - x) ≤ n; omega)

/-- Four numbers whose blocks cross. -/
def X4 (L : Nat → Nat) (a b c d : Nat) : Prop := L a = L c ∧ L b = L d ∧ L a ≠ L b

theorem crN_iff (L : Nat → Nat) (n : Nat) : crN L n = true ↔ ∃ a b c d, a < b ∧ b < c ∧ c < d ∧ d < n ∧ X4 L a b c d := by
  unfold crN
  rw [notB_eq, Bool.not_eq_true', ← Bool.not_eq_true, allN_iff]
  constructor
  · intro h
    apply Classical.byContradiction
    intro hno
    apply h
    intro d hd
    rw [allN_iff]
    intro c hc
    rw [allN_iff]
    intro b hb
    rw [ite2_eq]
    by_cases e1 : L b = L d
    · rw [if_pos ((beq_iffN _ _).2 e1), allN_iff]
      intro a ha
      rw [ite2_eq]
      by_cases e2 : L a = L c
      · rw [if_pos ((beq_iffN _ _).2 e2), beq_iffN]
        apply Classical.byContradiction
        intro e3
        exact hno ⟨a, b, c, d, ha, hb, hc, hd, e2, e1, e3⟩
      · rw [if_neg (fun e => e2 ((beq_iffN _ _).1 e))]
    · rw [if_neg (fun e => e1 ((beq_iffN _ _).1 e))]
  · rintro ⟨a, b, c, d, hab, hbc, hcd, hdn, e1, e2, e3⟩ h
    have h1 := h d hdn
    rw [allN_iff] at h1
    have h2 := h1 c hcd
    rw [allN_iff] at h2
    have h3 := h2 b hbc
    rw [ite2_true _ _ _ ((beq_iffN _ _).2 e2), allN_iff] at h3
    have h4 := h3 a hab
    rw [ite2_true _ _ _ ((beq_iffN _ _).2 e1), beq_iffN] at h4
    exact e3 h4

theorem crN_no (L : Nat → Nat) (n : Nat) (h : ∀ a b c d, a < n → a < b → b < c → c < d → d < n → ¬ X4 L a b c d) : crN L n = false := by
  rw [← Bool.not_eq_true, crN_iff]
  rintro ⟨a, b, c, d, h1, h2, h3, h4, h5⟩
  exact h a b c d (by omega) h1 h2 h3 h4 h5

/-- Is the row a part of n numbers? -/
noncomputable def isPt (n : Int) (p : List Int) : Bool := simB n p && ncN (nx p) (lstN n.toNat p) n.toNat

theorem ncN_iff (f L : Nat → Nat) (n : Nat) : ncN f L n = true ↔ (∀ x, x < n → mdN L n x = f x) ∧ crN L n = false := by
  unfold ncN
  rw [ite2_and, notB_eq, Bool.and_eq_true, allN_iff, Bool.not_eq_true']
  simp only [beq_iffN]

theorem nx_lst {n : Nat} {p : List Int} (x : Nat) (hx : x < n) : nx (lstR n p) x = lstN n p x := by
  unfold nx lstR
  rw [at8_mapR, if_pos hx, Int.toNat_natCast]

theorem upN_congr (L M : Nat → Nat) (n x k y : Nat) (hx : x < n) (hy : y + k ≤ n) (h : ∀ z, z < n → L z = M z) : upN L x k y = upN M x k y := by
  induction k generalizing y with
  | zero => exact h x hx
  | succ k ih => rw [upN_step, upN_step, h y (by omega), h x hx, ih (y + 1) (by omega)]

theorem mdN_congr (L M : Nat → Nat) (n x : Nat) (hx : x < n) (h : ∀ z, z < n → L z = M z) : mdN L n x = mdN M n x :=
  upN_congr L M n x _ _ hx (by show x + 1 + (n - 1 - x) ≤ n; omega) h

theorem crN_congr (L M : Nat → Nat) (n : Nat) (h : ∀ z, z < n → L z = M z) : crN L n = crN M n := by
  rw [Bool.eq_iff_iff, crN_iff, crN_iff]
  constructor
  · rintro ⟨a, b, c, d, h1, h2, h3, h4, h5, h6, h7⟩
    exact ⟨a, b, c, d, h1, h2, h3, h4, by rw [← h a (by omega), ← h c (by omega)]; exact h5, by rw [← h b (by omega), ← h d h4]; exact h6, by rw [← h a (by omega), ← h b (by omega)]; exact h7⟩
  · rintro ⟨a, b, c, d, h1, h2, h3, h4, h5, h6, h7⟩
    exact ⟨a, b, c, d, h1, h2, h3, h4, by rw [h a (by omega), h c (by omega)]; exact h5, by rw [h b (by omega), h d h4]; exact h6, by rw [h a (by omega), h b (by omega)]; exact h7⟩

theorem isPt_iff {n : Nat} {p : List Int} (h : Sim n p) : isPt n p = true ↔ (madeR n (lstR n p) = p ∧ crN (nx (lstR n p)) n = false) := by
  unfold isPt
  rw [Bool.and_eq_true, Int.toNat_natCast, ncN_iff]
  have e1 : simB n p = true := (simB_iff _ _ h.len).2 ⟨n, rfl, h⟩
  have e2 : crN (nx (lstR n p)) n = crN (lstN n p) n := crN_congr _ _ n fun z hz => nx_lst z hz
  have e3 : (∀ x, x < n → mdN (lstN n p) n x = nx p x) ↔ madeR n (lstR n p) = p := by
    constructor
    · intro hx
      refine ext8 (mapR_len _ _ h.hi) h.len fun j hj => ?_
      unfold madeR
      rw [at8_mapR]
      by_cases e : j < n
      · rw [if_pos e, mdN_congr _ _ n j e (fun z hz => nx_lst z hz), hx j e, h.nx j]
      · rw [if_neg e, h.tail j (by omega)]
    · intro hx x hxn
      have e : nx (madeR n (lstR n p)) x = nx p x := by rw [hx]
      rw [← e]
      unfold madeR
      show _ = (at8 _ x).toNat
      rw [at8_mapR, if_pos hxn, Int.toNat_natCast]
      exact (mdN_congr _ _ n x hxn (fun z hz => nx_lst z hz)).symm
  rw [e2, e3]
  simp [e1]

theorem isPt_sim {n : Int} {p : List Int} (hl : p.length = 8) (h : isPt n p = true) : ∃ k : Nat, n = k ∧ Sim k p := by
  unfold isPt at h
  rw [Bool.and_eq_true] at h
  exact (simB_iff n p hl).1 h.1

end Go.Proofs.Ytehcbamfendbaaa

namespace Go.Proofs.Ytehcbamfendbaaa

/-- The first j numbers on the way from x. -/
def blkN (p : List Int) (x j : Nat) : List Int := (List.range j).map fun i => ((itN (nx p) i x : Nat) : Int)

theorem blkN_step (p : List Int) (x j : Nat) : blkN p x (j + 1) = blkN p x j ++ [((itN (nx p) j x : Nat) : Int)] := by simp [blkN, List.range_succ]

theorem blkN_len (p : List Int) (x j : Nat) : (blkN p x j).length = j := by simp [blkN]

/-- After so many steps the way from x comes back. -/
def Back (p : List Int) (x d : Nat) : Prop := 1 ≤ d ∧ itN (nx p) d x = x ∧ ∀ i, 1 ≤ i → i < d → itN (nx p) i x ≠ x
noncomputable def perN (p : List Int) (x : Nat) : Nat := Classical.epsilon (Back p x)

theorem perN_eq {p : List Int} {x d : Nat} (h : Back p x d) : perN p x = d := by
  have h2 : Back p x (perN p x) := Classical.epsilon_spec ⟨d, h⟩
  rcases Nat.lt_trichotomy (perN p x) d with h3 | h3 | h3
  · exact absurd h2.2.1 (h.2.2 _ h2.1 h3)
  · exact h3
  · exact absurd h.2.1 (h2.2.2 _ h.1 h3)

/-- The blocks whose least numbers are below x, each on its way from the least number. -/
noncomputable def cycL (n : Nat) (p : List Int) (x : Nat) : List (List Int) :=
  ((List.range x).filter fun z => decide (lstN n p z = z)).map fun z => blkN p z (perN p z)

theorem cycL_yes (n : Nat) (p : List Int) (x : Nat) (h : lstN n p x = x) : cycL n p (x + 1) = cycL n p x ++ [blkN p x (perN p x)] := by
  simp [cycL, List.range_succ, h]

theorem cycL_no (n : Nat) (p : List Int) (x : Nat) (h : lstN n p x ≠ x) : cycL n p (x + 1) = cycL n p x := by
  simp [cycL, List.range_succ, h]

theorem cycL_len (n : Nat) (p : List Int) (x : Nat) : (cycL n p x).length ≤ x := by
  unfold cycL
  rw [List.length_map]
  exact Nat.le_trans (List.length_filter_le _ _) (by simp)

theorem cycL_cycs {n : Nat} {p : List Int} (h : Sim n p) : (cycL n p n).length = cycs (nx p) n n := by
  unfold cycL
  rw [List.length_map, h.prm.cycs n (Nat.le_refl _)]
  rfl

theorem Way.back {n : Nat} {p : List Int} {x j : Nat} (w : Way n p x j) (h1 : 1 ≤ j) (hj : itN (nx p) j x = x) : perN p x = j := perN_eq ⟨h1, hj, w.dif⟩

end Go.Proofs.Ytehcbamfendbaaa

namespace Go.Proofs.Ytehcbamfendbaaa

/-- The first of the numbers y, y + 1, .. (there are k) at which P holds, or 0. -/
def lwN (P : Nat → Bool) : Nat → Nat → Nat
  | 0, _ => 0
  | k + 1, y => if P y = true then y else lwN P k (y + 1)

theorem lwN_is (P : Nat → Bool) (k y z : Nat) (h1 : y ≤ z) (h2 : z < y + k) (hz : P z = true) (hu : ∀ i, y ≤ i → i < z → P i = false) : lwN P k y = z := by
  induction k generalizing y with
  | zero => omega
  | succ k ih =>
    unfold lwN
    by_cases e : y = z
    · subst e; rw [if_pos hz]
    · rw [if_neg (by rw [hu y (Nat.le_refl _) (by omega)]; simp)]
      exact ih (y + 1) (by omega) (by omega) fun i h3 h4 => hu i (by omega) h4

/-- Both blocks are the same. -/
def bothB (n : Nat) (A B : Nat → Nat) (x y : Nat) : Bool := decide (y < n) && (decide (A y = A x) && decide (B y = B x))

theorem bothB_iff (n : Nat) (A B : Nat → Nat) (x y : Nat) : bothB n A B x y = true ↔ y < n ∧ A y = A x ∧ B y = B x := by simp [bothB]

/-- The least number with which x has both blocks in common. -/
def mtN (n : Nat) (A B : Nat → Nat) (x : Nat) : Nat := lwN (bothB n A B x) 8 0
noncomputable def mtR (n : Nat) (p q : List Int) : List Int := mapR n fun x => ((mtN n (lstN n p) (lstN n q) x : Nat) : Int)
noncomputable def meetP (n : Nat) (p q : List Int) : List Int := madeR n (mtR n p q)

theorem least_of (P : Nat → Prop) (x : Nat) (h : P x) : ∃ z, z ≤ x ∧ P z ∧ ∀ i, i < z → ¬ P i := by
  induction x using Nat.strongRecOn with
  | ind x ih =>
    by_cases e : ∃ i, i < x ∧ P i
    · obtain ⟨i, hi, hp⟩ := e
      obtain ⟨z, h1, h2, h3⟩ := ih i hi hp
      exact ⟨z, by omega, h2, h3⟩
    · exact ⟨x, Nat.le_refl _, h, fun i hi hp => e ⟨i, hi, hp⟩⟩

theorem mtN_is (n : Nat) (A B : Nat → Nat) (x : Nat) (hx : x < n) (h8 : n ≤ 8) :
    mtN n A B x ≤ x ∧ A (mtN n A B x) = A x ∧ B (mtN n A B x) = B x ∧ ∀ i, i < mtN n A B x → ¬ (A i = A x ∧ B i = B x) := by
  obtain ⟨z, h1, ⟨h2, h3⟩, h4⟩ := least_of (fun y => A y = A x ∧ B y = B x) x ⟨rfl, rfl⟩
  have e : mtN n A B x = z := lwN_is _ 8 0 z (by omega) (by omega) ((bothB_iff _ _ _ _ _).2 ⟨by omega, h2, h3⟩) (fun i _ hi => by
    rw [← Bool.not_eq_true, bothB_iff]
    exact fun h => h4 i hi h.2)
  rw [e]
  exact ⟨h1, h2, h3, h4⟩

theorem mtN_same (n : Nat) (A B : Nat → Nat) (x y : Nat) (hx : x < n) (hy : y < n) (h8 : n ≤ 8) : mtN n A B y = mtN n A B x ↔ (A y = A x ∧ B y = B x) := by
  obtain ⟨a1, a2, a3, a4⟩ := mtN_is n A B x hx h8
  obtain ⟨b1, b2, b3, b4⟩ := mtN_is n A B y hy h8
  constructor
  · intro e
    rw [e] at b2 b3
    exact ⟨by rw [← b2, a2], by rw [← b3, a3]⟩
  · rintro ⟨e1, e2⟩
    rcases Nat.lt_trichotomy (mtN n A B y) (mtN n A B x) with h | h | h
    · exact absurd ⟨by rw [b2, e1], by rw [b3, e2]⟩ (a4 _ h)
    · exact h
    · exact absurd ⟨by rw [a2, e1], by rw [a3, e2]⟩ (b4 _ h)

theorem upN_cases (L : Nat → Nat) (x k y : Nat) : (∃ z, y ≤ z ∧ z < y + k ∧ L z = L x ∧ (∀ i, y ≤ i → i < z → L i ≠ L x) ∧ upN L x k y = z) ∨ ((∀ i, y ≤ i → i < y + k → L i ≠ L x) ∧ upN L x k y = L x) := by
  induction k generalizing y with
  | zero => exact .inr ⟨fun i h1 h2 => by omega, rfl⟩
  | succ k ih =>
    rw [upN_step]
    by_cases e : L y = L x
    · rw [if_pos e]
      exact .inl ⟨y, Nat.le_refl _, by omega, e, fun i h1 h2 => by omega, rfl⟩
    · rw [if_neg e]
      rcases ih (y + 1) with ⟨z, h1, h2, h3, h4, h5⟩ | ⟨h1, h2⟩
      · exact .inl ⟨z, by omega, by omega, h3, fun i g1 g2 => by
          by_cases e2 : i = y
          · subst e2; exact e
          · exact h4 i (by omega) g2, h5⟩
      · exact .inr ⟨fun i g1 g2 => by
          by_cases e2 : i = y
          · subst e2; exact e
          · exact h1 i (by omega) (by omega), h2⟩

/-- The next greater one of the class, or the least one. -/
theorem mdN_cases (L : Nat → Nat) (n x : Nat) (hx : x < n) : (x < mdN L n x ∧ mdN L n x < n ∧ L (mdN L n x) = L x ∧ ∀ i, x < i → i < mdN L n x → L i ≠ L x) ∨ ((∀ i, x < i → i < n → L i ≠ L x) ∧ mdN L n x = L x) := by
  have h := upN_cases L x (n - 1 - x) (x + 1)
  have e : upN L x (n - 1 - x) (x + 1) = mdN L n x := rfl
  rw [e] at h
  rcases h with ⟨z, h1, h2, h3, h4, h5⟩ | ⟨h1, h2⟩
  · rw [h5]
    exact .inl ⟨by omega, by omega, h3, fun i g1 g2 => h4 i (by omega) g2⟩
  · exact .inr ⟨fun i g1 g2 => h1 i (by omega) (by omega), h2⟩

theorem mdN_next (L : Nat → Nat) (n x y : Nat) (hx : x < n) (h1 : x < y) (h2 : y < n) (h3 : L y = L x) (h4 : ∀ i, x < i → i < y → L i ≠ L x) : mdN L n x = y := by
  rcases mdN_cases L n x hx with ⟨g1, g2, g3, g4⟩ | ⟨g1, g2⟩
  · rcases Nat.lt_trichotomy (mdN L n x) y with h | h | h
    · exact absurd g3 (h4 _ g1 h)
    · exact h
    · exact absurd h3 (g4 _ h1 h)
  · exact absurd h3 (g1 y h1 h2)

theorem mdN_last (L : Nat → Nat) (n x : Nat) (hx : x < n) (h : ∀ i, x < i → i < n → L i ≠ L x) : mdN L n x = L x := by
  rcases mdN_cases L n x hx with ⟨g1, g2, g3, g4⟩ | ⟨g1, g2⟩
  · exact absurd g3 (h _ g1 g2)
  · exact g2

/-- Going on from x in the block of p until the block of q is that of x. -/
structure Goes (p q : List Int) (n x j : Nat) : Prop where
  one : 1 ≤ j
  new : ∀ i, 1 ≤ i → i < j → lstN n q (itN (nx p) i x) ≠ lstN n q x

theorem Goes.le {p q : List Int} {n x j : Nat} (g : Goes p q n x j) (h : Sim n p) (hx : x < n) : j ≤ n := by
  obtain ⟨d, h1, h2, h3, _⟩ := h.prm.period x hx
  by_cases e : j ≤ d
  · omega
  · exact absurd (by rw [h3]) (g.new d h1 (by omega))

/-- The number at hand: all between x and it has been passed. -/
theorem Goes.at {p q : List Int} {n x : Nat} (h : Sim n p) (hasc : ∀ x, x < n → mdN (lstN n p) n x = nx p x) (hx : x < n) : ∀ j, Goes p q n x j →
    (x < itN (nx p) j x ∧ ∀ z, x < z → z < itN (nx p) j x → ¬ (lstN n p z = lstN n p x ∧ lstN n q z = lstN n q x)) ∨
    ((∀ z, x < z → z < n → ¬ (lstN n p z = lstN n p x ∧ lstN n q z = lstN n q x)) ∧ itN (nx p) j x ≤ x ∧ ∀ z, z < itN (nx p) j x → ¬ (lstN n p z = lstN n p x ∧ lstN n q z = lstN n q x)) := by
  have low : ∀ z y, z < lstN n p y → y < n → lstN n p z ≠ lstN n p y := fun z y h1 hy e => by
    have := lstN_bd h y hy
    have := (lstN_bd h z (by omega)).1
    omega
  intro j
  induction j with
  | zero => intro g; have := g.one; omega
  | succ j ih =>
    intro g
    have hf : itN (nx p) (j + 1) x = mdN (lstN n p) n (itN (nx p) j x) := by rw [hasc _ (h.prm.it j x hx)]; rfl
    have hy := h.prm.it j x hx
    have hA : lstN n p (itN (nx p) j x) = lstN n p x := h.prm.cmin_it x hx j
    by_cases hj : j = 0
    · subst hj
      rw [hf]
      change (x < mdN (lstN n p) n x ∧ _) ∨ (_ ∧ mdN (lstN n p) n x ≤ x ∧ _)
      rcases mdN_cases (lstN n p) n x hx with ⟨g1, g2, g3, g4⟩ | ⟨g1, g2⟩
      · exact .inl ⟨g1, fun z h1 h2 hz => g4 z h1 h2 hz.1⟩
      · exact .inr ⟨fun z h1 h2 hz => g1 z h1 h2 hz.1, by rw [g2]; exact (lstN_bd h x hx).1, fun z hz e => low z x (by rw [← g2]; exact hz) hx e.1⟩
    · have hB := g.new j (by omega) (by omega)
      rcases ih ⟨by omega, fun i h1 h2 => g.new i h1 (by omega)⟩ with ⟨p1, p2⟩ | ⟨p1, p2, p3⟩
      · rcases mdN_cases (lstN n p) n (itN (nx p) j x) hy with ⟨g1, g2, g3, g4⟩ | ⟨g1, g2⟩
        · rw [hf]
          refine .inl ⟨by omega, fun z h1 h2 hz => ?_⟩
          rcases Nat.lt_trichotomy z (itN (nx p) j x) with h3 | h3 | h3
          · exact p2 z h1 h3 hz
          · rw [h3] at hz; exact hB hz.2
          · exact g4 z h3 h2 (by rw [hA]; exact hz.1)
        · rw [hf, g2, hA]
          refine .inr ⟨fun z h1 h2 hz => ?_, (lstN_bd h x hx).1, fun z hz e => low z x hz hx e.1⟩
          rcases Nat.lt_trichotomy z (itN (nx p) j x) with h3 | h3 | h3
          · exact p2 z h1 h3 hz
          · rw [h3] at hz; exact hB hz.2
          · exact g1 z h3 h2 (by rw [hA]; exact hz.1)
      · have hyx : itN (nx p) j x < x := by
          rcases Nat.lt_or_ge (itN (nx p) j x) x with h3 | h3
          · exact h3
          · have : itN (nx p) j x = x := by omega
            rw [this] at hB
            exact absurd rfl hB
        rcases mdN_cases (lstN n p) n (itN (nx p) j x) hy with ⟨g1, g2, g3, g4⟩ | ⟨g1, g2⟩
        · rw [hf]
          refine .inr ⟨p1, ?_, fun z hz e => ?_⟩
          · rcases Nat.lt_or_ge x (mdN (lstN n p) n (itN (nx p) j x)) with h3 | h3
            · exact absurd hA.symm (g4 x hyx h3)
            · exact h3
          · rcases Nat.lt_trichotomy z (itN (nx p) j x) with h3 | h3 | h3
            · exact p3 z h3 e
            · rw [h3] at e; exact hB e.2
            · exact g4 z h3 hz (by rw [hA]; exact e.1)
        · exact absurd hA.symm (g1 x hyx hx)

/-- The number at which the going ends is that of the meet. -/
theorem Goes.ends {p q : List Int} {n x j : Nat} (g : Goes p q n x j) (h : Sim n p) (hasc : ∀ x, x < n → mdN (lstN n p) n x = nx p x) (hx : x < n) (he : lstN n q (itN (nx p) j x) = lstN n q x) :
    at8 (meetP n p q) x = (itN (nx p) j x : Nat) := by
  have h8 := h.hi
  have hy := h.prm.it j x hx
  have hA : lstN n p (itN (nx p) j x) = lstN n p x := h.prm.cmin_it x hx j
  have hM : ∀ z, z < n → nx (mtR n p q) z = mtN n (lstN n p) (lstN n q) z := fun z hz => by
    unfold nx mtR
    rw [at8_mapR, if_pos hz, Int.toNat_natCast]
  unfold meetP madeR
  rw [at8_mapR, if_pos hx, mdN_congr _ _ n x hx hM]
  congr 1
  rcases Goes.at h hasc hx j g with ⟨p1, p2⟩ | ⟨p1, p2, p3⟩
  · exact mdN_next _ n x _ hx p1 hy ((mtN_same n _ _ x _ hx hy h8).2 ⟨hA, he⟩) (fun i h1 h2 e => p2 i h1 h2 ((mtN_same n _ _ x i hx (by omega) h8).1 e))
  · rw [mdN_last _ n x hx (fun i h1 h2 e => p1 i h1 h2 ((mtN_same n _ _ x i hx h2 h8).1 e))]
    obtain ⟨a1, a2, a3, a4⟩ := mtN_is n (lstN n p) (lstN n q) x hx h8
    rcases Nat.lt_trichotomy (mtN n (lstN n p) (lstN n q) x) (itN (nx p) j x) with h3 | h3 | h3
    · exact absurd ⟨a2, a3⟩ (p3 _ h3)
    · exact h3
    · exact absurd ⟨hA, he⟩ (a4 _ h3)

theorem asc_of {n : Nat} {p : List Int} (h : isPt n p = true) : ∀ x, x < n → mdN (lstN n p) n x = nx p x := by
  unfold isPt at h
  rw [Bool.and_eq_true, Int.toNat_natCast, ncN_iff] at h
  exact h.2.1

end Go.Proofs.Ytehcbamfendbaaa
