/- Ways of rows of numbers: orbits, their least numbers, packed rows. No program is spoken of. -/
import Derived.Test.YthelncibpoijoaaPtD
namespace Go.Proofs.Ythelncibpoijoaa

theorem ite2_eq {α : Type} (b : Bool) (t f : α) : ite2 b t f = if b = true then t else f := by cases b <;> rfl
theorem ite2_true {α : Type} (b : Bool) (t f : α) (h : b = true) : ite2 b t f = t := by subst h; rfl
theorem ite2_false {α : Type} (b : Bool) (t f : α) (h : b = false) : ite2 b t f = f := by subst h; rfl
theorem notB_eq (b : Bool) : notB b = !b := by cases b <;> rfl
theorem ite2_and (b c : Bool) : ite2 b c false = (b && c) := by cases b <;> rfl
theorem ite2_imp (b c : Bool) : ite2 b c true = (!b || c) := by cases b <;> rfl

theorem allN_iff (p : Nat → Bool) (n : Nat) : allN p n = true ↔ ∀ k, k < n → p k = true := by
  induction n with
  | zero => exact ⟨fun _ k hk => by omega, fun _ => rfl⟩
  | succ n ih =>
    show ite2 (p n) (allN p n) false = true ↔ _
    rw [ite2_and, Bool.and_eq_true, ih]
    constructor
    · rintro ⟨h1, h2⟩ k hk
      by_cases e : k = n
      · subst e; exact h1
      · exact h2 k (by omega)
    · intro h
      exact ⟨h n (by omega), fun k hk => h k (by omega)⟩

theorem ble_iffN (a b : Nat) : Nat.ble a b = true ↔ a ≤ b := by rw [Nat.ble_eq]
theorem beq_iffN (a b : Nat) : Nat.beq a b = true ↔ a = b := Nat.beq_eq ▸ Iff.rfl

/-- A row packed and read again. -/
theorem pkN_lt (f : Nat → Nat) (n : Nat) (h : ∀ k, k < n → f k < 8) : pkN f n < 8 ^ n := by
  induction n with
  | zero => show 0 < 1; omega
  | succ n ih =>
    show pkN f n + f n * 8 ^ n < 8 ^ (n + 1)
    have h1 := ih fun k hk => h k (by omega)
    have h2 := h n (by omega)
    have h3 : f n * 8 ^ n ≤ 7 * 8 ^ n := Nat.mul_le_mul_right _ (by omega)
    rw [Nat.pow_succ]
    omega

theorem gtN_pkN (f : Nat → Nat) (n : Nat) (h : ∀ k, k < n → f k < 8) (x : Nat) : gtN (pkN f n) x = if x < n then f x else 0 := by
  show pkN f n / 8 ^ x % 8 = _
  induction n with
  | zero =>
    show 0 / 8 ^ x % 8 = _
    rw [if_neg (by omega), Nat.zero_div]
  | succ n ih =>
    show (pkN f n + f n * 8 ^ n) / 8 ^ x % 8 = _
    have h1 := pkN_lt f n fun k hk => h k (by omega)
    have h2 := h n (by omega)
    have ih := ih fun k hk => h k (by omega)
    by_cases e1 : x < n
    · rw [if_pos (by omega)]
      rw [if_pos e1] at ih
      rw [← ih]
      have e2 : f n * 8 ^ n = (f n * 8 ^ (n - x - 1) * 8) * 8 ^ x := by
        rw [Nat.mul_assoc, Nat.mul_assoc, ← Nat.pow_succ', ← Nat.pow_add]
        congr 2
        omega
      rw [e2, Nat.add_mul_div_right _ _ (Nat.pow_pos (by omega)), Nat.add_mul_mod_self_right]
    · by_cases e2 : x = n
      · subst e2
        rw [if_pos (by omega), Nat.add_mul_div_right _ _ (Nat.pow_pos (by omega)), Nat.div_eq_of_lt h1, Nat.zero_add, Nat.mod_eq_of_lt h2]
      · rw [if_neg (by omega)]
        have h3 : f n * 8 ^ n ≤ 7 * 8 ^ n := Nat.mul_le_mul_right _ (by omega)
        have h4 : 8 ^ (n + 1) ≤ 8 ^ x := Nat.pow_le_pow_right (by omega) (by omega)
        rw [Nat.pow_succ] at h4
        rw [Nat.div_eq_of_lt (by omega)]

/-- The test holds at every row that goes on from here. -/
theorem chkN_all (T : Nat → Bool) (n : Nat) (f : Nat → Nat) (k : Nat) : ∀ (used P : Nat), chkN T n k used P = true → (∀ j, j < k → f j < n) → (∀ i j, i < k → j < k → f i = f j → i = j) →
    (∀ j, j < k → used.testBit (f j) = false) → T (P + pkN f k) = true := by
  induction k with
  | zero =>
    intro used P h _ _ _
    exact h
  | succ k ih =>
    intro used P h hb hi hu
    have h1 := (allN_iff _ _).1 h (f k) (hb k (by omega))
    rw [ite2_false _ _ _ (hu k (by omega))] at h1
    have h2 := ih _ _ h1 (fun j hj => hb j (by omega)) (fun i j hi' hj => hi i j (by omega) (by omega)) (fun j hj => by
      show (used ||| 2 ^ f k).testBit (f j) = false
      rw [Nat.testBit_or, hu j (by omega), Nat.testBit_two_pow, Bool.false_or, decide_eq_false_iff_not]
      intro e
      have := hi k j (by omega) (by omega) e
      omega)
    have e : P + pkN f (k + 1) = Nat.add P (Nat.mul (f k) (Nat.pow 8 k)) + pkN f k := by
      show P + (pkN f k + f k * 8 ^ k) = (P + f k * 8 ^ k) + pkN f k
      omega
    rw [e]
    exact h2

/-- f leads the numbers below n to different ones. -/
structure Prm (n : Nat) (f : Nat → Nat) : Prop where
  bd : ∀ j, j < n → f j < n
  inj : ∀ i j, i < n → j < n → f i = f j → i = j
  tail : ∀ j, n ≤ j → f j = 0

theorem Prm.read {n : Nat} {f : Nat → Nat} (h : Prm n f) (h8 : n ≤ 8) : gtN (pkN f n) = f := by
  funext x
  rw [gtN_pkN f n (fun k hk => by have := h.bd k hk; omega)]
  by_cases e : x < n
  · rw [if_pos e]
  · rw [if_neg e, h.tail x (by omega)]

/-- The complement's row, with zeros behind it. -/
noncomputable def kR (f : Nat → Nat) (n x : Nat) : Nat := if x < n then kN f n x else 0

theorem tst_of {n : Nat} {f : Nat → Nat} (h : Prm n f) (h1 : 1 ≤ n) (h8 : n ≤ 8) (ht : tstN n (pkN f n) = true) :
    ncN f (cmin f n) n = Nat.beq (cycs f n n + cycs (kR f n) n n) (n + 1) ∧ (ncN f (cmin f n) n = true → ncN (kR f n) (cmin (kR f n) n) n = true) := by
  have e1 : gtN (pkN f n) = f := h.read h8
  have e2 : gtN (pkN (kN f n) n) = kR f n := by
    funext x
    rw [gtN_pkN _ _ fun k hk => by
      show (fnN f k n 0 + 1) % n < 8
      have := Nat.mod_lt (fnN f k n 0 + 1) (show 0 < n by omega)
      omega]
    rfl
  have h2 : tstK f n (pkN (kN f n) n) = true := by
    have := ht
    unfold tstN at this
    rw [e1] at this
    exact this
  unfold tstK at h2
  rw [e2, ite2_and] at h2
  change ite2 (Nat.beq (cycs f n n + cycs (kR f n) n n) (n + 1)) _ _ = true at h2
  cases hb : Nat.beq (cycs f n n + cycs (kR f n) n n) (n + 1) with
  | true =>
    rw [ite2_true _ _ _ hb, Bool.and_eq_true] at h2
    exact ⟨h2.1, fun _ => h2.2⟩
  | false =>
    rw [ite2_false _ _ _ hb, notB_eq, Bool.not_eq_true'] at h2
    exact ⟨h2, fun e => by rw [h2] at e; cases e⟩

/-- The n-th number on the way from x. -/
def itN (f : Nat → Nat) : Nat → Nat → Nat
  | 0, x => x
  | j + 1, x => f (itN f j x)

theorem itN_front (f : Nat → Nat) (j x : Nat) : itN f (j + 1) x = itN f j (f x) := by
  induction j with
  | zero => rfl
  | succ j ih => show f (itN f (j + 1) x) = f (itN f j (f x)); rw [ih]

theorem itN_add (f : Nat → Nat) (i j x : Nat) : itN f (i + j) x = itN f i (itN f j x) := by
  induction i with
  | zero => rw [Nat.zero_add]; rfl
  | succ i ih => rw [Nat.add_right_comm]; show f (itN f (i + j) x) = f (itN f i (itN f j x)); rw [ih]

theorem Prm.it {n : Nat} {f : Nat → Nat} (h : Prm n f) (j x : Nat) (hx : x < n) : itN f j x < n := by
  induction j with
  | zero => exact hx
  | succ j ih => exact h.bd _ ih

theorem Prm.it_inj {n : Nat} {f : Nat → Nat} (h : Prm n f) (j x y : Nat) (hx : x < n) (hy : y < n) (e : itN f j x = itN f j y) : x = y := by
  induction j with
  | zero => exact e
  | succ j ih => exact ih (h.inj _ _ (h.it j x hx) (h.it j y hy) e)

/-- The way comes back in at most n steps. -/
theorem Prm.period {n : Nat} {f : Nat → Nat} (h : Prm n f) (x : Nat) (hx : x < n) : ∃ d, 1 ≤ d ∧ d ≤ n ∧ itN f d x = x ∧ ∀ i, 1 ≤ i → i < d → itN f i x ≠ x := by
  have key : ∃ d, 1 ≤ d ∧ d ≤ n ∧ itN f d x = x := by
    apply Classical.byContradiction
    intro hno
    have hd : ((List.range (n + 1)).map fun j => itN f j x).Nodup := by
      unfold List.Nodup
      rw [List.pairwise_map]
      have := List.nodup_range (n := n + 1)
      unfold List.Nodup at this
      refine List.Pairwise.imp_of_mem (fun {a b} ha hb hne e => ?_) this
      have ha := List.mem_range.1 ha
      have hb := List.mem_range.1 hb
      have aux : ∀ i k, i ≤ k → k ≤ n → itN f i x = itN f k x → i = k := by
        intro i k hik hk e
        apply Classical.byContradiction
        intro hne
        apply hno
        refine ⟨k - i, by omega, by omega, ?_⟩
        have e2 : itN f i (itN f (k - i) x) = itN f i x := by rw [← itN_add, show i + (k - i) = k by omega, e]
        exact h.it_inj i _ _ (h.it _ x hx) hx e2
      rcases Nat.le_total a b with hab | hab
      · exact hne (aux a b hab (by omega) e)
      · exact hne (aux b a hab (by omega) e.symm).symm
    have := nodup_le n _ hd (fun v hv => by
      obtain ⟨j, _, rfl⟩ := List.mem_map.1 hv
      exact h.it j x hx)
    simp at this
    omega
  have least : ∀ m, (∃ d, 1 ≤ d ∧ d ≤ m ∧ itN f d x = x) → ∃ d, 1 ≤ d ∧ d ≤ m ∧ itN f d x = x ∧ ∀ i, 1 ≤ i → i < d → itN f i x ≠ x := by
    intro m
    induction m with
    | zero => rintro ⟨d, h1, h2, _⟩; omega
    | succ m ih =>
      rintro ⟨d, h1, h2, h3⟩
      by_cases e : ∃ d, 1 ≤ d ∧ d ≤ m ∧ itN f d x = x
      · obtain ⟨d2, g1, g2, g3⟩ := ih e
        exact ⟨d2, g1, by omega, g3⟩
      · refine ⟨d, h1, h2, h3, fun i hi hid he => e ⟨i, hi, by omega, he⟩⟩
  exact least n key

theorem itN_mul {f : Nat → Nat} {d x : Nat} (h : itN f d x = x) (k : Nat) : itN f (d * k) x = x := by
  induction k with
  | zero => rfl
  | succ k ih => rw [Nat.mul_succ, itN_add, h, ih]

theorem itN_mod {f : Nat → Nat} {d x : Nat} (h : itN f d x = x) (j : Nat) : itN f j x = itN f (j % d) x := by
  have e : j = j % d + d * (j / d) := (Nat.mod_add_div j d).symm
  conv => lhs; rw [e, itN_add, itN_mul h]

theorem cmin_le (f : Nat → Nat) (k x j : Nat) (hj : j ≤ k) : cmin f k x ≤ itN f j x := by
  induction k generalizing x j with
  | zero =>
    have : j = 0 := by omega
    subst this
    exact Nat.le_refl _
  | succ k ih =>
    show ite2 (Nat.ble x (cmin f k (f x))) x (cmin f k (f x)) ≤ _
    rw [ite2_eq]
    cases j with
    | zero =>
      show _ ≤ x
      split
      · exact Nat.le_refl _
      · rename_i h
        have : ¬ x ≤ cmin f k (f x) := fun e => h ((ble_iffN _ _).2 e)
        omega
    | succ j =>
      have := ih (f x) j (by omega)
      rw [itN_front]
      split
      · rename_i h
        have := (ble_iffN _ _).1 h
        omega
      · exact this

theorem cmin_is (f : Nat → Nat) (k x : Nat) : ∃ j, j ≤ k ∧ cmin f k x = itN f j x := by
  induction k generalizing x with
  | zero => exact ⟨0, by omega, rfl⟩
  | succ k ih =>
    show ∃ j, j ≤ k + 1 ∧ ite2 (Nat.ble x (cmin f k (f x))) x (cmin f k (f x)) = _
    rw [ite2_eq]
    split
    · exact ⟨0, by omega, rfl⟩
    · obtain ⟨j, hj, e⟩ := ih (f x)
      exact ⟨j + 1, by omega, by rw [itN_front, e]⟩

theorem Prm.cmin_all {n : Nat} {f : Nat → Nat} (h : Prm n f) (x : Nat) (hx : x < n) (j : Nat) : cmin f n x ≤ itN f j x := by
  obtain ⟨d, h1, h2, h3, _⟩ := h.period x hx
  rw [itN_mod h3]
  exact cmin_le f n x _ (by have := Nat.mod_lt j (show d > 0 by omega); omega)

theorem Prm.cmin_lt {n : Nat} {f : Nat → Nat} (h : Prm n f) (x : Nat) (hx : x < n) : cmin f n x ≤ x ∧ cmin f n x < n := by
  have := h.cmin_all x hx 0
  exact ⟨this, Nat.lt_of_le_of_lt this hx⟩

/-- The way back. -/
theorem Prm.reach {n : Nat} {f : Nat → Nat} (h : Prm n f) (x : Nat) (hx : x < n) (j : Nat) : ∃ i, itN f i (itN f j x) = x := by
  obtain ⟨d, h1, h2, h3, _⟩ := h.period x hx
  refine ⟨d * j - j, ?_⟩
  rw [← itN_add, show d * j - j + j = d * j from by have : j ≤ d * j := Nat.le_mul_of_pos_left _ (by omega); omega]
  exact itN_mul h3 j

theorem Prm.cmin_it {n : Nat} {f : Nat → Nat} (h : Prm n f) (x : Nat) (hx : x < n) (j : Nat) : cmin f n (itN f j x) = cmin f n x := by
  obtain ⟨i, hi⟩ := h.reach x hx j
  obtain ⟨a, _, ea⟩ := cmin_is f n x
  obtain ⟨b, _, eb⟩ := cmin_is f n (itN f j x)
  have h1 : cmin f n (itN f j x) ≤ cmin f n x := by
    rw [ea]
    have := h.cmin_all (itN f j x) (h.it j x hx) (a + i)
    rw [itN_add, hi] at this
    exact this
  have h2 : cmin f n x ≤ cmin f n (itN f j x) := by
    rw [eb, ← itN_add]
    exact h.cmin_all x hx _
  omega

/-- Numbers with the same least one are on one way. -/
theorem Prm.orbit {n : Nat} {f : Nat → Nat} (h : Prm n f) (x z : Nat) (hx : x < n) (hz : z < n) : cmin f n z = cmin f n x ↔ ∃ j, z = itN f j x := by
  constructor
  · intro e
    obtain ⟨a, _, ea⟩ := cmin_is f n x
    obtain ⟨b, _, eb⟩ := cmin_is f n z
    obtain ⟨c, hc⟩ := h.reach z hz b
    refine ⟨c + a, ?_⟩
    rw [itN_add, ← ea, ← e, eb, hc]
  · rintro ⟨j, rfl⟩
    exact h.cmin_it x hx j

/-- The first j numbers on the way from x have z. -/
def orbN (f : Nat → Nat) (x : Nat) (j z : Nat) : Bool := (List.range j).any fun i => decide (itN f i x = z)

theorem orbN_iff (f : Nat → Nat) (x j z : Nat) : orbN f x j z = true ↔ ∃ i, i < j ∧ itN f i x = z := by simp [orbN]

theorem orbN_step (f : Nat → Nat) (x j z : Nat) : orbN f x (j + 1) z = (decide (itN f j x = z) || orbN f x j z) := by
  rw [Bool.eq_iff_iff, Bool.or_eq_true, orbN_iff, orbN_iff, decide_eq_true_eq]
  constructor
  · rintro ⟨i, hi, e⟩
    by_cases h : i = j
    · subst h; exact .inl e
    · exact .inr ⟨i, by omega, e⟩
  · rintro (e | ⟨i, hi, e⟩)
    · exact ⟨j, by omega, e⟩
    · exact ⟨i, by omega, e⟩

/-- Once the way has come back, all of it has been met. -/
theorem Prm.orb_all {n : Nat} {f : Nat → Nat} (h : Prm n f) (x d z : Nat) (hx : x < n) (hz : z < n) (h1 : 1 ≤ d) (hd : itN f d x = x) : orbN f x d z = true ↔ cmin f n z = cmin f n x := by
  rw [h.orbit x z hx hz, orbN_iff]
  constructor
  · rintro ⟨i, _, e⟩; exact ⟨i, e.symm⟩
  · rintro ⟨j, e⟩
    exact ⟨j % d, Nat.mod_lt _ (by omega), by rw [e]; exact (itN_mod hd j).symm⟩

/-- The test for the least one. -/
theorem isMin_iff (f : Nat → Nat) (x k y : Nat) : isMin f x k y = true ↔ (∀ j, j < k → (∀ i, i < j → x < itN f i y) → x ≤ itN f j y) := by
  induction k generalizing y with
  | zero => exact ⟨fun _ j hj => by omega, fun _ => rfl⟩
  | succ k ih =>
    show ite2 (Nat.ble y x) (Nat.beq y x) (isMin f x k (f y)) = true ↔ _
    rw [ite2_eq]
    by_cases h : y ≤ x
    · rw [if_pos ((ble_iffN _ _).2 h), beq_iffN]
      constructor
      · rintro rfl j hj hi
        cases j with
        | zero => exact Nat.le_refl _
        | succ j => have := hi 0 (by omega); exact absurd this (Nat.lt_irrefl _)
      · intro hall
        have := hall 0 (by omega) (fun i hi => by omega)
        change x ≤ y at this
        omega
    · rw [if_neg (fun e => h ((ble_iffN _ _).1 e)), ih]
      constructor
      · intro hall j hj hi
        cases j with
        | zero => show x ≤ y; omega
        | succ j =>
          rw [itN_front]
          exact hall j (by omega) fun i hij => by have := hi (i + 1) (by omega); rwa [itN_front] at this
      · intro hall j hj hi
        have := hall (j + 1) (by omega) fun i hij => by
          cases i with
          | zero => show x < y; omega
          | succ i => rw [itN_front]; exact hi i (by omega)
        rwa [itN_front] at this

theorem Prm.isMin {n : Nat} {f : Nat → Nat} (h : Prm n f) (x : Nat) (hx : x < n) : isMin f x n (f x) = true ↔ cmin f n x = x := by
  rw [isMin_iff]
  obtain ⟨d, h1, h2, h3, h4⟩ := h.period x hx
  constructor
  · intro hall
    have key : ∀ j, j < d - 1 → x < itN f j (f x) := by
      intro j
      induction j using Nat.strongRecOn with
      | ind j ih =>
        intro hj
        have h5 := hall j (by omega) (fun i hi => ih i hi (by omega))
        have h6 := h4 (j + 1) (by omega) (by omega)
        rw [itN_front] at h6
        omega
    obtain ⟨j, hj, e⟩ := cmin_is f n x
    rw [itN_mod h3] at e
    have hm := Nat.mod_lt j (show d > 0 by omega)
    have hle := (h.cmin_lt x hx).1
    by_cases e0 : j % d = 0
    · rw [e, e0]; rfl
    · have := key (j % d - 1) (by omega)
      rw [← itN_front, show j % d - 1 + 1 = j % d by omega] at this
      omega
  · intro e j _ _
    rw [← itN_front, ← e]
    have := h.cmin_all x hx (j + 1)
    rw [e] at this ⊢
    exact this

/-- How many numbers below k are the least of their ways. -/
theorem Prm.cycs {n : Nat} {f : Nat → Nat} (h : Prm n f) (k : Nat) (hk : k ≤ n) : cycs f n k = ((List.range k).filter fun x => decide (cmin f n x = x)).length := by
  induction k with
  | zero => rfl
  | succ k ih =>
    have e : Go.Proofs.Ythelncibpoijoaa.cycs f n (k + 1) = ite2 (Go.Proofs.Ythelncibpoijoaa.isMin f k n (f k)) (Go.Proofs.Ythelncibpoijoaa.cycs f n k + 1) (Go.Proofs.Ythelncibpoijoaa.cycs f n k) := rfl
    rw [e, ite2_eq, List.range_succ, List.filter_append, List.length_append, ← ih (by omega)]
    by_cases hm : cmin f n k = k
    · rw [if_pos ((h.isMin k (by omega)).2 hm)]
      simp [hm]
    · rw [if_neg (fun e => hm ((h.isMin k (by omega)).1 e))]
      simp [hm]

end Go.Proofs.Ythelncibpoijoaa
