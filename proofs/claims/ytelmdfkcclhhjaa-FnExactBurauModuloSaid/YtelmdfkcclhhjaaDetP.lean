/- Determinants by expansion along the first column, plain: they keep the rules that eliminations ask for. No program is spoken of. -/
import Derived.Test.YtelmdfkcclhhjaaGSol
namespace Go.Proofs.Ytelmdfkcclhhjaa

def sgn (i : Nat) : Int := if i % 2 = 0 then 1 else -1

theorem sgn_succ (i : Nat) : sgn (i + 1) = -sgn i := by
  unfold sgn
  by_cases h : i % 2 = 0
  · rw [if_neg (by omega), if_pos h]
  · rw [if_pos (by omega), if_neg h]; rfl

/-- The row i and the first column are left out. -/
def mnr (g : Nat → Nat → Int) (i : Nat) : Nat → Nat → Int := fun a b => g (if a < i then a else a + 1) (b + 1)

def det : Nat → (Nat → Nat → Int) → Int
  | 0, _ => 1
  | n + 1, g => sumT (fun i => sgn i * g i 0 * det n (mnr g i)) (n + 1)

theorem det_eqm : ∀ (n : Nat) (g h : Nat → Nat → Int), (∀ a b, a < n → b < n → Eqm (g a b) (h a b)) → Eqm (det n g) (det n h)
  | 0, _, _, _ => Eqm.refl _
  | n + 1, g, h, e => sumT_eqm fun i hi => by
    have h1 := ((e i 0 hi (by omega)).mulL (sgn i)).mul (det n (mnr g i))
    have h2 := (det_eqm n (mnr g i) (mnr h i) fun a b ha hb => e _ _ (by split <;> omega) (by omega)).mulL (sgn i * h i 0)
    exact h1.trans h2

theorem det_congr : ∀ (n : Nat) (g h : Nat → Nat → Int), (∀ a b, a < n → b < n → g a b = h a b) → det n g = det n h
  | 0, _, _, _ => rfl
  | n + 1, g, h, e => sumT_congr fun i hi => by
    rw [e i 0 hi (by omega), det_congr n (mnr g i) (mnr h i) fun a b ha hb => e _ _ (by split <;> omega) (by omega)]

/-- Another row. -/
def rowU (g : Nat → Nat → Int) (r : Nat) (v : Nat → Int) : Nat → Nat → Int := fun a b => if a = r then v b else g a b

theorem mnr_row_same (g : Nat → Nat → Int) (r : Nat) (v : Nat → Int) : mnr (rowU g r v) r = mnr g r := by
  funext a b
  unfold mnr rowU
  rw [if_neg (by split <;> omega)]

theorem mnr_row_ne {g : Nat → Nat → Int} {r i : Nat} (h : i ≠ r) (v : Nat → Int) : mnr (rowU g r v) i = rowU (mnr g i) (if r < i then r else r - 1) (fun b => v (b + 1)) := by
  funext a b
  unfold mnr rowU
  by_cases e : r < i
  · rw [if_pos e]
    by_cases e2 : a = r
    · rw [if_pos e2, if_pos (by rw [if_pos (by omega)]; exact e2)]
    · rw [if_neg e2, if_neg (by split <;> omega)]
  · rw [if_neg e]
    by_cases e2 : a = r - 1
    · rw [if_pos e2, if_pos (by rw [if_neg (by omega)]; omega)]
    · rw [if_neg e2, if_neg (by split <;> omega)]

theorem lin1 (s p q x y D : Int) : s * (x * p + y * q) * D = x * (s * p * D) + y * (s * q * D) := by
  rw [Int.mul_add, Int.add_mul]
  congr 1 <;> ac_rfl

theorem lin2 (s c x y P Q : Int) : s * c * (x * P + y * Q) = x * (s * c * P) + y * (s * c * Q) := by
  rw [Int.mul_add]
  congr 1 <;> ac_rfl

/-- Linear in each row. -/
theorem det_row : ∀ (n : Nat) (g : Nat → Nat → Int) (r : Nat) (u v : Nat → Int) (x y : Int), r < n → det n (rowU g r (fun b => x * u b + y * v b)) = x * det n (rowU g r u) + y * det n (rowU g r v)
  | 0, _, r, _, _, _, _, hr => absurd hr (Nat.not_lt_zero r)
  | n + 1, g, r, u, v, x, y, hr => by
    unfold det
    rw [← sumT_lin]
    refine sumT_congr fun i hi => ?_
    by_cases e : i = r
    · subst e
      rw [mnr_row_same, mnr_row_same, mnr_row_same]
      unfold rowU
      rw [if_pos rfl, if_pos rfl, if_pos rfl]
      exact lin1 _ _ _ _ _ _
    · rw [mnr_row_ne e, mnr_row_ne e, mnr_row_ne e]
      rw [det_row n (mnr g i) (if r < i then r else r - 1) (fun b => u (b + 1)) (fun b => v (b + 1)) x y (by split <;> omega)]
      rw [show rowU g r (fun b => x * u b + y * v b) i 0 = g i 0 by unfold rowU; rw [if_neg e], show rowU g r u i 0 = g i 0 by unfold rowU; rw [if_neg e], show rowU g r v i 0 = g i 0 by unfold rowU; rw [if_neg e]]
      exact lin2 _ _ _ _ _ _

theorem sumT_two {F : Nat → Int} {r : Nat} (h : F r + F (r + 1) = 0) : ∀ (N : Nat), r + 1 < N → (∀ j, j < N → j ≠ r → j ≠ r + 1 → F j = 0) → sumT F N = 0
  | 0, h0, _ => absurd h0 (Nat.not_lt_zero _)
  | N + 1, hN, hz => by
    show sumT F N + F N = 0
    by_cases e : r + 1 = N
    · subst e
      rw [sumT_one (t := r) (Nat.lt_succ_self r) fun j hj hne => hz j (by omega) hne (by omega)]
      exact h
    · rw [sumT_two h N (by omega) fun j hj => hz j (by omega), hz N (Nat.lt_succ_self N) (by omega) (by omega)]
      rfl

/-- Two neighbouring rows that are equal. -/
theorem det_adj : ∀ (n : Nat) (g : Nat → Nat → Int) (r : Nat), r + 1 < n → (∀ b, g r b = g (r + 1) b) → det n g = 0
  | 0, _, _, hr, _ => absurd hr (Nat.not_lt_zero _)
  | n + 1, g, r, hr, h => by
    unfold det
    refine sumT_two (r := r) ?_ (n + 1) hr fun i hi h1 h2 => ?_
    · have e : mnr g r = mnr g (r + 1) := by
        funext a b
        unfold mnr
        by_cases e1 : a < r
        · rw [if_pos e1, if_pos (by omega)]
        · by_cases e2 : a = r
          · subst e2
            rw [if_neg (by omega), if_pos (by omega)]
            exact (h _).symm
          · rw [if_neg (by omega), if_neg (by omega)]
      rw [e, h 0, sgn_succ, Int.neg_mul, Int.neg_mul]
      omega
    · rw [det_adj n (mnr g i) (if i < r then r - 1 else r) (by split <;> omega) fun b => ?_, Int.mul_zero]
      unfold mnr
      by_cases e : i < r
      · rw [if_pos e, if_neg (by omega), if_neg (by omega), show r - 1 + 1 = r by omega]
        exact h _
      · rw [if_neg e, if_pos (by omega), if_pos (by omega)]
        exact h _

theorem rowU_comm {g : Nat → Nat → Int} {r t : Nat} (hne : r ≠ t) (p q : Nat → Int) : rowU (rowU g r p) t q = rowU (rowU g t q) r p := by
  funext a b
  unfold rowU
  by_cases e : a = t
  · rw [if_pos e, if_neg (by omega), if_pos e]
  · rw [if_neg e]
    by_cases e2 : a = r
    · rw [if_pos e2, if_pos e2]
    · rw [if_neg e2, if_neg e2, if_neg e]

theorem det_add2 {n : Nat} {g : Nat → Nat → Int} {r : Nat} (hr : r < n) (u v : Nat → Int) : det n (rowU g r (fun b => u b + v b)) = det n (rowU g r u) + det n (rowU g r v) := by
  have := det_row n g r u v 1 1 hr
  simpa [Int.one_mul] using this

/-- Two rows exchanged, where equal rows give 0. -/
theorem swap_of {n : Nat} {r t : Nat} (hr : r < n) (ht : t < n) (hne : r ≠ t) (Z : ∀ g : Nat → Nat → Int, (∀ b, g r b = g t b) → det n g = 0) (g : Nat → Nat → Int) : det n (swpF g r t) = -det n g := by
  have Zp : ∀ p, det n (rowU (rowU g r p) t p) = 0 := fun p => Z _ fun b => by unfold rowU; rw [if_neg hne, if_pos rfl, if_pos rfl]
  have h0 := Zp (fun b => g r b + g t b)
  rw [det_add2 ht, rowU_comm hne, rowU_comm hne (fun b => g r b + g t b) (g t), det_add2 hr, det_add2 hr, ← rowU_comm hne, ← rowU_comm hne, ← rowU_comm hne, ← rowU_comm hne, Zp, Zp] at h0
  have e1 : rowU (rowU g r (g r)) t (g t) = g := by
    funext a b
    unfold rowU
    by_cases e : a = t
    · rw [if_pos e, e]
    · rw [if_neg e]
      by_cases e2 : a = r
      · rw [if_pos e2, e2]
      · rw [if_neg e2]
  have e2 : rowU (rowU g r (g t)) t (g r) = swpF g r t := by
    funext a b
    unfold rowU swpF
    by_cases e : a = t
    · rw [if_pos e, if_neg (by omega), if_pos e]
    · rw [if_neg e]
      by_cases e2 : a = r
      · rw [if_pos e2, if_pos e2]
      · rw [if_neg e2, if_neg e2, if_neg e]
  rw [e1, e2] at h0
  omega

theorem det_alt {n : Nat} : ∀ (d : Nat) (g : Nat → Nat → Int) (r s : Nat), s = r + 1 + d → s < n → (∀ b, g r b = g s b) → det n g = 0
  | 0, g, r, s, hd, hs, h => det_adj n g r (by omega) fun b => by rw [h b, hd]
  | d + 1, g, r, s, hd, hs, h => by
    obtain ⟨t, rfl⟩ : ∃ t, s = t + 1 := ⟨r + 1 + d, by omega⟩
    have h1 := swap_of (n := n) (r := t) (t := t + 1) (by omega) hs (by omega) (fun g hg => det_adj n g t hs hg) g
    have h2 := det_alt (n := n) d (swpF g t (t + 1)) r t (by omega) (by omega) fun b => by
      unfold swpF
      rw [if_neg (by omega), if_neg (by omega), if_pos rfl]
      exact h b
    omega

theorem det_same {n : Nat} {g : Nat → Nat → Int} {r s : Nat} (hr : r < n) (hs : s < n) (hne : r ≠ s) (h : ∀ b, g r b = g s b) : det n g = 0 := by
  rcases Nat.lt_or_gt_of_ne hne with e | e
  · exact det_alt (s - r - 1) g r s (by omega) hs h
  · exact det_alt (r - s - 1) g s r (by omega) hr fun b => (h b).symm

/-- A multiple of a row added to another. -/
theorem det_addR {n : Nat} {g : Nat → Nat → Int} {i o : Nat} (hi : i < n) (ho : o < n) (hne : i ≠ o) (x : Int) : det n (rowU g i (fun b => g i b + x * g o b)) = det n g := by
  have h1 := det_row n g i (g i) (g o) 1 x hi
  simp only [Int.one_mul] at h1
  rw [h1, det_same (g := rowU g i (g o)) (r := i) (s := o) hi ho hne fun b => by unfold rowU; rw [if_pos rfl, if_neg (Ne.symm hne)], Int.mul_zero, Int.add_zero]
  congr 1
  funext a b
  unfold rowU
  split
  · rename_i e; rw [e]
  · rfl

theorem det_unit : ∀ (n : Nat) (g : Nat → Nat → Int), Unit n n g → det n g = 1
  | 0, _, _ => rfl
  | n + 1, g, h => by
    unfold det
    rw [sumT_one (t := 0) (by omega) fun j hj hne => by rw [h j 0 hj (by omega), if_neg hne, Int.mul_zero, Int.zero_mul]]
    rw [h 0 0 (by omega) (by omega), if_pos rfl, det_unit n (mnr g 0) fun a j ha hj => by
      unfold mnr
      rw [if_neg (Nat.not_lt_zero a), h (a + 1) (j + 1) (by omega) (by omega)]
      by_cases e : a = j
      · rw [if_pos e, if_pos (by omega)]
      · rw [if_neg e, if_neg (by omega)]]
    rfl

theorem det_stuck : ∀ (n k : Nat) (g : Nat → Nat → Int), k < n → Unit n k g → (∀ i, k ≤ i → i < n → g i k = 0) → det n g = 0
  | 0, k, _, hk, _, _ => absurd hk (Nat.not_lt_zero k)
  | n + 1, 0, g, _, _, hz => by
    unfold det
    exact sumT_none fun j hj => by rw [hz j (Nat.zero_le j) hj, Int.mul_zero, Int.zero_mul]
  | n + 1, k + 1, g, hk, h, hz => by
    unfold det
    rw [sumT_one (t := 0) (by omega) fun j hj hne => by rw [h j 0 hj (by omega), if_neg hne, Int.mul_zero, Int.zero_mul]]
    rw [det_stuck n k (mnr g 0) (by omega) (fun a j ha hj => by
      unfold mnr
      rw [if_neg (Nat.not_lt_zero a), h (a + 1) (j + 1) (by omega) (by omega)]
      by_cases e : a = j
      · rw [if_pos e, if_pos (by omega)]
      · rw [if_neg e, if_neg (by omega)]) (fun i h1 h2 => by
      unfold mnr
      rw [if_neg (Nat.not_lt_zero i)]
      exact hz (i + 1) (by omega) (by omega)), Int.mul_zero]

/-- The rows while multiples of the row k are taken from them. -/
def subT (g : Nat → Nat → Int) (k x : Nat) : Nat → Nat → Int := fun a b => if a = k then ownF g k b else if a < x then g a b - g a k * ownF g k b else g a b

theorem subT_step {m : Nat} {g : Nat → Nat → Int} {k x : Nat} (hk : k < m) (hx : x < m) : det m (subT g k (x + 1)) = det m (subT g k x) := by
  by_cases e : x = k
  · subst e
    refine det_congr m _ _ fun a b _ _ => ?_
    unfold subT
    by_cases e1 : a = x
    · rw [if_pos e1, if_pos e1]
    · rw [if_neg e1, if_neg e1]
      by_cases e2 : a < x
      · rw [if_pos e2, if_pos (by omega)]
      · rw [if_neg e2, if_neg (by omega)]
  · rw [← det_addR (g := subT g k x) hx hk e (-(g x k))]
    refine det_congr m _ _ fun a b _ _ => ?_
    unfold rowU
    by_cases e1 : a = x
    · subst e1
      rw [if_pos rfl]
      unfold subT
      dsimp only
      rw [if_neg e, if_pos (Nat.lt_succ_self a), if_neg e, if_neg (Nat.lt_irrefl a), if_pos rfl, Int.neg_mul]
      omega
    · rw [if_neg e1]
      unfold subT
      by_cases e2 : a = k
      · rw [if_pos e2, if_pos e2]
      · rw [if_neg e2, if_neg e2]
        by_cases e3 : a < x
        · rw [if_pos e3, if_pos (by omega)]
        · rw [if_neg e3, if_neg (by omega)]

theorem subT_all {m : Nat} {g : Nat → Nat → Int} {k : Nat} (hk : k < m) : ∀ x, x ≤ m → det m (subT g k x) = det m (subT g k 0)
  | 0, _ => rfl
  | x + 1, hx => (subT_step hk (by omega)).trans (subT_all hk x (by omega))

theorem det_isDet (m : Nat) : IsDet m (det m) where
  add := fun g i o x hi ho hne => by
    rw [← det_addR (g := g) hi ho hne x]
    refine det_eqm m _ _ fun a b _ _ => ?_
    unfold addR rowU
    by_cases e : a = i
    · rw [if_pos e, if_pos e]
      dsimp only
      rw [Int.mul_comm x]
      exact (Eqm.of_mod _).trans ((Eqm.refl _).add (Eqm.of_mod _))
    · rw [if_neg e, if_neg e]
      exact Eqm.refl _
  swp := fun g r t hr ht hne => by
    rw [swap_of hr ht hne (fun g h => det_same hr ht hne h) g]
    exact Eqm.refl _
  clr := fun g k hk hp => by
    have h1 : Eqm (det m g) (g k k * det m (subT g k 0)) := by
      have e := det_row m g k (ownF g k) (ownF g k) (g k k) 0 hk
      rw [Int.zero_mul, Int.add_zero] at e
      have e2 : det m (rowU g k (ownF g k)) = det m (subT g k 0) := det_congr m _ _ fun a b _ _ => by
        unfold rowU subT
        by_cases e1 : a = k
        · rw [if_pos e1, if_pos e1]
        · rw [if_neg e1, if_neg e1, if_neg (Nat.not_lt_zero a)]
      rw [← e2, ← e]
      refine det_eqm m _ _ fun a b _ _ => ?_
      unfold rowU
      by_cases e1 : a = k
      · rw [if_pos e1, e1]
        dsimp only
        rw [Int.zero_mul, Int.add_zero]
        exact own_eqm hp b
      · rw [if_neg e1]
        exact Eqm.refl _
    have h2 : Eqm (det m (clearF g k)) (det m (subT g k m)) := det_eqm m _ _ fun a b ha _ => by
      unfold clearF subT
      by_cases e1 : a = k
      · rw [if_pos e1, if_pos e1]
        exact Eqm.refl _
      · rw [if_neg e1, if_neg e1, if_pos ha]
        exact Eqm.of_mod _
    rw [subT_all hk m (Nat.le_refl m)] at h2
    exact h1.trans (h2.symm.mulL _)
  one := fun g h => by rw [det_unit m g h]; exact Eqm.refl _
  stk := fun g k hk h hz => by rw [det_stuck m k g hk h hz]; exact Eqm.refl _

end Go.Proofs.Ytelmdfkcclhhjaa
