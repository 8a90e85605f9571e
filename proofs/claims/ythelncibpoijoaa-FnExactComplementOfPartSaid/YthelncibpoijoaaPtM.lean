/- The part of a division, and crossings: what they say. No program is spoken of. -/
import Derived.Test.YthelncibpoijoaaPtL
namespace Go.Proofs.Ythelncibpoijoaa

/-- The part of a division. -/
noncomputable def madeR (n : Nat) (L : List Int) : List Int := mapR n fun x => ((mdN (nx L) n x : Nat) : Int)

theorem upN_step (L : Nat → Nat) (x k y : Nat) : upN L x (k + 1) y = if L y = L x then y else upN L x k (y + 1) := by
  show ite2 (Nat.beq (L y) (L x)) y (upN L x k (y + 1)) = _
  rw [ite2_eq]
  by_cases h : L y = L x
  · rw [if_pos ((beq_iffN _ _).2 h), if_pos h]
  · rw [if_neg (fun e => h ((beq_iffN _ _).1 e)), if_neg h]

theorem upN_lt (L : Nat → Nat) (x k y m : Nat) (hx : L x < m) (hy : y + k ≤ m) : upN L x k y < m := by
  induction k generalizing y with
  | zero => exact hx
  | succ k ih =>
    rw [upN_step]
    split
    · omega
    · exact ih (y + 1) (by omega)

theorem mdN_lt (L : Nat → Nat) (n x : Nat) (hx : x < n) (hL : L x < n) : mdN L n x < n := upN_lt L x _ _ n hL (by show x + 1 + (n - 1 - x) ≤ n; omega)

/-- Four numbers whose blocks cross. -/
def X4 (L : Nat → Nat) (a b c d : Nat) : Prop := L a = L c ∧ L b = L d ∧ L a ≠ L b

theorem crN_iff (L : Nat → Nat) (n : Nat) : crN L n = true ↔ ∃ a b c d, a < b ∧ b < c ∧ c < d ∧ d < n ∧ X4 L a b c d := by
  unfold crN
  rw [notB_eq, Bool.not_eq_true', ← Bool.not_eq_true, allN_iff]
  constructor
  · intro h
    apply Classical.byContradiction
    intro hno
    apply h
    intro d hd
    rw [allN_iff]
    intro c hc
    rw [allN_iff]
    intro b hb
    rw [ite2_eq]
    by_cases e1 : L b = L d
    · rw [if_pos ((beq_iffN _ _).2 e1), allN_iff]
      intro a ha
      rw [ite2_eq]
      by_cases e2 : L a = L c
      · rw [if_pos ((beq_iffN _ _).2 e2), beq_iffN]
        apply Classical.byContradiction
        intro e3
        exact hno ⟨a, b, c, d, ha, hb, hc, hd, e2, e1, e3⟩
      · rw [if_neg (fun e => e2 ((beq_iffN _ _).1 e))]
    · rw [if_neg (fun e => e1 ((beq_iffN _ _).1 e))]
  · rintro ⟨a, b, c, d, hab, hbc, hcd, hdn, e1, e2, e3⟩ h
    have h1 := h d hdn
    rw [allN_iff] at h1
    have h2 := h1 c hcd
    rw [allN_iff] at h2
    have h3 := h2 b hbc
    rw [ite2_true _ _ _ ((beq_iffN _ _).2 e2), allN_iff] at h3
    have h4 := h3 a hab
    rw [ite2_true _ _ _ ((beq_iffN _ _).2 e1), beq_iffN] at h4
    exact e3 h4

theorem crN_no (L : Nat → Nat) (n : Nat) (h : ∀ a b c d, a < n → a < b → b < c → c < d → d < n → ¬ X4 L a b c d) : crN L n = false := by
  rw [← Bool.not_eq_true, crN_iff]
  rintro ⟨a, b, c, d, h1, h2, h3, h4, h5⟩
  exact h a b c d (by omega) h1 h2 h3 h4 h5

/-- Is the row a part of n numbers? -/
noncomputable def isPt (n : Int) (p : List Int) : Bool := simB n p && ncN (nx p) (lstN n.toNat p) n.toNat

theorem ncN_iff (f L : Nat → Nat) (n : Nat) : ncN f L n = true ↔ (∀ x, x < n → mdN L n x = f x) ∧ crN L n = false := by
  unfold ncN
  rw [ite2_and, notB_eq, Bool.and_eq_true, allN_iff, Bool.not_eq_true']
  simp only [beq_iffN]

theorem nx_lst {n : Nat} {p : List Int} (x : Nat) (hx : x < n) : nx (lstR n p) x = lstN n p x := by
  unfold nx lstR
  rw [at8_mapR, if_pos hx, Int.toNat_natCast]

theorem upN_congr (L M : Nat → Nat) (n x k y : Nat) (hx : x < n) (hy : y + k ≤ n) (h : ∀ z, z < n → L z = M z) : upN L x k y = upN M x k y := by
  induction k generalizing y with
  | zero => exact h x hx
  | succ k ih => rw [upN_step, upN_step, h y (by omega), h x hx, ih (y + 1) (by omega)]

theorem mdN_congr (L M : Nat → Nat) (n x : Nat) (hx : x < n) (h : ∀ z, z < n → L z = M z) : mdN L n x = mdN M n x :=
  upN_congr L M n x _ _ hx (by show x + 1 + (n - 1 - x) ≤ n; omega) h

theorem crN_congr (L M : Nat → Nat) (n : Nat) (h : ∀ z, z < n → L z = M z) : crN L n = crN M n := by
  rw [Bool.eq_iff_iff, crN_iff, crN_iff]
  constructor
  · rintro ⟨a, b, c, d, h1, h2, h3, h4, h5, h6, h7⟩
    exact ⟨a, b, c, d, h1, h2, h3, h4, by rw [← h a (by omega), ← h c (by omega)]; exact h5, by rw [← h b (by omega), ← h d h4]; exact h6, by rw [← h a (by omega), ← h b (by omega)]; exact h7⟩
  · rintro ⟨a, b, c, d, h1, h2, h3, h4, h5, h6, h7⟩
    exact ⟨a, b, c, d, h1, h2, h3, h4, by rw [h a (by omega), h c (by omega)]; exact h5, by rw [h b (by omega), h d h4]; exact h6, by rw [h a (by omega), h b (by omega)]; exact h7⟩

theorem isPt_iff {n : Nat} {p : List Int} (h : Sim n p) : isPt n p = true ↔ (madeR n (lstR n p) = p ∧ crN (nx (lstR n p)) n = false) := by
  unfold isPt
  rw [Bool.and_eq_true, Int.toNat_natCast, ncN_iff]
  have e1 : simB n p = true := (simB_iff _ _ h.len).2 ⟨n, rfl, h⟩
  have e2 : crN (nx (lstR n p)) n = crN (lstN n p) n := crN_congr _ _ n fun z hz => nx_lst z hz
  have e3 : (∀ x, x < n → mdN (lstN n p) n x = nx p x) ↔ madeR n (lstR n p) = p := by
    constructor
    · intro hx
      refine ext8 (mapR_len _ _ h.hi) h.len fun j hj => ?_
      unfold madeR
      rw [at8_mapR]
      by_cases e : j < n
      · rw [if_pos e, mdN_congr _ _ n j e (fun z hz => nx_lst z hz), hx j e, h.nx j]
      · rw [if_neg e, h.tail j (by omega)]
    · intro hx x hxn
      have e : nx (madeR n (lstR n p)) x = nx p x := by rw [hx]
      rw [← e]
      unfold madeR
      show _ = (at8 _ x).toNat
      rw [at8_mapR, if_pos hxn, Int.toNat_natCast]
      exact (mdN_congr _ _ n x hxn (fun z hz => nx_lst z hz)).symm
  rw [e2, e3]
  simp [e1]

theorem isPt_sim {n : Int} {p : List Int} (hl : p.length = 8) (h : isPt n p = true) : ∃ k : Nat, n = k ∧ Sim k p := by
  unfold isPt at h
  rw [Bool.and_eq_true] at h
  exact (simB_iff n p hl).1 h.1

end Go.Proofs.Ythelncibpoijoaa
