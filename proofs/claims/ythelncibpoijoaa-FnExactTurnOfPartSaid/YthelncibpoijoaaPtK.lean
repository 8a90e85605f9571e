/- Turns of rows as the model makes them. No program is spoken of. -/
import Derived.Test.YthelncibpoijoaaQB
namespace Go.Proofs.Ythelncibpoijoaa

/-- A number k places further round. -/
def rotN (n : Nat) (k v : Int) : Int := (v + k) % (n : Int)

theorem rotN_bd (n : Nat) (h1 : 1 ≤ n) (k v : Int) : 0 ≤ rotN n k v ∧ rotN n k v < n := ⟨Int.emod_nonneg _ (by omega), Int.emod_lt_of_pos _ (by omega)⟩

theorem rotN_mod (n : Nat) (h1 : 1 ≤ n) (k v : Int) : ((v + k).tmod n + n).tmod n = rotN n k v := by
  unfold rotN
  have h0 : (0 : Int) < n := by omega
  have h2 := Int.lt_tmod_of_pos (v + k) h0
  rw [Int.tmod_eq_emod_of_nonneg (by omega : 0 ≤ (v + k).tmod n + n), Int.add_emod_right]
  have h3 : (v + k).tmod n = (v + k) % n ∨ (v + k).tmod n = (v + k) % n - n := by
    rw [Int.tmod_eq_emod]
    split
    · exact .inl (by simp)
    · exact .inr (by simp)
  rcases h3 with h3 | h3
  · rw [h3, Int.emod_emod]
  · rw [h3, Int.sub_emod_right, Int.emod_emod]

theorem rotN_back (n : Nat) (k v : Int) (h0 : 0 ≤ v) (hv : v < n) : rotN n (-k) (rotN n k v) = v := by
  unfold rotN
  rw [Int.emod_add_emod, show v + k + -k = v by omega, Int.emod_eq_of_lt h0 hv]

/-- The row behind x steps. -/
def tnR (n : Nat) (k : Int) (p : List Int) (x : Nat) : List Int := (List.range x).foldl (fun o (z : Nat) => o.set (rotN n k z).toNat (rotN n k (at8 p z))) [0, 0, 0, 0, 0, 0, 0, 0]

theorem tnR_step (n : Nat) (k : Int) (p : List Int) (x : Nat) : tnR n k p (x + 1) = (tnR n k p x).set (rotN n k x).toNat (rotN n k (at8 p x)) := by
  unfold tnR
  rw [List.range_succ, List.foldl_append]
  rfl

theorem tnR_len (n : Nat) (k : Int) (p : List Int) (x : Nat) : (tnR n k p x).length = 8 := by
  induction x with
  | zero => rfl
  | succ x ih => rw [tnR_step, List.length_set, ih]

/-- A row turned k places round. -/
def rotR (n : Nat) (k : Int) (p : List Int) : List Int := mapR n fun y => rotN n k (at8 p (rotN n (-k) y).toNat)

theorem tnR_at (n : Nat) (h1 : 1 ≤ n) (h8 : n ≤ 8) (k : Int) (p : List Int) (x : Nat) (hx : x ≤ n) (y : Nat) : at8 (tnR n k p x) y = if y < n ∧ rotN n (-k) y < x then rotN n k (at8 p (rotN n (-k) y).toNat) else 0 := by
  induction x with
  | zero =>
    have := rotN_bd n h1 (-k) y
    rw [if_neg (by omega)]
    show at8 [0, 0, 0, 0, 0, 0, 0, 0] y = 0
    by_cases hy : y < 8
    · have : y = 0 ∨ y = 1 ∨ y = 2 ∨ y = 3 ∨ y = 4 ∨ y = 5 ∨ y = 6 ∨ y = 7 := by omega
      rcases this with rfl | rfl | rfl | rfl | rfl | rfl | rfl | rfl <;> rfl
    · exact at8_over rfl y (by omega)
  | succ x ih =>
    have hb := rotN_bd n h1 k x
    have hc := rotN_bd n h1 (-k) y
    rw [tnR_step, at8_set _ _ _ _ (by rw [tnR_len]; omega), ih (by omega)]
    by_cases e : (rotN n k x).toNat = y
    · have e2 : rotN n (-k) y = x := by
        have := rotN_back n k x (by omega) (by omega)
        rw [show ((y : Nat) : Int) = rotN n k x by omega]
        exact this
      rw [if_pos e, if_pos (by omega), e2, Int.toNat_natCast]
    · rw [if_neg e]
      have hne : y < n → rotN n (-k) y ≠ x := fun hy e2 => e (by
        have := rotN_back n (-k) y (by omega) (by omega)
        rw [Int.neg_neg, e2] at this
        omega)
      by_cases hy : y < n
      · have := hne hy
        by_cases h3 : rotN n (-k) y < x
        · rw [if_pos ⟨hy, h3⟩, if_pos ⟨hy, by omega⟩]
        · rw [if_neg (by omega), if_neg (by omega)]
      · rw [if_neg (by omega), if_neg (by omega)]

theorem tnR_end (n : Nat) (h1 : 1 ≤ n) (h8 : n ≤ 8) (k : Int) (p : List Int) : tnR n k p n = rotR n k p := by
  refine ext8 (tnR_len n k p n) (mapR_len _ _ h8) fun j hj => ?_
  rw [tnR_at n h1 h8 k p n (Nat.le_refl _)]
  unfold rotR
  rw [at8_mapR]
  by_cases e : j < n
  · rw [if_pos ⟨e, (rotN_bd n h1 (-k) j).2⟩, if_pos e]
  · rw [if_neg (by omega), if_neg e]

/-- The turn is the turn by one. -/
theorem rotR_one {n : Nat} {p : List Int} (h : Sim n p) : rotR n 1 p = turnP n p := by
  have h1 := h.lo
  have h8 := h.hi
  have hw := wholeR_sim n h1 h8
  have back : ∀ y, y < n → at8 (backR n (wholeR n)) y = rotN n (-1) y := fun y hy => by
    have hb := rotN_bd n h1 (-1) y
    obtain ⟨z, hz⟩ : ∃ z : Nat, rotN n (-1) y = z := ⟨(rotN n (-1) y).toNat, by omega⟩
    rw [hz] at hb ⊢
    have h2 := at8_back hw z (by omega)
    have e : at8 (wholeR n) z = y := by
      have := rotN_back n (-1) y (by omega) (by omega)
      rw [hz, Int.neg_neg] at this
      unfold wholeR
      rw [at8_mapR, if_pos (by omega)]
      exact this
    rw [e, Int.toNat_natCast] at h2
    exact h2
  unfold rotR turnP
  refine mapR_congr _ _ _ fun y hy => ?_
  unfold thenR
  have hb := rotN_bd n h1 (-1) y
  rw [at8_mapR, if_pos hy, back y hy]
  have hp := h.bd (rotN n (-1) y).toNat (by omega)
  unfold wholeR
  rw [at8_mapR, if_pos (by omega)]
  unfold rotN at hp ⊢
  rw [Int.toNat_of_nonneg hp.1]

end Go.Proofs.Ythelncibpoijoaa
