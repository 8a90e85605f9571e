/- Burau's matrices over the field, plain: letters and products; a letter's matrix has an inverse. No program is spoken of. -/
import Derived.Test.YtelmdfkcclhhjaaDetP
import Derived.Test.YtelmdfkcclhhjaaMSo1
namespace Go.Proofs.Ytelmdfkcclhhjaa

/-- The matrix of the letter d + 1. -/
def burF (t : Int) (d : Nat) : Nat → Nat → Int := updF (updF (updF (updF (diaF 1) d d ((1 - t) % 10007)) d (d + 1) t) (d + 1) d 1) (d + 1) (d + 1) 0

theorem burF_rem {n d : Nat} {t : Int} (ht : 0 < t ∧ t < 10007) : Rem n n (burF t d) := fun i j _ _ => by
  have := mod_rem (1 - t)
  unfold burF updF diaF
  repeat' split
  all_goals omega

theorem sumT_pair {F : Nat → Int} {r : Nat} : ∀ (N : Nat), r + 1 < N → (∀ j, j < N → j ≠ r → j ≠ r + 1 → F j = 0) → sumT F N = F r + F (r + 1)
  | 0, h0, _ => absurd h0 (Nat.not_lt_zero _)
  | N + 1, hN, hz => by
    show sumT F N + F N = F r + F (r + 1)
    by_cases e : r + 1 = N
    · subst e
      rw [sumT_one (t := r) (Nat.lt_succ_self r) fun j hj hne => hz j (by omega) hne (by omega)]
    · rw [sumT_pair N (by omega) fun j hj => hz j (by omega), hz N (Nat.lt_succ_self N) (by omega) (by omega), Int.add_zero]

/-- What stands has a combination of columns that gives nothing. -/
theorem stuck_col {m K : Nat} {f : Nat → Nat → Int} (hK : m ≤ K) (h2 : Stuck m K f) : ∃ k v, k < m ∧ Sol m K f v ∧ v k = 1 ∧ ∀ j, k < j → v j = 0 := by
  obtain ⟨k, g, d, hk, h, hz⟩ := h2
  have hs : Sol m K g (colV k k fun j => -(g j k)) := fun a ha => by
    rw [dot_unit h.unit (Nat.le_refl k) (by omega) ha]
    by_cases e : a < k
    · rw [if_pos e]
      omega
    · rw [if_neg e, hz a (by omega) ha]
      rfl
  exact ⟨k, _, hk, (h.sol _).1 hs, colV_at (Nat.le_refl k), fun j hj => colV_no (by omega) (by omega)⟩

theorem bur_ends {n d : Nat} {t : Int} (hd : d + 1 < n) (ht : 0 < t ∧ t < 10007) : ¬ Stuck n (2 * n) (augF n (burF t d)) := fun hst => by
  obtain ⟨k, v, hk, hs, hv, h0⟩ := stuck_col (by omega) hst
  have hb := mod_rem (1 - t)
  obtain ⟨c, hc⟩ : ∃ c, c = (1 - t) % 10007 := ⟨_, rfl⟩
  have A : ∀ a j, j < n → augF n (burF t d) a j = burF t d a j := fun a j hj => by unfold augF; rw [if_pos hj]
  have Z : ∀ a j, n ≤ j → augF n (burF t d) a j * v j = 0 := fun a j hj => by rw [h0 j (by omega), Int.mul_zero]
  by_cases e1 : k = d
  · have h1 := hs (d + 1) hd
    unfold dotV at h1
    rw [sumT_one (t := d) (by omega) fun j hj hne => by
      by_cases hjn : j < n
      · rw [A _ j hjn]
        have : burF t d (d + 1) j = 0 := by
          unfold burF updF diaF
          by_cases e : j = d + 1
          · rw [if_pos ⟨rfl, e⟩]
          · rw [if_neg (by omega), if_neg (by omega), if_neg (by omega), if_neg (by omega), if_neg (by omega)]
        rw [this, Int.zero_mul]
      · exact Z _ j (by omega)] at h1
    rw [A _ d (by omega), show burF t d (d + 1) d = 1 by unfold burF updF; rw [if_neg (by omega), if_pos ⟨rfl, rfl⟩], ← e1, hv] at h1
    exact absurd h1 (by decide)
  · by_cases e2 : k = d + 1
    · have h1 := hs (d + 1) hd
      unfold dotV at h1
      rw [sumT_one (t := d) (by omega) fun j hj hne => by
        by_cases hjn : j < n
        · rw [A _ j hjn]
          have : burF t d (d + 1) j = 0 := by
            unfold burF updF diaF
            by_cases e : j = d + 1
            · rw [if_pos ⟨rfl, e⟩]
            · rw [if_neg (by omega), if_neg (by omega), if_neg (by omega), if_neg (by omega), if_neg (by omega)]
          rw [this, Int.zero_mul]
        · exact Z _ j (by omega)] at h1
      rw [A _ d (by omega), show burF t d (d + 1) d = 1 by unfold burF updF; rw [if_neg (by omega), if_pos ⟨rfl, rfl⟩], Int.one_mul] at h1
      have h2 := hs d (by omega)
      unfold dotV at h2
      rw [sumT_pair (r := d) (2 * n) (by omega) fun j hj hne hne2 => by
        by_cases hjn : j < n
        · rw [A _ j hjn]
          have : burF t d d j = 0 := by
            unfold burF updF diaF
            rw [if_neg (by omega), if_neg (by omega), if_neg (by omega), if_neg (by omega), if_neg (by omega)]
          rw [this, Int.zero_mul]
        · exact Z _ j (by omega)] at h2
      rw [A _ d (by omega), A _ (d + 1) hd, show burF t d d d = c by rw [hc]; unfold burF updF; rw [if_neg (by omega), if_neg (by omega), if_neg (by omega), if_pos ⟨rfl, rfl⟩], show burF t d d (d + 1) = t by unfold burF updF; rw [if_neg (by omega), if_neg (by omega), if_pos ⟨rfl, rfl⟩], ← e2, hv, Int.mul_one] at h2
      have h3 : (c * v d) % 10007 = 0 := by rw [Int.mul_emod, h1, Int.mul_zero]; rfl
      omega
    · have h1 := hs k hk
      unfold dotV at h1
      rw [sumT_one (t := k) (by omega) fun j hj hne => by
        by_cases hjn : j < n
        · rw [A _ j hjn]
          have : burF t d k j = 0 := by
            unfold burF updF diaF
            rw [if_neg (by omega), if_neg (by omega), if_neg (by omega), if_neg (by omega), if_neg (by omega)]
          rw [this, Int.zero_mul]
        · exact Z _ j (by omega)] at h1
      rw [A _ k hk, show burF t d k k = 1 by unfold burF updF diaF; rw [if_neg (by omega), if_neg (by omega), if_neg (by omega), if_neg (by omega), if_pos rfl], hv] at h1
      exact absurd h1 (by decide)

open Classical in
/-- An inverse, where an elimination ends. -/
noncomputable def invM (m : Nat) (A : Nat → Nat → Int) : Nat → Nat → Int :=
  if h : ∃ g : Nat → Nat → Int, ∃ d : Int, GJ m (2 * m) (augF m A) m g d then fun i t => h.choose i (m + t) else A

theorem invM_of {m : Nat} {A g : Nat → Nat → Int} {d : Int} (hg : GJ m (2 * m) (augF m A) m g d) {i t : Nat} (hi : i < m) (ht : t < m) : invM m A i t = g i (m + t) := by
  unfold invM
  have hex : ∃ g : Nat → Nat → Int, ∃ d : Int, GJ m (2 * m) (augF m A) m g d := ⟨g, d, hg⟩
  rw [dif_pos hex]
  obtain ⟨d', hd'⟩ := hex.choose_spec
  exact gj_same hd' hg hi (Nat.le_add_right _ _) (by omega)

theorem invM_rem {m : Nat} {A : Nat → Nat → Int} (h : Rem m m A) : Rem m m (invM m A) := fun i t hi ht => by
  unfold invM
  split
  · rename_i hex
    obtain ⟨d', hd'⟩ := hex.choose_spec
    exact hd'.rem i (m + t) hi (by omega)
  · exact h i t hi ht

/-- The matrix of a letter. -/
noncomputable def letF (n : Nat) (t x : Int) : Nat → Nat → Int := if x < 0 then invM n (burF t (-x - 1).toNat) else burF t (x - 1).toNat

theorem letF_rem {n : Nat} {t : Int} (ht : 0 < t ∧ t < 10007) (x : Int) : Rem n n (letF n t x) := by
  unfold letF
  split
  · exact invM_rem (burF_rem ht)
  · exact burF_rem ht

/-- The product of the matrices of the first letters. -/
noncomputable def bprF (n : Nat) (t : Int) (xs : List Int) : Nat → Nat → Nat → Int
  | 0 => diaF 1
  | i + 1 => mulF n (bprF n t xs i) (letF n t (xs.getD i 0))

theorem bprF_rem (n : Nat) (t : Int) (xs : List Int) : ∀ i, Rem n n (bprF n t xs i)
  | 0 => fun i j _ _ => by
    unfold bprF diaF
    split <;> omega
  | _ + 1 => mulF_rem _ _ _

end Go.Proofs.Ytelmdfkcclhhjaa
