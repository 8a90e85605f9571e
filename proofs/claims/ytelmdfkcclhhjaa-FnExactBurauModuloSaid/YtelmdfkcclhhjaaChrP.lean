/- The characteristic polynomial's sequence, plain. No program is spoken of. -/
import Derived.Test.YtelmdfkcclhhjaaPowP
namespace Go.Proofs.Ytelmdfkcclhhjaa

/-- c added to the diagonal. -/
def addI (c : Int) (g : Nat → Nat → Int) : Nat → Nat → Int := fun i j => if i = j then (g i j + c) % 10007 else g i j

/-- The next coefficient. -/
def coF (m : Nat) (f N : Nat → Nat → Int) (k : Nat) : Int := oppF (trF m (mulF m f N) * invF k % 10007)

/-- The matrices and the coefficients, in turn. -/
def chS (m : Nat) (f : Nat → Nat → Int) : Nat → (Nat → Nat → Int) × Int
  | 0 => (fun _ _ => 0, 1)
  | k + 1 => (addI (chS m f k).2 (mulF m f (chS m f k).1), coF m f (addI (chS m f k).2 (mulF m f (chS m f k).1)) (k + 1))

def chN (m : Nat) (f : Nat → Nat → Int) (k : Nat) : Nat → Nat → Int := (chS m f k).1
def chC (m : Nat) (f : Nat → Nat → Int) (k : Nat) : Int := (chS m f k).2

theorem chN_succ (m : Nat) (f : Nat → Nat → Int) (k : Nat) : chN m f (k + 1) = addI (chC m f k) (mulF m f (chN m f k)) := rfl
theorem chC_succ (m : Nat) (f : Nat → Nat → Int) (k : Nat) : chC m f (k + 1) = oppF (trF m (mulF m f (chN m f (k + 1))) * invF ((k + 1 : Nat) : Int) % 10007) := rfl

theorem addI_rem {m : Nat} {c : Int} {g : Nat → Nat → Int} (h : Rem m m g) : Rem m m (addI c g) := fun i j hi hj => by
  unfold addI
  split
  · exact mod_rem _
  · exact h i j hi hj

theorem chN_rem (m : Nat) (f : Nat → Nat → Int) (k : Nat) : Rem m m (chN m f k) := by
  cases k with
  | zero => exact fun _ _ _ _ => ⟨Int.le_refl 0, by show (0 : Int) < 10007; decide⟩
  | succ k => rw [chN_succ]; exact addI_rem (mulF_rem _ _ _)

theorem chC_rem (m : Nat) (f : Nat → Nat → Int) (k : Nat) : 0 ≤ chC m f k ∧ chC m f k < 10007 := by
  cases k with
  | zero => exact ⟨by show (0 : Int) ≤ 1; decide, by show (1 : Int) < 10007; decide⟩
  | succ k => rw [chC_succ]; exact oppF_rem _

/-- Nothing times a matrix. -/
theorem mul_chN0 (m : Nat) (f : Nat → Nat → Int) (i j : Nat) : mulF m f (chN m f 0) i j = 0 := by
  unfold mulF dotF
  have e : sumT (fun k => f i k * chN m f 0 k j) m = 0 := by
    have h : ∀ n, sumT (fun k => f i k * chN m f 0 k j) n = 0 := by
      intro n
      induction n with
      | zero => rfl
      | succ n ih =>
        show sumT _ n + f i n * 0 = 0
        rw [ih, Int.mul_zero]
        rfl
    exact h m
  rw [e]
  rfl

/-- The coefficients, of which the last k + 1 are there. -/
def coA (m : Nat) (f : Nat → Nat → Int) (k : Nat) (j : Nat) : Int := if m ≤ j + k then chC m f (m - j) else 0
def coL (m : Nat) (f : Nat → Nat → Int) (k : Nat) : List Int := (List.range (m + 1)).map (coA m f k)

theorem coL_len (m : Nat) (f : Nat → Nat → Int) (k : Nat) : (coL m f k).length = m + 1 := by simp [coL]
theorem coA_rem (m : Nat) (f : Nat → Nat → Int) (k j : Nat) : 0 ≤ coA m f k j ∧ coA m f k j < 10007 := by
  unfold coA
  split
  · exact chC_rem _ _ _
  · decide

theorem coA_at {m k : Nat} {f : Nat → Nat → Int} (h : k ≤ m) : coA m f k (m - k) = chC m f k := by
  unfold coA
  rw [if_pos (by omega), show m - (m - k) = k by omega]

theorem coA_upd {m k : Nat} {f : Nat → Nat → Int} (h : k < m) (j : Nat) (hj : j < m + 1) : (if j = m - (k + 1) then chC m f (k + 1) else coA m f k j) = coA m f (k + 1) j := by
  unfold coA
  by_cases e : j = m - (k + 1)
  · rw [if_pos e, if_pos (by omega), e, show m - (m - (k + 1)) = k + 1 by omega]
  · rw [if_neg e]
    by_cases e2 : m ≤ j + k
    · rw [if_pos e2, if_pos (by omega)]
    · rw [if_neg e2, if_neg (by omega)]

theorem coL_at {m k : Nat} {f : Nat → Nat → Int} (j : Nat) (h : j < m + 1) : (coL m f k).getD j 0 = coA m f k j := by simp [coL, List.getD, h]

theorem coL_upd {m k : Nat} {f : Nat → Nat → Int} (h : k < m) : (coL m f k).set (m - (k + 1)) (chC m f (k + 1)) = coL m f (k + 1) := by
  refine List.ext_getElem (by simp [coL]) fun j h1 h2 => ?_
  rw [List.getElem_set]
  simp only [coL, List.getElem_map, List.getElem_range]
  have hj : j < m + 1 := by simpa [coL] using h2
  have := coA_upd (f := f) h j hj
  by_cases e : m - (k + 1) = j
  · rw [if_pos e]; rw [if_pos e.symm] at this; exact this
  · rw [if_neg e]; rw [if_neg (fun e2 => e e2.symm)] at this; exact this

theorem coL_start (m : Nat) (f : Nat → Nat → Int) : (List.replicate (m + 1) (0 : Int)).set m 1 = coL m f 0 := by
  refine List.ext_getElem (by simp [coL]) fun j h1 h2 => ?_
  rw [List.getElem_set]
  have hj : j < m + 1 := by simpa [coL] using h2
  simp only [coL, List.getElem_map, List.getElem_range, List.getElem_replicate]
  unfold coA
  by_cases e : m = j
  · subst e
    rw [if_pos rfl, if_pos (by omega), Nat.sub_self]
    rfl
  · rw [if_neg e, if_neg (by omega)]

/-- The diagonal while c is added to it. -/
def addTo (c : Int) (g : Nat → Nat → Int) (t : Nat) : Nat → Nat → Int := fun i j => if i = j ∧ i < t then (g i j + c) % 10007 else g i j

theorem addTo_zero (c : Int) (g : Nat → Nat → Int) (i j : Nat) : addTo c g 0 i j = g i j := by unfold addTo; rw [if_neg (by omega)]
theorem addTo_upd (c : Int) (g : Nat → Nat → Int) (t i j : Nat) : updF (addTo c g t) t t ((g t t + c) % 10007) i j = addTo c g (t + 1) i j := by
  unfold updF addTo
  by_cases e : i = t ∧ j = t
  · rw [if_pos e, if_pos (by omega), e.1, e.2]
  · rw [if_neg e]
    by_cases e2 : i = j ∧ i < t
    · rw [if_pos e2, if_pos (by omega)]
    · rw [if_neg e2, if_neg (by omega)]
theorem addTo_at (c : Int) (g : Nat → Nat → Int) (t : Nat) : addTo c g t t t = g t t := by unfold addTo; rw [if_neg (by omega)]
theorem addTo_end {c : Int} {g : Nat → Nat → Int} {m i : Nat} (hi : i < m) (j : Nat) : addTo c g m i j = addI c g i j := by
  unfold addTo addI
  by_cases e : i = j
  · rw [if_pos ⟨e, hi⟩, if_pos e]
  · rw [if_neg (fun h => e h.1), if_neg e]

def mChar (X : List (List Int)) : List Int × Int := if isFm X = true then (coL X.length (eL X) X.length, 0) else ([], 1)

end Go.Proofs.Ytelmdfkcclhhjaa
