/- Letters are taken from simple braids as long as there are common ones: plain lemmas. No program is spoken of. -/
import Derived.Test.YtlgipimjhfmilaaExP
namespace Go.Proofs.Ytlgipimjhfmilaa

/-- The letter k + 1 begins all of some rows. -/
def allBeg (vs : List (List Int)) (k : Nat) : Bool := vs.all fun v => decide (at8 v (k + 1) < at8 v k)

/-- The least k below m for which the letter k + 1 begins all rows. -/
def common (vs : List (List Int)) : Nat → Nat → Option Nat
  | 0, _ => none
  | m + 1, k => if allBeg vs k = true then some k else common vs m (k + 1)

/-- Each row without the letter k + 1 ahead. -/
def strip (n k : Nat) (vs : List (List Int)) : List (List Int) := vs.map fun v => thenR n (exR n k) v

/-- The letters that are taken, at most so many. -/
def takeF (n : Nat) : Nat → List (List Int) → List Int
  | 0, _ => []
  | f + 1, vs => match common vs (n - 1) 0 with
    | none => []
    | some k => ((k : Int) + 1) :: takeF n f (strip n k vs)

/-- All of them. -/
def takeR (n : Nat) (vs : List (List Int)) : List Int := takeF n 200 vs

theorem common_some {vs : List (List Int)} {m k r : Nat} (h : common vs m k = some r) : k ≤ r ∧ r < k + m ∧ allBeg vs r = true ∧ ∀ j, k ≤ j → j < r → allBeg vs j = false := by
  induction m generalizing k with
  | zero => simp [common] at h
  | succ m ih =>
    unfold common at h
    by_cases hb : allBeg vs k = true
    · rw [if_pos hb] at h
      cases h
      exact ⟨Nat.le_refl _, by omega, hb, fun j h1 h2 => by omega⟩
    · rw [if_neg hb] at h
      obtain ⟨h1, h2, h3, h4⟩ := ih h
      refine ⟨by omega, by omega, h3, fun j h5 h6 => ?_⟩
      by_cases e : j = k
      · subst e; simpa using hb
      · exact h4 j (by omega) h6

theorem common_none {vs : List (List Int)} {m k : Nat} (h : common vs m k = none) : ∀ j, k ≤ j → j < k + m → allBeg vs j = false := by
  induction m generalizing k with
  | zero => intro j h1 h2; omega
  | succ m ih =>
    unfold common at h
    by_cases hb : allBeg vs k = true
    · rw [if_pos hb] at h; cases h
    · rw [if_neg hb] at h
      intro j h1 h2
      by_cases e : j = k
      · subst e; simpa using hb
      · exact ih h j (by omega) (by omega)

theorem common_eq {vs : List (List Int)} {m k r : Nat} (h1 : k ≤ r) (h2 : r < k + m) (h3 : allBeg vs r = true) (h4 : ∀ j, k ≤ j → j < r → allBeg vs j = false) : common vs m k = some r := by
  induction m generalizing k with
  | zero => omega
  | succ m ih =>
    unfold common
    by_cases e : k = r
    · subst e; rw [if_pos h3]
    · rw [if_neg (by rw [h4 k (Nat.le_refl _) (by omega)]; simp)]
      exact ih (by omega) (by omega) fun j h5 h6 => h4 j (by omega) h6

theorem common_no {vs : List (List Int)} {m k : Nat} (h : ∀ j, k ≤ j → j < k + m → allBeg vs j = false) : common vs m k = none := by
  induction m generalizing k with
  | zero => rfl
  | succ m ih =>
    unfold common
    rw [if_neg (by rw [h k (Nat.le_refl _) (by omega)]; simp)]
    exact ih fun j h1 h2 => h j (by omega) (by omega)

theorem at8_ex (n k j : Nat) (hk : k + 1 < n) (hj : j < n) (h8 : n ≤ 8) : at8 (exR n k) j = if j = k then (k : Int) + 1 else if j = k + 1 then (k : Int) else (j : Int) := by
  unfold exR
  have hl : (sameR n).length = 8 := mapR_len _ _ h8
  rw [at8_set _ _ _ _ (by rw [List.length_set, hl]; omega), at8_set _ _ _ _ (by rw [hl]; omega)]
  by_cases e1 : j = k + 1
  · rw [if_pos e1.symm, if_neg (by omega), if_pos e1]
  · rw [if_neg (fun e => e1 e.symm)]
    by_cases e2 : j = k
    · rw [if_pos e2.symm, if_pos e2]
    · rw [if_neg (fun e => e2 e.symm), if_neg e2, if_neg e1, at8_same n j hj]

/-- A letter taken away is an exchange of two places. -/
theorem strip_swap {n k : Nat} {v : List Int} (hv : Sim n v) (hk : k + 1 < n) : thenR n (exR n k) v = swapL v (k + 1) := by
  have h8 := hv.hi
  refine ext8 (mapR_len _ _ h8) (by rw [swapL_len]; exact hv.len) fun j hj => ?_
  unfold thenR
  rw [at8_mapR, at8_swap v (k + 1) j (by rw [hv.len]; omega) (by omega), Nat.add_sub_cancel]
  by_cases e : j < n
  · rw [if_pos e, at8_ex n k j hk e h8]
    by_cases e1 : j = k + 1
    · rw [if_neg (by omega), if_pos e1, if_pos e1, Int.toNat_natCast]
    · by_cases e2 : j = k
      · rw [if_pos e2, if_neg e1, if_pos e2]
        congr 1
      · rw [if_neg e2, if_neg e1, if_neg e1, if_neg e2, Int.toNat_natCast]
  · rw [if_neg e, if_neg (by omega), if_neg (by omega), hv.tail j (by omega)]

/-- How far a row is from ascending. -/
def wgt (v : List Int) : Int := at8 v 1 + 2 * at8 v 2 + 3 * at8 v 3 + 4 * at8 v 4 + 5 * at8 v 5 + 6 * at8 v 6 + 7 * at8 v 7
def far (v : List Int) : Nat := (196 - wgt v).toNat

theorem wgt_bd {n : Nat} {v : List Int} (h : Sim n v) : 0 ≤ wgt v ∧ wgt v ≤ 196 := by
  have h8 := h.hi
  have b1 := h.all 1
  have b2 := h.all 2
  have b3 := h.all 3
  have b4 := h.all 4
  have b5 := h.all 5
  have b6 := h.all 6
  have b7 := h.all 7
  unfold wgt
  omega

theorem wgt_swap {n k : Nat} {v : List Int} (h : Sim n v) (hk : k + 1 < n) (hd : at8 v (k + 1) < at8 v k) : wgt v < wgt (swapL v (k + 1)) := by
  have h8 := h.hi
  have e := fun j => at8_swap v (k + 1) j (by rw [h.len]; omega) (by omega)
  have : k = 0 ∨ k = 1 ∨ k = 2 ∨ k = 3 ∨ k = 4 ∨ k = 5 ∨ k = 6 := by omega
  unfold wgt
  rcases this with rfl | rfl | rfl | rfl | rfl | rfl | rfl <;> simp [e] <;> simp at hd <;> omega

theorem far_less {n k : Nat} {v : List Int} (h : Sim n v) (hk : k + 1 < n) (hd : at8 v (k + 1) < at8 v k) : far (thenR n (exR n k) v) < far v := by
  rw [strip_swap h hk]
  have h1 := wgt_swap h hk hd
  have h2 := wgt_bd h
  have h3 := wgt_bd (h.swap (k + 1) (by omega) hk)
  unfold far
  omega

theorem far_le {n : Nat} {v : List Int} (h : Sim n v) : far v ≤ 196 := by
  have := wgt_bd h
  unfold far
  omega

/-- Enough fuel is enough. -/
theorem takeF_more (n : Nat) (f g : Nat) (v : List Int) (vs : List (List Int)) (hs : ∀ u ∈ v :: vs, Sim n u) (hf : far v < f) (hg : far v < g) : takeF n f (v :: vs) = takeF n g (v :: vs) := by
  induction f generalizing v vs g with
  | zero => omega
  | succ f ih =>
    match g, hg with
    | g + 1, hg =>
      unfold takeF
      cases hc : common (v :: vs) (n - 1) 0 with
      | none => rfl
      | some k =>
        obtain ⟨_, h2, h3, _⟩ := common_some hc
        have hv := hs v (by simp)
        have hd : at8 v (k + 1) < at8 v k := by
          have := h3
          simp [allBeg] at this
          exact this.1
        have hl := far_less hv (show k + 1 < n by omega) hd
        simp only
        congr 1
        show takeF n f (thenR n (exR n k) v :: strip n k vs) = takeF n g (thenR n (exR n k) v :: strip n k vs)
        refine ih g _ _ (fun u hu => ?_) (by omega) (by omega)
        rcases List.mem_cons.1 hu with rfl | hu
        · exact thenR_sim (exR_sim n k hv.hi (by omega)) hv
        · obtain ⟨x, hx, rfl⟩ := List.mem_map.1 hu
          exact thenR_sim (exR_sim n k hv.hi (by omega)) (hs x (by simp [hx]))

/-- One letter more is taken. -/
theorem takeR_some {n k : Nat} {v : List Int} {vs : List (List Int)} (hs : ∀ u ∈ v :: vs, Sim n u) (hc : common (v :: vs) (n - 1) 0 = some k) : takeR n (v :: vs) = ((k : Int) + 1) :: takeR n (strip n k (v :: vs)) := by
  have hv := hs v (by simp)
  obtain ⟨_, h2, h3, _⟩ := common_some hc
  have hd : at8 v (k + 1) < at8 v k := by
    have := h3
    simp [allBeg] at this
    exact this.1
  have hl := far_less hv (show k + 1 < n by omega) hd
  have hb := far_le hv
  unfold takeR
  rw [show (200 : Nat) = 199 + 1 from rfl, takeF, hc]
  simp only
  refine congrArg (fun l => ((k : Int) + 1) :: l) ?_
  show takeF n 199 (thenR n (exR n k) v :: strip n k vs) = takeF n (199 + 1) (thenR n (exR n k) v :: strip n k vs)
  refine takeF_more n _ _ _ _ (fun u hu => ?_) (by omega) (by omega)
  rcases List.mem_cons.1 hu with rfl | hu
  · exact thenR_sim (exR_sim n k hv.hi (by omega)) hv
  · obtain ⟨x, hx, rfl⟩ := List.mem_map.1 hu
    exact thenR_sim (exR_sim n k hv.hi (by omega)) (hs x (by simp [hx]))

theorem takeR_none {n : Nat} {vs : List (List Int)} (hc : common vs (n - 1) 0 = none) : takeR n vs = [] := by
  unfold takeR
  rw [show (200 : Nat) = 199 + 1 from rfl, takeF, hc]

end Go.Proofs.Ytlgipimjhfmilaa
