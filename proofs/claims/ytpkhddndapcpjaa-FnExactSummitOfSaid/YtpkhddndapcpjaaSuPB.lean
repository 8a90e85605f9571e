/- Merged texts. -/
import Derived.Test.YtpkhddndapcpjaaSuQA

/- Exchanges of neighbours, and what lists of them make: plain lemmas. No program is spoken of. -/
namespace Go.Proofs.Ytpkhddndapcpjaa

/-- The exchange of the places k and k + 1. -/
def exR (n k : Nat) : List Int := ((sameR n).set k ((k : Int) + 1)).set (k + 1) (k : Int)

theorem at8_same (n j : Nat) (h : j < n) : at8 (sameR n) j = (j : Int) := by
 unfold sameR
 rw [at8_mapR, if_pos h]

theorem exR_swap (n k : Nat) (hk : k + 1 < n) : exR n k = swapL (sameR n) (k + 1) := by
 unfold exR swapL
 rw [Nat.add_sub_cancel, at8_same n k (by omega), at8_same n (k + 1) hk, List.set_comm _ _ (by omega)]
 rfl

theorem exR_sim (n k : Nat) (h8 : n ≤ 8) (hk : k + 1 < n) : Sim n (exR n k) := by
 rw [exR_swap n k hk]
 exact (sameR_sim n (by omega) h8).swap (k + 1) (by omega) hk

theorem exR_len (n k : Nat) (h8 : n ≤ 8) : (exR n k).length = 8 := by
 unfold exR
 rw [List.length_set, List.length_set]
 exact mapR_len _ _ h8

/-- What a list of exchanges makes. -/
def exsR (n : Nat) (xs : List Int) : List Int := xs.foldl (fun s x => thenR n s (exR n (x - 1).toNat)) (sameR n)

/-- All numbers are letters of n strands. -/
def Lets (n : Nat) (xs : List Int) : Prop := ∀ x ∈ xs, 1 ≤ x ∧ x < n

theorem exsR_sim (n : Nat) (h1 : 1 ≤ n) (h8 : n ≤ 8) (xs : List Int) (hx : Lets n xs) : Sim n (exsR n xs) := by
 suffices h : ∀ s, Sim n s → Sim n (xs.foldl (fun s x => thenR n s (exR n (x - 1).toNat)) s) from h _ (sameR_sim n h1 h8)
 induction xs with
 | nil => intro s hs; exact hs
 | cons x xs ih =>
  intro s hs
  obtain ⟨a, b⟩ := hx x (by simp)
  exact ih (fun y hy => hx y (by simp [hy])) _ (thenR_sim hs (exR_sim n _ h8 (by omega)))

theorem Lets.take {n : Nat} {xs : List Int} (h : Lets n xs) (k : Nat) : Lets n (xs.take k) := fun x hx => h x (List.mem_of_mem_take hx)

end Go.Proofs.Ytpkhddndapcpjaa

/- Letters are taken from simple braids as long as there are common ones: plain lemmas. No program is spoken of. -/
namespace Go.Proofs.Ytpkhddndapcpjaa

/-- The letter k + 1 begins all of some rows. -/
def allBeg (vs : List (List Int)) (k : Nat) : Bool := vs.all fun v => decide (at8 v (k + 1) < at8 v k)

/-- The least k below m for which the letter k + 1 begins all rows. -/
def common (vs : List (List Int)) : Nat → Nat → Option Nat
 | 0, _ => none
 | m + 1, k => if allBeg vs k = true then some k else common vs m (k + 1)

/-- Each row without the letter k + 1 ahead. -/
def strip (n k : Nat) (vs : List (List Int)) : List (List Int) := vs.map fun v => thenR n (exR n k) v

/-- The letters that are taken, at most so many. -/
def takeF (n : Nat) : Nat → List (List Int) → List Int
 | 0, _ => []
 | f + 1, vs => match common vs (n - 1) 0 with
  | none => []
  | some k => ((k : Int) + 1) :: takeF n f (strip n k vs)

/-- All of them. -/
def takeR (n : Nat) (vs : List (List Int)) : List Int := takeF n 200 vs

theorem common_some {vs : List (List Int)} {m k r : Nat} (h : common vs m k = some r) : k ≤ r ∧ r < k + m ∧ allBeg vs r = true ∧ ∀ j, k ≤ j → j < r → allBeg vs j = false := by
 induction m generalizing k with
 | zero => simp [common] at h
 | succ m ih =>
  unfold common at h
  by_cases hb : allBeg vs k = true
  ·rw [if_pos hb] at h
   cases h
   exact ⟨Nat.le_refl _, by omega, hb, fun j h1 h2 => by omega⟩
  ·rw [if_neg hb] at h
   obtain ⟨h1, h2, h3, h4⟩ := ih h
   refine ⟨by omega, by omega, h3, fun j h5 h6 => ?_⟩
   by_cases e : j = k
   ·subst e; simpa using hb
   ·exact h4 j (by omega) h6

theorem common_eq {vs : List (List Int)} {m k r : Nat} (h1 : k ≤ r) (h2 : r < k + m) (h3 : allBeg vs r = true) (h4 : ∀ j, k ≤ j → j < r → allBeg vs j = false) : common vs m k = some r := by
 induction m generalizing k with
 | zero => omega
 | succ m ih =>
  unfold common
  by_cases e : k = r
  ·subst e; rw [if_pos h3]
  ·rw [if_neg (by rw [h4 k (Nat.le_refl _) (by omega)]; simp)]
   exact ih (by omega) (by omega) fun j h5 h6 => h4 j (by omega) h6

theorem common_no {vs : List (List Int)} {m k : Nat} (h : ∀ j, k ≤ j → j < k + m → allBeg vs j = false) : common vs m k = none := by
 induction m generalizing k with
 | zero => rfl
 | succ m ih =>
  unfold common
  rw [if_neg (by rw [h k (Nat.le_refl _) (by omega)]; simp)]
  exact ih fun j h1 h2 => h j (by omega) (by omega)

theorem at8_ex (n k j : Nat) (hk : k + 1 < n) (hj : j < n) (h8 : n ≤ 8) : at8 (exR n k) j = if j = k then (k : Int) + 1 else if j = k + 1 then (k : Int) else (j : Int) := by
 unfold exR
 have hl : (sameR n).length = 8 := mapR_len _ _ h8
 rw [at8_set _ _ _ _ (by rw [List.length_set, hl]; omega), at8_set _ _ _ _ (by rw [hl]; omega)]
 by_cases e1 : j = k + 1
 ·rw [if_pos e1.symm, if_neg (by omega), if_pos e1]
 ·rw [if_neg (fun e => e1 e.symm)]
  by_cases e2 : j = k
  ·rw [if_pos e2.symm, if_pos e2]
  ·rw [if_neg (fun e => e2 e.symm), if_neg e2, if_neg e1, at8_same n j hj]

/-- A letter taken away is an exchange of two places. -/
theorem strip_swap {n k : Nat} {v : List Int} (hv : Sim n v) (hk : k + 1 < n) : thenR n (exR n k) v = swapL v (k + 1) := by
 have h8 := hv.hi
 refine ext8 (mapR_len _ _ h8) (by rw [swapL_len]; exact hv.len) fun j hj => ?_
 unfold thenR
 rw [at8_mapR, at8_swap v (k + 1) j (by rw [hv.len]; omega) (by omega), Nat.add_sub_cancel]
 by_cases e : j < n
 ·rw [if_pos e, at8_ex n k j hk e h8]
  by_cases e1 : j = k + 1
  ·rw [if_neg (by omega), if_pos e1, if_pos e1, Int.toNat_natCast]
  ·by_cases e2 : j = k
   ·rw [if_pos e2, if_neg e1, if_pos e2]
    congr 1
   ·rw [if_neg e2, if_neg e1, if_neg e1, if_neg e2, Int.toNat_natCast]
 ·rw [if_neg e, if_neg (by omega), if_neg (by omega), hv.tail j (by omega)]

/-- How far a row is from ascending. -/
def wgt (v : List Int) : Int := at8 v 1 + 2 * at8 v 2 + 3 * at8 v 3 + 4 * at8 v 4 + 5 * at8 v 5 + 6 * at8 v 6 + 7 * at8 v 7
def far (v : List Int) : Nat := (196 - wgt v).toNat

theorem wgt_bd {n : Nat} {v : List Int} (h : Sim n v) : 0 ≤ wgt v ∧ wgt v ≤ 196 := by
 have h8 := h.hi
 have b1 := h.all 1
 have b2 := h.all 2
 have b3 := h.all 3
 have b4 := h.all 4
 have b5 := h.all 5
 have b6 := h.all 6
 have b7 := h.all 7
 unfold wgt
 omega

theorem wgt_swap {n k : Nat} {v : List Int} (h : Sim n v) (hk : k + 1 < n) (hd : at8 v (k + 1) < at8 v k) : wgt v < wgt (swapL v (k + 1)) := by
 have h8 := h.hi
 have e := fun j => at8_swap v (k + 1) j (by rw [h.len]; omega) (by omega)
 have : k = 0 ∨ k = 1 ∨ k = 2 ∨ k = 3 ∨ k = 4 ∨ k = 5 ∨ k = 6 := by omega
 unfold wgt
 rcases this with rfl | rfl | rfl | rfl | rfl | rfl | rfl <;> simp [e] <;> simp at hd <;> omega

theorem far_less {n k : Nat} {v : List Int} (h : Sim n v) (hk : k + 1 < n) (hd : at8 v (k + 1) < at8 v k) : far (thenR n (exR n k) v) < far v := by
 rw [strip_swap h hk]
 have h1 := wgt_swap h hk hd
 have h2 := wgt_bd h
 have h3 := wgt_bd (h.swap (k + 1) (by omega) hk)
 unfold far
 omega

theorem far_le {n : Nat} {v : List Int} (h : Sim n v) : far v ≤ 196 := by
 have := wgt_bd h
 unfold far
 omega

/-- Enough fuel is enough. -/
theorem takeF_more (n : Nat) (f g : Nat) (v : List Int) (vs : List (List Int)) (hs : ∀ u ∈ v :: vs, Sim n u) (hf : far v < f) (hg : far v < g) : takeF n f (v :: vs) = takeF n g (v :: vs) := by
 induction f generalizing v vs g with
 | zero => omega
 | succ f ih =>
  match g, hg with
  | g + 1, hg =>
   unfold takeF
   cases hc : common (v :: vs) (n - 1) 0 with
   | none => rfl
   | some k =>
    obtain ⟨_, h2, h3, _⟩ := common_some hc
    have hv := hs v (by simp)
    have hd : at8 v (k + 1) < at8 v k := by
     have := h3
     simp [allBeg] at this
     exact this.1
    have hl := far_less hv (show k + 1 < n by omega) hd
    simp only
    congr 1
    show takeF n f (thenR n (exR n k) v :: strip n k vs) = takeF n g (thenR n (exR n k) v :: strip n k vs)
    refine ih g _ _ (fun u hu => ?_) (by omega) (by omega)
    rcases List.mem_cons.1 hu with rfl | hu
    ·exact thenR_sim (exR_sim n k hv.hi (by omega)) hv
    ·obtain ⟨x, hx, rfl⟩ := List.mem_map.1 hu
     exact thenR_sim (exR_sim n k hv.hi (by omega)) (hs x (by simp [hx]))

/-- One letter more is taken. -/
theorem takeR_some {n k : Nat} {v : List Int} {vs : List (List Int)} (hs : ∀ u ∈ v :: vs, Sim n u) (hc : common (v :: vs) (n - 1) 0 = some k) : takeR n (v :: vs) = ((k : Int) + 1) :: takeR n (strip n k (v :: vs)) := by
 have hv := hs v (by simp)
 obtain ⟨_, h2, h3, _⟩ := common_some hc
 have hd : at8 v (k + 1) < at8 v k := by
  have := h3
  simp [allBeg] at this
  exact this.1
 have hl := far_less hv (show k + 1 < n by omega) hd
 have hb := far_le hv
 unfold takeR
 rw [show (200 : Nat) = 199 + 1 from rfl, takeF, hc]
 simp only
 refine congrArg (fun l => ((k : Int) + 1) :: l) ?_
 show takeF n 199 (thenR n (exR n k) v :: strip n k vs) = takeF n (199 + 1) (thenR n (exR n k) v :: strip n k vs)
 refine takeF_more n _ _ _ _ (fun u hu => ?_) (by omega) (by omega)
 rcases List.mem_cons.1 hu with rfl | hu
 ·exact thenR_sim (exR_sim n k hv.hi (by omega)) hv
 ·obtain ⟨x, hx, rfl⟩ := List.mem_map.1 hu
  exact thenR_sim (exR_sim n k hv.hi (by omega)) (hs x (by simp [hx]))

theorem takeR_none {n : Nat} {vs : List (List Int)} (hc : common vs (n - 1) 0 = none) : takeR n vs = [] := by
 unfold takeR
 rw [show (200 : Nat) = 199 + 1 from rfl, takeF, hc]

end Go.Proofs.Ytpkhddndapcpjaa

/- Normal forms as lists of rows: weighing, and what is a normal form: plain functions and lemmas. No program is spoken of. -/
namespace Go.Proofs.Ytpkhddndapcpjaa

/-- The least k of m from k on for which p holds. -/
def firstB (p : Nat → Bool) : Nat → Nat → Option Nat
 | 0, _ => none
 | m + 1, k => if p k = true then some k else firstB p m (k + 1)

theorem firstB_some {p : Nat → Bool} {m k r : Nat} (h : firstB p m k = some r) : k ≤ r ∧ r < k + m ∧ p r = true ∧ ∀ j, k ≤ j → j < r → p j = false := by
 induction m generalizing k with
 | zero => simp [firstB] at h
 | succ m ih =>
  unfold firstB at h
  by_cases hb : p k = true
  ·rw [if_pos hb] at h
   cases h
   exact ⟨Nat.le_refl _, by omega, hb, fun j h1 h2 => by omega⟩
  ·rw [if_neg hb] at h
   obtain ⟨h1, h2, h3, h4⟩ := ih h
   refine ⟨by omega, by omega, h3, fun j h5 h6 => ?_⟩
   by_cases e : j = k
   ·subst e; simpa using hb
   ·exact h4 j (by omega) h6

theorem firstB_none {p : Nat → Bool} {m k : Nat} (h : firstB p m k = none) : ∀ j, k ≤ j → j < k + m → p j = false := by
 induction m generalizing k with
 | zero => intro j h1 h2; omega
 | succ m ih =>
  unfold firstB at h
  by_cases hb : p k = true
  ·rw [if_pos hb] at h; cases h
  ·rw [if_neg hb] at h
   intro j h1 h2
   by_cases e : j = k
   ·subst e; simpa using hb
   ·exact ih h j (by omega) (by omega)

theorem firstB_eq {p : Nat → Bool} {m k r : Nat} (h1 : k ≤ r) (h2 : r < k + m) (h3 : p r = true) (h4 : ∀ j, k ≤ j → j < r → p j = false) : firstB p m k = some r := by
 induction m generalizing k with
 | zero => omega
 | succ m ih =>
  unfold firstB
  by_cases e : k = r
  ·subst e; rw [if_pos h3]
  ·rw [if_neg (by rw [h4 k (Nat.le_refl _) (by omega)]; simp)]
   exact ih (by omega) (by omega) fun j h5 h6 => h4 j (by omega) h6

theorem firstB_no {p : Nat → Bool} {m k : Nat} (h : ∀ j, k ≤ j → j < k + m → p j = false) : firstB p m k = none := by
 induction m generalizing k with
 | zero => rfl
 | succ m ih =>
  unfold firstB
  rw [if_neg (by rw [h k (Nat.le_refl _) (by omega)]; simp)]
  exact ih fun j h1 h2 => h j (by omega) (by omega)

/-- The letter k + 1 begins x and does not begin b. -/
def mov (b x : List Int) (k : Nat) : Bool := decide (at8 x (k + 1) < at8 x k) && decide (at8 b k < at8 b (k + 1))

theorem mov_iff (b x : List Int) (k : Nat) : mov b x k = true ↔ at8 x (k + 1) < at8 x k ∧ at8 b k < at8 b (k + 1) := by simp [mov]

theorem Sim.apart {n : Nat} {b : List Int} (h : Sim n b) {i j : Nat} (hi : i < n) (hj : j < n) (hne : i ≠ j) : at8 b i ≠ at8 b j := fun e => hne (h.inj i j hi hj e)

/-- Letters are moved from the beginning of x to that of b, at most so many. -/
def weighF (n : Nat) : Nat → List Int → List Int → List Int × List Int
 | 0, b, x => (b, x)
 | f + 1, b, x => match firstB (mov b x) (n - 1) 0 with
  | none => (b, x)
  | some k => weighF n f (thenR n (exR n k) b) (thenR n (exR n k) x)

/-- All of them. -/
def weighR (n : Nat) (b x : List Int) : List Int × List Int := weighF n 200 b x

theorem weighF_more (n : Nat) (f g : Nat) (b x : List Int) (hx : Sim n x) (hf : far x < f) (hg : far x < g) : weighF n f b x = weighF n g b x := by
 induction f generalizing b x g with
 | zero => omega
 | succ f ih =>
  match g, hg with
  | g + 1, hg =>
   unfold weighF
   cases hc : firstB (mov b x) (n - 1) 0 with
   | none => rfl
   | some k =>
    obtain ⟨_, h2, h3, _⟩ := firstB_some hc
    have hl := far_less hx (show k + 1 < n by omega) ((mov_iff _ _ _).1 h3).1
    exact ih g _ _ (thenR_sim (exR_sim n k hx.hi (by omega)) hx) (by omega) (by omega)

theorem weighR_some {n k : Nat} {b x : List Int} (hx : Sim n x) (hc : firstB (mov b x) (n - 1) 0 = some k) : weighR n b x = weighR n (thenR n (exR n k) b) (thenR n (exR n k) x) := by
 obtain ⟨_, h2, h3, _⟩ := firstB_some hc
 have hl := far_less hx (show k + 1 < n by omega) ((mov_iff _ _ _).1 h3).1
 have hb := far_le hx
 unfold weighR
 rw [show (200 : Nat) = 199 + 1 from rfl, weighF, hc]
 exact weighF_more n _ _ _ _ (thenR_sim (exR_sim n k hx.hi (by omega)) hx) (by omega) (by omega)

theorem weighR_none {n : Nat} {b x : List Int} (hc : firstB (mov b x) (n - 1) 0 = none) : weighR n b x = (b, x) := by
 unfold weighR
 rw [show (200 : Nat) = 199 + 1 from rfl, weighF, hc]

theorem back_unique {n : Nat} {s t : List Int} (hs : Sim n s) (ht : Sim n t) (h : ∀ x, x < n → at8 t (at8 s x).toNat = (x : Int)) : t = backR n s := by
 refine ext8 ht.len (backR_sim hs).len fun j hj => ?_
 by_cases e : j < n
 ·obtain ⟨x, hx, ex⟩ := hs.onto j e
  have h1 := h x hx
  have h2 := at8_back hs x hx
  rw [ex, Int.toNat_natCast] at h1 h2
  rw [h1, h2]
 ·rw [ht.tail j (by omega), (backR_sim hs).tail j (by omega)]

theorem at8_back2 {n : Nat} {s : List Int} (h : Sim n s) (v : Nat) (hv : v < n) : at8 s (at8 (backR n s) v).toNat = (v : Int) := by
 obtain ⟨x, hx, ex⟩ := h.onto v hv
 have := at8_back h x hx
 rw [ex, Int.toNat_natCast] at this
 rw [this, Int.toNat_natCast, ex]

theorem back_backR {n : Nat} {s : List Int} (h : Sim n s) : backR n (backR n s) = s := by
 refine (back_unique (backR_sim h) h fun x hx => at8_back2 h x hx).symm

theorem wgt_up {n k : Nat} {b : List Int} (h : Sim n b) (hk : k + 1 < n) (hd : at8 b k < at8 b (k + 1)) : wgt (thenR n (exR n k) b) < wgt b := by
 rw [strip_swap h hk]
 have h8 := h.hi
 have hs := h.swap (k + 1) (by omega) hk
 have := wgt_swap hs hk (by
  rw [at8_swap b (k + 1) _ (by rw [h.len]; omega) (by omega), at8_swap b (k + 1) _ (by rw [h.len]; omega) (by omega)]
  simp; exact hd)
 rw [swap_twice b (k + 1) h.len (by omega) (by omega)] at this
 exact this

theorem weighF_sim {n : Nat} (f : Nat) {b x : List Int} (hb : Sim n b) (hx : Sim n x) : Sim n (weighF n f b x).1 ∧ Sim n (weighF n f b x).2 ∧ wgt (weighF n f b x).1 ≤ wgt b := by
 induction f generalizing b x with
 | zero => exact ⟨hb, hx, by simp [weighF]⟩
 | succ f ih =>
  unfold weighF
  cases hc : firstB (mov b x) (n - 1) 0 with
  | none => exact ⟨hb, hx, by simp⟩
  | some k =>
   obtain ⟨_, h2, h3, _⟩ := firstB_some hc
   have hk : k + 1 < n := by omega
   have he := exR_sim n k hx.hi hk
   obtain ⟨i1, i2, i3⟩ := ih (thenR_sim he hb) (thenR_sim he hx)
   have := wgt_up hb hk ((mov_iff _ _ _).1 h3).2
   exact ⟨i1, i2, by simp only; omega⟩

theorem weighR_sim {n : Nat} {b x : List Int} (hb : Sim n b) (hx : Sim n x) : Sim n (weighR n b x).1 ∧ Sim n (weighR n b x).2 := ⟨(weighF_sim 200 hb hx).1, (weighF_sim 200 hb hx).2.1⟩

/-- All letters that begin x end a. -/
def weightB (n : Nat) (a x : List Int) : Bool := (firstB (mov (backR n a) x) (n - 1) 0).isNone

theorem weightB_iff (n : Nat) (a x : List Int) : weightB n a x = true ↔ ∀ k, k + 1 < n → ¬ (at8 x (k + 1) < at8 x k ∧ at8 (backR n a) k < at8 (backR n a) (k + 1)) := by
 unfold weightB
 cases hc : firstB (mov (backR n a) x) (n - 1) 0 with
 | none =>
  simp only [Option.isNone_none, true_iff]
  intro k hk h
  have := firstB_none hc k (by omega) (by omega)
  rw [(mov_iff _ _ _).2 h] at this
  cases this
 | some k =>
  obtain ⟨_, h2, h3, _⟩ := firstB_some hc
  simp only [Option.isNone_some, Bool.false_eq_true, false_iff]
  exact fun h => h k (by omega) ((mov_iff _ _ _).1 h3)

/-- Weighing leaves the first one alone exactly if it is weighed already. -/
theorem weigh_same {n : Nat} {a x : List Int} (ha : Sim n a) (hx : Sim n x) : decide (backR n (weighR n (backR n a) x).1 = a) = weightB n a x := by
 have hb := backR_sim ha
 rw [Bool.eq_iff_iff, decide_eq_true_eq]
 unfold weightB
 cases hc : firstB (mov (backR n a) x) (n - 1) 0 with
 | none =>
  rw [weighR_none hc]
  simp [back_backR ha]
 | some k =>
  obtain ⟨_, h2, h3, _⟩ := firstB_some hc
  simp only [Option.isNone_some, Bool.false_eq_true, iff_false]
  intro h
  have hk : k + 1 < n := by omega
  have he := exR_sim n k hx.hi hk
  have hw := weighF_sim 200 (thenR_sim he hb) (thenR_sim he hx)
  have hu := wgt_up hb hk ((mov_iff _ _ _).1 h3).2
  have h5 : (weighR n (backR n a) x).1 = backR n a := by
   rw [← back_backR (weighR_sim hb hx).1, h]
  rw [weighR_some hx hc] at h5
  have h6 := hw.2.2
  unfold weighR at h5
  rw [h5] at h6
  omega

/-- The j-th of some rows. -/
def rowAt (rows : List (List Int)) (j : Nat) : List Int := rows.getD j []

/-- The j-th factor is one that a normal form may have there. -/
def okFac (n : Nat) (rows : List (List Int)) (j : Nat) : Bool :=
 simB n (rowAt rows j) && (!decide (rowAt rows j = sameR n) && (!decide (rowAt rows j = halfR n) && (decide (j = 0) || weightB n (rowAt rows (j - 1)) (rowAt rows j))))

/-- Is it a normal form? -/
def normB (s p : Int) (rows : List (List Int)) : Bool :=
 inB s 1 8 && (inB p (-200) 200 && (decide (rows.length ≤ 200) && ((decide (2 ≤ s) || decide (p = 0)) && (List.range rows.length).all (okFac s.toNat rows))))

/-- All rows have eight places. -/
def Rows8 (rows : List (List Int)) : Prop := ∀ r ∈ rows, r.length = 8

theorem rowAt_mem {rows : List (List Int)} {j : Nat} (h : j < rows.length) : rowAt rows j ∈ rows := by
 unfold rowAt
 simp [List.getD, h]

theorem Rows8.at {rows : List (List Int)} (h : Rows8 rows) {j : Nat} (hj : j < rows.length) : (rowAt rows j).length = 8 := h _ (rowAt_mem hj)

theorem normB_iff (s p : Int) (rows : List (List Int)) : normB s p rows = true ↔ (1 ≤ s ∧ s ≤ 8) ∧ (-200 ≤ p ∧ p ≤ 200) ∧ rows.length ≤ 200 ∧ (2 ≤ s ∨ p = 0) ∧ ∀ j, j < rows.length → okFac s.toNat rows j = true := by
 unfold normB
 simp only [Bool.and_eq_true, inB_iff, decide_eq_true_eq, Bool.or_eq_true, List.all_eq_true, List.mem_range]

theorem okFac_sim {n : Nat} {rows : List (List Int)} {j : Nat} (h8 : Rows8 rows) (hj : j < rows.length) (h : okFac n rows j = true) : Sim n (rowAt rows j) := by
 unfold okFac at h
 simp only [Bool.and_eq_true] at h
 obtain ⟨k, hk, hs⟩ := (simB_iff _ _ (h8.at hj)).1 h.1
 have : k = n := by omega
 subst this
 exact hs

theorem normB_bad {s p : Int} {rows : List (List Int)} {n : Nat} (hs : s = n) (j : Nat) (hj : j < rows.length) (h : okFac n rows j = false) : normB s p rows = false := by
 rw [← Bool.not_eq_true, normB_iff]
 rintro ⟨_, _, _, _, h5⟩
 have := h5 j hj
 rw [hs, Int.toNat_natCast, h] at this
 cases this

end Go.Proofs.Ytpkhddndapcpjaa

/- Weighing by meets and weighing letter by letter are the same: plain functions and lemmas. No program is spoken of. -/
namespace Go.Proofs.Ytpkhddndapcpjaa

theorem at8_then (n : Nat) (a b : List Int) (j : Nat) : at8 (thenR n a b) j = if j < n then at8 b (at8 a j).toNat else 0 := at8_mapR _ _ _

theorem back_then {n : Nat} {s t : List Int} (hs : Sim n s) (ht : Sim n t) : backR n (thenR n s t) = thenR n (backR n t) (backR n s) := by
 refine (back_unique (thenR_sim hs ht) (thenR_sim (backR_sim ht) (backR_sim hs)) fun x hx => ?_).symm
 have b1 := hs.bd x hx
 have b2 := ht.bd (at8 s x).toNat (by omega)
 have e : at8 (thenR n s t) x = at8 t (at8 s x).toNat := by rw [at8_then, if_pos hx]
 rw [e, at8_then, if_pos (by omega), at8_back ht _ (by omega), Int.toNat_natCast, at8_back hs x hx]

theorem same_then {n : Nat} {b : List Int} (hb : Sim n b) : thenR n (sameR n) b = b := by
 refine ext8 (mapR_len _ _ hb.hi) hb.len fun j _ => ?_
 rw [at8_then]
 by_cases e : j < n
 ·rw [if_pos e, at8_same n j e, Int.toNat_natCast]
 ·rw [if_neg e, hb.tail j (by omega)]

theorem then_same {n : Nat} {b : List Int} (hb : Sim n b) : thenR n b (sameR n) = b := by
 refine ext8 (mapR_len _ _ hb.hi) hb.len fun j _ => ?_
 rw [at8_then]
 by_cases e : j < n
 ·have := hb.bd j e
  rw [if_pos e, at8_same n _ (by omega)]
  omega
 ·rw [if_neg e, hb.tail j (by omega)]

theorem then_back {n : Nat} {b : List Int} (hb : Sim n b) : thenR n b (backR n b) = sameR n := by
 refine ext8 (mapR_len _ _ hb.hi) (mapR_len _ _ hb.hi) fun j _ => ?_
 rw [at8_then, sameR, at8_mapR]
 by_cases e : j < n
 ·rw [if_pos e, if_pos e, at8_back hb j e]
 ·rw [if_neg e, if_neg e]

theorem back_then_self {n : Nat} {b : List Int} (hb : Sim n b) : thenR n (backR n b) b = sameR n := by
 have := then_back (backR_sim hb)
 rwa [back_backR hb] at this

theorem ex_back (n k : Nat) (h8 : n ≤ 8) (hk : k + 1 < n) : backR n (exR n k) = exR n k := by
 have he := exR_sim n k h8 hk
 refine (back_unique he he fun x hx => ?_).symm
 have h := at8_ex n k x hk hx h8
 by_cases e1 : x = k
 ·subst e1
  rw [if_pos rfl] at h
  rw [h, show ((x : Int) + 1).toNat = x + 1 by omega, at8_ex n x (x + 1) hk hk h8, if_neg (by omega), if_pos rfl]
 ·rw [if_neg e1] at h
  by_cases e2 : x = k + 1
  ·subst e2
   rw [if_pos rfl] at h
   rw [h, Int.toNat_natCast, at8_ex n k k hk (by omega) h8, if_pos rfl]
   omega
  ·rw [if_neg e2] at h
   rw [h, Int.toNat_natCast, h]

theorem fold_ex {n : Nat} (xs : List Int) (hx : Lets n xs) {s : List Int} (hs : Sim n s) : xs.foldl (fun s x => thenR n s (exR n (x - 1).toNat)) s = thenR n s (exsR n xs) := by
 induction xs generalizing s with
 | nil => exact (then_same hs).symm
 | cons x xs ih =>
  have h1 := hx x (by simp)
  have he := exR_sim n (x - 1).toNat hs.hi (by omega)
  have hl : Lets n xs := fun y hy => hx y (List.mem_cons_of_mem _ hy)
  unfold exsR
  rw [List.foldl_cons, List.foldl_cons, ih hl (thenR_sim hs he), ih hl (thenR_sim (sameR_sim n hs.lo hs.hi) he), same_then he, thenR_then _ _ _ hs]

theorem exsR_cons {n : Nat} {x : Int} {xs : List Int} (h1 : 1 ≤ n) (h8 : n ≤ 8) (hx : Lets n (x :: xs)) : exsR n (x :: xs) = thenR n (exR n (x - 1).toNat) (exsR n xs) := by
 have h := hx x (by simp)
 have he := exR_sim n (x - 1).toNat h8 (by omega)
 have hl : Lets n xs := fun y hy => hx y (List.mem_cons_of_mem _ hy)
 have hs := sameR_sim n h1 h8
 rw [exsR, List.foldl_cons, same_then he, fold_ex xs hl he]

theorem takeF_lets (n f : Nat) (vs : List (List Int)) : Lets n (takeF n f vs) := by
 induction f generalizing vs with
 | zero => intro x hx; simp [takeF] at hx
 | succ f ih =>
  unfold takeF
  cases hc : common vs (n - 1) 0 with
  | none => intro x hx; simp at hx
  | some k =>
   obtain ⟨_, h2, _, _⟩ := common_some hc
   intro x hx
   rcases List.mem_cons.1 hx with rfl | hx
   ·omega
   ·exact ih _ x hx

/-- The complement. -/
def comR (n : Nat) (s : List Int) : List Int := thenR n (backR n s) (halfR n)

theorem at8_half (n j : Nat) (h : j < n) : at8 (halfR n) j = (n : Int) - 1 - j := by rw [halfR, at8_mapR, if_pos h]

theorem half_after {n : Nat} {b : List Int} (hb : Sim n b) (j : Nat) (hj : j < n) : at8 (thenR n b (halfR n)) j = (n : Int) - 1 - at8 b j := by
 have := hb.bd j hj
 rw [at8_then, if_pos hj, at8_half n _ (by omega)]
 omega

theorem common_mov {n : Nat} {b x : List Int} (hb : Sim n b) (m k : Nat) (h : k + m < n) : common [thenR n b (halfR n), x] m k = firstB (mov b x) m k := by
 induction m generalizing k with
 | zero => rfl
 | succ m ih =>
  unfold common firstB
  have e : allBeg [thenR n b (halfR n), x] k = mov b x k := by
   rw [Bool.eq_iff_iff, mov_iff]
   simp only [allBeg, List.all_cons, List.all_nil, Bool.and_true, Bool.and_eq_true, decide_eq_true_eq]
   rw [half_after hb k (by omega), half_after hb (k + 1) (by omega)]
   constructor
   ·rintro ⟨h1, h2⟩; exact ⟨h2, by omega⟩
   ·rintro ⟨h1, h2⟩; exact ⟨by omega, h1⟩
  rw [e, ih (k + 1) (by omega)]

theorem weighF_meet {n : Nat} (f : Nat) {b x : List Int} (hb : Sim n b) (hx : Sim n x) :
  weighF n f b x = (thenR n (backR n (exsR n (takeF n f [thenR n b (halfR n), x]))) b, thenR n (backR n (exsR n (takeF n f [thenR n b (halfR n), x]))) x) := by
 have h1 := hb.lo
 have h8 := hb.hi
 have hs := sameR_sim n h1 h8
 have hbs : backR n (sameR n) = sameR n := by
  have := back_then_self hs
  rwa [then_same (backR_sim hs)] at this
 induction f generalizing b x with
 | zero =>
  simp only [weighF, takeF, exsR, List.foldl_nil]
  rw [hbs, same_then hb, same_then hx]
 | succ f ih =>
  unfold weighF takeF
  rw [common_mov hb (n - 1) 0 (by omega)]
  cases hc : firstB (mov b x) (n - 1) 0 with
  | none =>
   simp only [exsR, List.foldl_nil]
   rw [hbs, same_then hb, same_then hx]
  | some k =>
   obtain ⟨_, h2, h3, _⟩ := firstB_some hc
   have hk : k + 1 < n := by omega
   have he := exR_sim n k h8 hk
   have hst : strip n k [thenR n b (halfR n), x] = [thenR n (thenR n (exR n k) b) (halfR n), thenR n (exR n k) x] := by
    simp only [strip, List.map_cons, List.map_nil]
    rw [thenR_then _ _ _ he]
   simp only [hst]
   rw [ih (thenR_sim he hb) (thenR_sim he hx)]
   have hl : Lets n (((k : Int) + 1) :: takeF n f [thenR n (thenR n (exR n k) b) (halfR n), thenR n (exR n k) x]) := by
    intro y hy
    rcases List.mem_cons.1 hy with rfl | hy
    ·omega
    ·exact takeF_lets _ _ _ y hy
   have hp := exsR_sim n h1 h8 (takeF n f [thenR n (thenR n (exR n k) b) (halfR n), thenR n (exR n k) x]) (takeF_lets _ _ _)
   rw [exsR_cons h1 h8 hl, show ((k : Int) + 1 - 1).toNat = k by omega, back_then he hp, ex_back n k h8 hk, thenR_then _ _ _ (backR_sim hp), thenR_then _ _ _ (backR_sim hp)]

/-- The meet, as the model takes it. -/
def meetR (n : Nat) (a b : List Int) : List Int := exsR n (takeR n [a, b])

theorem meetR_sim {n : Nat} (h1 : 1 ≤ n) (h8 : n ≤ 8) (a b : List Int) : Sim n (meetR n a b) := exsR_sim n h1 h8 _ (takeF_lets _ _ _)

/-- Weighing letter by letter is weighing by the meet. -/
theorem weighR_meet {n : Nat} {a x : List Int} (ha : Sim n a) (hx : Sim n x) :
  backR n (weighR n (backR n a) x).1 = thenR n a (meetR n (comR n a) x) ∧ (weighR n (backR n a) x).2 = thenR n (backR n (meetR n (comR n a) x)) x := by
 have hb := backR_sim ha
 have hm := meetR_sim ha.lo ha.hi (comR n a) x
 unfold weighR
 rw [weighF_meet 200 hb hx]
 refine ⟨?_, rfl⟩
 show backR n (thenR n (backR n (meetR n (comR n a) x)) (backR n a)) = _
 rw [back_then (backR_sim hm) hb, back_backR ha, back_backR hm]

end Go.Proofs.Ytpkhddndapcpjaa

/- Weighing a list of simple braids from its end once is enough, if all but the last were weighed: plain functions and lemmas. No program is spoken of. -/
namespace Go.Proofs.Ytpkhddndapcpjaa

/-- All that cross in p cross in w. -/
def Pre (n : Nat) (p w : List Int) : Prop := ∀ i j, i < j → j < n → at8 p j < at8 p i → at8 w j < at8 w i

theorem Pre.refl (n : Nat) (p : List Int) : Pre n p p := fun _ _ _ _ h => h

theorem at8_ne {n : Nat} {s : List Int} (h : Sim n s) {i j : Nat} (hi : i < n) (hj : j < n) (hne : i ≠ j) : at8 s i ≠ at8 s j := h.apart hi hj hne

/-- Places of a braid led back. -/
theorem back_at {n : Nat} {s : List Int} (h : Sim n s) (v : Nat) (hv : v < n) : ∃ x, x < n ∧ at8 (backR n s) v = (x : Int) ∧ at8 s x = (v : Int) := by
 obtain ⟨x, hx, e⟩ := h.onto v hv
 refine ⟨x, hx, ?_, e⟩
 have := at8_back h x hx
 rw [e, Int.toNat_natCast] at this
 exact this

theorem pre_cons {n k : Nat} {q v : List Int} (h8 : n ≤ 8) (hk : k + 1 < n) (hb : at8 v (k + 1) < at8 v k) (hp : Pre n q (thenR n (exR n k) v)) : Pre n (thenR n (exR n k) q) v := by
 intro i j hij hj h
 rw [at8_then, at8_then, if_pos hj, if_pos (by omega)] at h
 have hi : i < n := by omega
 have ei := at8_ex n k i hk hi h8
 have ej := at8_ex n k j hk hj h8
 have key : ∀ a b : Nat, a < b → b < n → at8 (exR n k) i = (a : Int) → at8 (exR n k) j = (b : Int) → at8 v j < at8 v i := by
  intro a b hab hbn ha hb'
  rw [ha, hb', Int.toNat_natCast, Int.toNat_natCast] at h
  have := hp a b hab hbn h
  rw [at8_then, at8_then, if_pos hbn, if_pos (by omega)] at this
  have inv : ∀ x y : Nat, x < n → y < n → at8 (exR n k) x = (y : Int) → at8 (exR n k) y = (x : Int) := by
   intro x y hx hy e
   have h1 := at8_back (exR_sim n k h8 hk) x hx
   rw [ex_back n k h8 hk, e, Int.toNat_natCast] at h1
   exact h1
  rw [inv i a hi (by omega) ha, inv j b hj hbn hb', Int.toNat_natCast, Int.toNat_natCast] at this
  exact this
 by_cases e1 : i = k
 ·by_cases e2 : j = k + 1
  ·subst e1 e2; exact hb
  ·rw [if_pos e1] at ei
   rw [if_neg (by omega), if_neg e2] at ej
   exact key (k + 1) j (by omega) hj (by rw [ei]; omega) ej
 ·rw [if_neg e1] at ei
  by_cases e3 : i = k + 1
  ·rw [if_pos e3] at ei
   rw [if_neg (by omega), if_neg (by omega)] at ej
   exact key k j (by omega) hj ei ej
  ·rw [if_neg e3] at ei
   by_cases e4 : j = k
   ·rw [if_pos e4] at ej
    exact key i (k + 1) (by omega) hk ei (by rw [ej]; omega)
   ·rw [if_neg e4] at ej
    by_cases e5 : j = k + 1
    ·rw [if_pos e5] at ej
     exact key i k (by omega) (by omega) ei ej
    ·rw [if_neg e5] at ej
     exact key i j hij hj ei ej

theorem take_pre {n : Nat} (h1 : 1 ≤ n) (h8 : n ≤ 8) (f : Nat) (vs : List (List Int)) : ∀ v ∈ vs, Pre n (exsR n (takeF n f vs)) v := by
 have same : ∀ v, Pre n (sameR n) v := fun v i j hij hj h => by rw [at8_same n j hj, at8_same n i (by omega)] at h; omega
 induction f generalizing vs with
 | zero => intro v _; exact same v
 | succ f ih =>
  unfold takeF
  cases hc : common vs (n - 1) 0 with
  | none => intro v _; exact same v
  | some k =>
   obtain ⟨_, h2, h3, _⟩ := common_some hc
   intro v hv
   have hk : k + 1 < n := by omega
   have hl : Lets n (((k : Int) + 1) :: takeF n f (strip n k vs)) := by
    intro y hy
    rcases List.mem_cons.1 hy with rfl | hy
    ·omega
    ·exact takeF_lets _ _ _ y hy
   show Pre n (exsR n (((k : Int) + 1) :: takeF n f (strip n k vs))) v
   rw [exsR_cons h1 h8 hl, show ((k : Int) + 1 - 1).toNat = k by omega]
   have hb : at8 v (k + 1) < at8 v k := by
    have := List.all_eq_true.1 h3 v hv
    simpa using this
   exact pre_cons h8 hk hb (ih (strip n k vs) _ (List.mem_map.2 ⟨v, hv, rfl⟩))

theorem meet_pre1 {n : Nat} (h1 : 1 ≤ n) (h8 : n ≤ 8) (a b : List Int) : Pre n (meetR n a b) a := take_pre h1 h8 200 [a, b] a (by simp)
theorem meet_pre2 {n : Nat} (h1 : 1 ≤ n) (h8 : n ≤ 8) (a b : List Int) : Pre n (meetR n a b) b := take_pre h1 h8 200 [a, b] b (by simp)

theorem com_at {n : Nat} {b : List Int} (hb : Sim n b) (j : Nat) (hj : j < n) : at8 (comR n b) j = (n : Int) - 1 - at8 (backR n b) j := half_after (backR_sim hb) j hj

/-- What the complement begins with makes the braid longer. -/
theorem pre_then {n : Nat} {b m : List Int} (hb : Sim n b) (hs : Sim n m) (hm : Pre n m (comR n b)) : Pre n b (thenR n b m) := by
 intro i j hij hj h
 have hi : i < n := by omega
 have b1 := hb.bd i hi
 have b2 := hb.bd j hj
 rw [at8_then, at8_then, if_pos hj, if_pos hi]
 have hne := at8_ne hs (show (at8 b j).toNat < n by omega) (show (at8 b i).toNat < n by omega) (by omega)
 rcases Int.lt_or_le (at8 m (at8 b j).toNat) (at8 m (at8 b i).toNat) with h5 | h5
 ·exact h5
 ·exfalso
  have := hm (at8 b j).toNat (at8 b i).toNat (by omega) (by omega) (by omega)
  rw [com_at hb _ (by omega), com_at hb _ (by omega), at8_back hb i hi, at8_back hb j hj] at this
  omega

/-- Two beginnings of w in which strands cross that end next to each other have a first letter in common. -/
theorem first_common {n : Nat} {p q w : List Int} (hp : Pre n p w) (hq : Pre n q w) {x y : Nat} (hxy : x < y) (hy : y < n) (hw : at8 w x = at8 w y + 1) (hw' : Sim n w)
  (cp : at8 p y < at8 p x) (cq : at8 q y < at8 q x) : ∃ z, z + 1 < n ∧ at8 p (z + 1) < at8 p z ∧ at8 q (z + 1) < at8 q z := by
 have step : ∀ d, x + d ≤ y → (∃ z, x ≤ z ∧ z + 1 ≤ y ∧ at8 w x ≤ at8 w z ∧ at8 w (z + 1) < at8 w x) ∨ at8 w x ≤ at8 w (x + d) := by
  intro d
  induction d with
  | zero => intro _; exact .inr (Int.le_refl _)
  | succ d ih =>
   intro hd
   rcases ih (by omega) with h | h
   ·exact .inl h
   ·rcases Int.lt_or_le (at8 w (x + (d + 1))) (at8 w x) with h2 | h2
    ·exact .inl ⟨x + d, by omega, by omega, h, h2⟩
    ·exact .inr h2
 obtain ⟨z, z1, z2, z3, z4⟩ : ∃ z, x ≤ z ∧ z + 1 ≤ y ∧ at8 w x ≤ at8 w z ∧ at8 w (z + 1) < at8 w x := by
  rcases step (y - x) (by omega) with h | h
  ·exact h
  ·rw [show x + (y - x) = y by omega] at h; omega
 have hz4 : z + 1 = y ∨ at8 w (z + 1) < at8 w y := by
  by_cases e : z + 1 = y
  ·exact .inl e
  ·have := at8_ne hw' (show z + 1 < n by omega) hy e
   exact .inr (by omega)
 have one : ∀ r, Pre n r w → at8 r y < at8 r x → at8 r (z + 1) < at8 r z := by
  intro r hr cr
  have h1 : at8 r x ≤ at8 r z := by
   by_cases e : x = z
   ·rw [e]; exact Int.le_refl _
   ·rcases Int.lt_or_le (at8 r z) (at8 r x) with h | h
    ·have := hr x z (by omega) (by omega) h; omega
    ·exact h
  have h2 : at8 r (z + 1) ≤ at8 r y := by
   rcases hz4 with e | e
   ·rw [e]; exact Int.le_refl _
   ·rcases Int.lt_or_le (at8 r y) (at8 r (z + 1)) with h | h
    ·by_cases e2 : z + 1 = y
     ·rw [e2]; exact Int.le_refl _
     ·have := hr (z + 1) y (by omega) hy h; omega
    ·exact h
  omega
 exact ⟨z, by omega, one p hp cp, one q hq cq⟩

/-- Two braids are weighed. -/
def Wgt (n : Nat) (a x : List Int) : Prop := weightB n a x = true

theorem wgt_iff {n : Nat} {a x : List Int} : Wgt n a x ↔ ∀ k, k + 1 < n → at8 x (k + 1) < at8 x k → ¬ at8 (backR n a) k < at8 (backR n a) (k + 1) := by
 unfold Wgt
 rw [weightB_iff]
 exact ⟨fun h k hk h1 h2 => h k hk ⟨h1, h2⟩, fun h k hk h1 => h k hk h1.1 h1.2⟩

theorem weighF_done {n : Nat} (f : Nat) {b x : List Int} (hx : Sim n x) (hf : far x < f) : firstB (mov (weighF n f b x).1 (weighF n f b x).2) (n - 1) 0 = none := by
 induction f generalizing b x with
 | zero => omega
 | succ f ih =>
  unfold weighF
  cases hc : firstB (mov b x) (n - 1) 0 with
  | none => exact hc
  | some k =>
   obtain ⟨_, h2, h3, _⟩ := firstB_some hc
   have hk : k + 1 < n := by omega
   have hl := far_less hx hk ((mov_iff _ _ _).1 h3).1
   exact ih (thenR_sim (exR_sim n k hx.hi hk) hx) (by omega)

/-- Weighing ends with what is weighed. -/
theorem meet_done {n : Nat} {a x : List Int} (ha : Sim n a) (hx : Sim n x) : Wgt n (thenR n a (meetR n (comR n a) x)) (thenR n (backR n (meetR n (comR n a) x)) x) := by
 obtain ⟨e1, e2⟩ := weighR_meet ha hx
 have hd := weighF_done 200 (b := backR n a) hx (by have := far_le hx; omega)
 unfold Wgt weightB
 rw [← e1, ← e2, back_backR (weighR_sim (backR_sim ha) hx).1]
 unfold weighR
 rw [hd]
 rfl

/-- What is weighed has nothing to move. -/
theorem meet_none {n : Nat} {a x : List Int} (ha : Sim n a) (h : Wgt n a x) : meetR n (comR n a) x = sameR n := by
 have hc : firstB (mov (backR n a) x) (n - 1) 0 = none := by
  unfold Wgt weightB at h
  simpa using h
 have := ha.lo
 unfold meetR
 rw [takeR_none]
 ·rfl
 ·unfold comR
  rw [common_mov (backR_sim ha) (n - 1) 0 (by omega), hc]

/-- After c is weighed behind b, and what became of b behind a, what is left of b is weighed with what is left of c. -/
theorem domino {n : Nat} {a b m c' : List Int} (ha : Sim n a) (hb : Sim n b) (hm : Sim n m) (hab : Wgt n a b) (h1 : Pre n m (comR n b)) (h2 : Pre n m (thenR n m c')) (h3 : Wgt n (thenR n b m) c') :
  Wgt n (thenR n (backR n (meetR n (comR n a) (thenR n b m))) (thenR n b m)) c' := by
 have hw := thenR_sim hb hm
 have hp := meetR_sim ha.lo ha.hi (comR n a) (thenR n b m)
 have p1 := meet_pre1 ha.lo ha.hi (comR n a) (thenR n b m)
 have p2 := meet_pre2 ha.lo ha.hi (comR n a) (thenR n b m)
 obtain ⟨p, ep⟩ : ∃ p, p = meetR n (comR n a) (thenR n b m) := ⟨_, rfl⟩
 rw [← ep] at hp p1 p2 ⊢
 have hr := thenR_sim (backR_sim hp) hw
 rw [wgt_iff] at h3 hab ⊢
 intro k hk hbeg hend
 have e3 := h3 k hk hbeg
 obtain ⟨x, hx, bx, wx⟩ := back_at hw (k + 1) hk
 obtain ⟨y, hy, b_y, wy⟩ := back_at hw k (by omega)
 have hne : x ≠ y := fun e => by subst e; omega
 have hxy : x < y := by omega
 -- the strands cross in p
 have inp : ∀ (z v : Nat), z < n → v < n → at8 (thenR n b m) z = (v : Int) → at8 (backR n (thenR n (backR n p) (thenR n b m))) v = at8 p z := by
  intro z v hz hv e
  have q1 := hp.bd z hz
  have h9 : at8 (thenR n (backR n p) (thenR n b m)) (at8 p z).toNat = (v : Int) := by
   rw [at8_then, if_pos (by omega), at8_back hp z hz, Int.toNat_natCast, e]
  have := at8_back hr (at8 p z).toNat (by omega)
  rw [h9, Int.toNat_natCast] at this
  rw [this]
  omega
 have cp : at8 p y < at8 p x := by
  rw [inp x (k + 1) hx hk wx, inp y k hy (by omega) wy] at hend
  exact hend
 -- the strands cross in b
 have cb : at8 b y < at8 b x := by
  have d1 := hb.bd x hx
  have d2 := hb.bd y hy
  have hbn := at8_ne hb hx hy hne
  rcases Int.lt_or_le (at8 b y) (at8 b x) with h | h
  ·exact h
  ·exfalso
   rw [at8_then, if_pos hx] at wx
   rw [at8_then, if_pos hy] at wy
   have := h2 (at8 b x).toNat (at8 b y).toNat (by omega) (by omega) (by omega)
   rw [at8_then, at8_then, if_pos (by omega), if_pos (by omega), wx, wy, Int.toNat_natCast, show (((k + 1 : Nat) : Int)).toNat = k + 1 by omega] at this
   omega
 obtain ⟨z, hz, z1, z2⟩ := first_common p2 (pre_then hb hm h1) hxy hy (by omega) hw cp cb
 have := p1 z (z + 1) (by omega) hz z1
 rw [com_at ha _ hz, com_at ha _ (by omega)] at this
 exact hab z hz z2 (by omega)

/-- One braid is weighed behind another. -/
def both (n : Nat) (a x : List Int) : List Int × List Int := (thenR n a (meetR n (comR n a) x), thenR n (backR n (meetR n (comR n a) x)) x)

theorem both_sim {n : Nat} {a x : List Int} (ha : Sim n a) (hx : Sim n x) : Sim n (both n a x).1 ∧ Sim n (both n a x).2 :=
 ⟨thenR_sim ha (meetR_sim ha.lo ha.hi _ _), thenR_sim (backR_sim (meetR_sim ha.lo ha.hi _ _)) hx⟩

/-- The list, read from its end, with one more braid that is weighed towards its beginning. -/
def sweep (n : Nat) : List (List Int) → List Int → List (List Int)
 | [], x => [x]
 | a :: l, x => (both n a x).2 :: sweep n l (both n a x).1

/-- Read from its end, each braid is weighed with the one ahead of it. -/
def Chain (n : Nat) : List (List Int) → Prop
 | [] => True
 | [_] => True
 | x :: a :: l => Wgt n a x ∧ Chain n (a :: l)

def Sims (n : Nat) (l : List (List Int)) : Prop := ∀ x ∈ l, Sim n x

theorem Chain.tail {n : Nat} {x : List Int} {l : List (List Int)} (h : Chain n (x :: l)) : Chain n l := by
 cases l with
 | nil => trivial
 | cons a l => exact h.2

theorem sweep_len (n : Nat) (l : List (List Int)) (x : List Int) : (sweep n l x).length = l.length + 1 := by
 induction l generalizing x with
 | nil => rfl
 | cons a l ih => simp [sweep, ih]

theorem sweep_sims {n : Nat} {l : List (List Int)} {x : List Int} (hl : Sims n l) (hx : Sim n x) : Sims n (sweep n l x) := by
 induction l generalizing x with
 | nil => intro y hy; rw [List.mem_singleton.1 hy]; exact hx
 | cons a l ih =>
  intro y hy
  obtain ⟨b1, b2⟩ := both_sim (hl a (by simp)) hx
  rcases List.mem_cons.1 hy with rfl | hy
  ·exact b2
  ·exact ih (fun z hz => hl z (by simp [hz])) b1 y hy

theorem back_then_then {n : Nat} {p w : List Int} (hp : Sim n p) (hw : Sim n w) : thenR n p (thenR n (backR n p) w) = w := by
 rw [← thenR_then _ _ _ hp, then_back hp, same_then hw]

/-- What follows a sweep stays weighed. -/
theorem sweep_on {n : Nat} {l : List (List Int)} {b m c' : List Int} (hl : Sims n l) (hb : Sim n b) (hm : Sim n m) (hch : Chain n (b :: l)) (h1 : Pre n m (comR n b)) (h2 : Pre n m (thenR n m c')) (h3 : Wgt n (thenR n b m) c') :
  Chain n (c' :: sweep n l (thenR n b m)) := by
 induction l generalizing b m c' with
 | nil => exact ⟨h3, trivial⟩
 | cons a l ih =>
  have ha := hl a (by simp)
  have hw := thenR_sim hb hm
  have hp := meetR_sim ha.lo ha.hi (comR n a) (thenR n b m)
  refine ⟨domino ha hb hm hch.1 h1 h2 h3, ih (b := a) (m := meetR n (comR n a) (thenR n b m)) (fun z hz => hl z (by simp [hz])) ha hp hch.2 (meet_pre1 ha.lo ha.hi _ _) ?_ (meet_done ha hw)⟩
  show Pre n _ (thenR n (meetR n (comR n a) (thenR n b m)) (thenR n (backR n (meetR n (comR n a) (thenR n b m))) (thenR n b m)))
  rw [back_then_then hp hw]
  exact meet_pre2 ha.lo ha.hi _ _

/-- One sweep over what was weighed leaves all weighed. -/
theorem sweep_chain {n : Nat} {l : List (List Int)} {x : List Int} (hl : Sims n l) (hx : Sim n x) (hch : Chain n l) : Chain n (sweep n l x) := by
 cases l with
 | nil => trivial
 | cons a l =>
  have ha := hl a (by simp)
  have hp := meetR_sim ha.lo ha.hi (comR n a) x
  refine sweep_on (fun z hz => hl z (by simp [hz])) ha hp hch (meet_pre1 ha.lo ha.hi _ _) ?_ (meet_done ha hx)
  show Pre n _ (thenR n (meetR n (comR n a) x) (thenR n (backR n (meetR n (comR n a) x)) x))
  rw [back_then_then hp hx]
  exact meet_pre2 ha.lo ha.hi _ _

theorem both_wgt {n : Nat} {a x : List Int} (ha : Sim n a) (hx : Sim n x) (h : Wgt n a x) : both n a x = (a, x) := by
 have hs := sameR_sim n ha.lo ha.hi
 have hbs : backR n (sameR n) = sameR n := by
  have := back_then_self hs
  rwa [then_same (backR_sim hs)] at this
 unfold both
 rw [meet_none ha h, hbs, then_same ha, same_then hx]

/-- What is weighed already stays as it is. -/
theorem sweep_same {n : Nat} {l : List (List Int)} {x : List Int} (hl : Sims n l) (hx : Sim n x) (hch : Chain n (x :: l)) : sweep n l x = x :: l := by
 induction l generalizing x with
 | nil => rfl
 | cons a l ih =>
  have ha := hl a (by simp)
  unfold sweep
  rw [both_wgt ha hx hch.1, ih (fun z hz => hl z (by simp [hz])) ha hch.2]

/-- If the first one stays, both stay. -/
theorem both_same {n : Nat} {a x : List Int} (ha : Sim n a) (hx : Sim n x) (h : (both n a x).1 = a) : both n a x = (a, x) := by
 have hm := meetR_sim ha.lo ha.hi (comR n a) x
 have e : meetR n (comR n a) x = sameR n := by
  have h2 : thenR n a (meetR n (comR n a) x) = a := h
  have := congrArg (thenR n (backR n a)) h2
  rwa [← thenR_then _ _ _ (backR_sim ha), back_then_self ha, same_then hm] at this
 have hs := sameR_sim n ha.lo ha.hi
 have hbs : backR n (sameR n) = sameR n := by
  have := back_then_self hs
  rwa [then_same (backR_sim hs)] at this
 unfold both
 rw [e, hbs, then_same ha, same_then hx]

end Go.Proofs.Ytpkhddndapcpjaa

/- One pass of weighing over the rows of a list, place by place: plain functions and lemmas. No program is spoken of. -/
namespace Go.Proofs.Ytpkhddndapcpjaa

/-- The pass has come to the place j: what is ahead of it is as it was, what is behind it is done. -/
def PassAt (n : Nat) (l : List (List Int)) (x : List Int) (rows : List (List Int)) (j : Nat) : Prop :=
 rows.length = l.length + 1 ∧ j ≤ l.length ∧ (∀ t, t < j → rowAt rows t = rowAt l t) ∧ sweep n l.reverse x = (rows.drop (j + 1)).reverse ++ sweep n (l.take j).reverse (rowAt rows j)

theorem pass_start (n : Nat) (l : List (List Int)) (x : List Int) : PassAt n l x (l ++ [x]) l.length := by
 refine ⟨by simp, Nat.le_refl _, fun t ht => ?_, ?_⟩
 ·simp [rowAt, List.getD, List.getElem?_append_left ht]
 ·rw [List.drop_of_length_le (by simp), List.take_length]
  simp [rowAt, List.getD]

theorem pass_end {n : Nat} {l : List (List Int)} {x : List Int} {rows : List (List Int)} (h : PassAt n l x rows 0) : rows.reverse = sweep n l.reverse x := by
 obtain ⟨h1, _, _, h4⟩ := h
 rw [h4]
 cases rows with
 | nil => simp at h1
 | cons r rs => simp [rowAt, sweep]

theorem rowAt_lt {rs : List (List Int)} {j : Nat} (h : j < rs.length) : rowAt rs j = rs[j] := by simp [rowAt, List.getD, h]

theorem pass_step {n : Nat} {l : List (List Int)} {x : List Int} {rows : List (List Int)} {j : Nat} (h : PassAt n l x rows (j + 1)) :
  PassAt n l x ((rows.set j (both n (rowAt rows j) (rowAt rows (j + 1))).1).set (j + 1) (both n (rowAt rows j) (rowAt rows (j + 1))).2) j := by
 obtain ⟨h1, h2, h3, h4⟩ := h
 refine ⟨by simp [h1], by omega, fun t ht => ?_, ?_⟩
 ·rw [← h3 t (by omega)]
  simp [rowAt, List.getD, show j + 1 ≠ t by omega, show j ≠ t by omega]
 ·have e1 : (l.take (j + 1)).reverse = rowAt rows j :: (l.take j).reverse := by
   rw [List.take_succ_eq_append_getElem (by omega), List.reverse_append, h3 j (by omega), rowAt_lt (by omega)]
   rfl
  rw [h4, e1]
  have e2 : ∀ b1 b2 : List Int, ((rows.set j b1).set (j + 1) b2).drop (j + 1) = b2 :: rows.drop (j + 1 + 1) := by
   intro b1 b2
   rw [List.drop_eq_getElem_cons (by simp; omega)]
   congr 1
   ·simp
   ·rw [List.drop_set_of_lt (by omega), List.drop_set_of_lt (by omega)]
  have e3 : ∀ b1 b2 : List Int, rowAt ((rows.set j b1).set (j + 1) b2) j = b1 := by
   intro b1 b2
   simp [rowAt, List.getD, show j < rows.length by omega]
  rw [e2, e3]
  simp [sweep]

theorem both_none {n : Nat} {a x : List Int} (ha : Sim n a) (hx : Sim n x) (h : meetR n (comR n a) x = sameR n) : both n a x = (a, x) := by
 refine both_same ha hx ?_
 unfold both
 rw [h, then_same ha]

theorem rows_sims {n : Nat} {rows : List (List Int)} : Sims n rows ↔ ∀ j, j < rows.length → Sim n (rowAt rows j) := by
 constructor
 ·intro h j hj
  rw [rowAt_lt hj]
  exact h _ (List.getElem_mem hj)
 ·intro h x hx
  obtain ⟨j, hj, rfl⟩ := List.getElem_of_mem hx
  have := h j hj
  rwa [rowAt_lt hj] at this

theorem set_sims {n : Nat} {rows : List (List Int)} (h : Sims n rows) {j : Nat} {r : List Int} (hr : Sim n r) : Sims n (rows.set j r) := by
 intro x hx
 rcases List.mem_or_eq_of_mem_set hx with hx | rfl
 ·exact h x hx
 ·exact hr

/-- All neighbours are weighed, place by place. -/
theorem chain_at {n : Nat} {rows : List (List Int)} (h : Chain n rows.reverse) (j : Nat) (hj : j + 1 < rows.length) : Wgt n (rowAt rows j) (rowAt rows (j + 1)) := by
 have key : ∀ (l : List (List Int)), Chain n l → ∀ t, t + 1 < l.length → Wgt n (rowAt l (t + 1)) (rowAt l t) := by
  intro l
  induction l with
  | nil => intro _ t ht; simp at ht
  | cons x l ih =>
   intro hc t ht
   cases l with
   | nil => simp at ht
   | cons a l =>
    cases t with
    | zero => exact hc.1
    | succ t => exact ih hc.2 t (by simpa using ht)
 have e : ∀ t, t < rows.length → rowAt rows.reverse t = rowAt rows (rows.length - 1 - t) := by
  intro t ht
  rw [rowAt_lt (by simpa using ht), rowAt_lt (by omega), List.getElem_reverse]
 have := key rows.reverse h (rows.length - 2 - j) (by simp; omega)
 rw [e _ (by omega), e _ (by omega), show rows.length - 1 - (rows.length - 2 - j + 1) = j by omega, show rows.length - 1 - (rows.length - 2 - j) = j + 1 by omega] at this
 exact this

end Go.Proofs.Ytpkhddndapcpjaa

/- Simple braids act from the left on lists of simple braids; each list has one weighed form: plain functions and lemmas. No program is spoken of. -/
namespace Go.Proofs.Ytpkhddndapcpjaa

theorem num_at {n : Nat} {s : List Int} (h : Sim n s) {x : Nat} (hx : x < n) : ∃ v : Nat, v < n ∧ at8 s x = (v : Int) := by
 have := h.bd x hx
 exact ⟨(at8 s x).toNat, by omega, by omega⟩

theorem then_num {n : Nat} {a : List Int} (b : List Int) {x v : Nat} (hx : x < n) (e : at8 a x = (v : Int)) : at8 (thenR n a b) x = at8 b v := by
 rw [at8_then, if_pos hx, e, Int.toNat_natCast]

/-- What makes the braid longer is a beginning of the complement. -/
theorem pre_com {n : Nat} {b m : List Int} (hb : Sim n b) (h : Pre n b (thenR n b m)) : Pre n m (comR n b) := by
 intro i j hij hj hm
 obtain ⟨u, hu, bu, eu⟩ := back_at hb i (by omega)
 obtain ⟨v, hv, bv, ev⟩ := back_at hb j hj
 rw [com_at hb _ hj, com_at hb _ (by omega), bu, bv]
 rcases Nat.lt_trichotomy u v with h1 | h1 | h1
 ·omega
 ·subst h1; omega
 ·have := h v u h1 hu (by omega)
  rw [then_num m hu eu, then_num m hv ev] at this
  omega

theorem pre_left {n : Nat} {a x y : List Int} (ha : Sim n a) (h2 : Pre n a (thenR n a y)) (h : Pre n x y) : Pre n (thenR n a x) (thenR n a y) := by
 intro u v huv hv hx
 obtain ⟨i, hi, ei⟩ := num_at ha (show u < n by omega)
 obtain ⟨j, hj, ej⟩ := num_at ha hv
 by_cases hc : at8 a v < at8 a u
 ·exact h2 u v huv hv hc
 ·rw [then_num _ hv ej, then_num _ (by omega) ei] at hx ⊢
  have hne := at8_ne ha (show u < n by omega) hv (by omega)
  exact h i j (by omega) hj hx

theorem pre_cancel {n : Nat} {a x y : List Int} (ha : Sim n a) (h1 : Pre n a (thenR n a x)) (h : Pre n (thenR n a x) (thenR n a y)) : Pre n x y := by
 intro i j hij hj hx
 obtain ⟨u, hu, _, eu⟩ := back_at ha i (by omega)
 obtain ⟨v, hv, _, ev⟩ := back_at ha j hj
 rcases Nat.lt_trichotomy u v with h3 | h3 | h3
 ·have := h u v h3 hv (by rw [then_num _ hv ev, then_num _ hu eu]; exact hx)
  rwa [then_num _ hv ev, then_num _ hu eu] at this
 ·subst h3; omega
 ·have := h1 v u h3 hu (by omega)
  rw [then_num _ hv ev, then_num _ hu eu] at this
  omega

theorem pre_antisymm {n : Nat} {x y : List Int} (hx : Sim n x) (hy : Sim n y) (h1 : Pre n x y) (h2 : Pre n y x) : x = y := by
 have hr := thenR_sim (backR_sim hx) hy
 have e : thenR n (backR n x) y = sameR n := by
  refine sorted_same hr fun i j hij hj => ?_
  obtain ⟨u, hu, bu, eu⟩ := back_at hx i (by omega)
  obtain ⟨v, hv, bv, ev⟩ := back_at hx j hj
  rw [then_num y hj bv, then_num y (by omega) bu]
  rcases Nat.lt_trichotomy u v with h3 | h3 | h3
  ·rcases Int.lt_or_le (at8 y v) (at8 y u) with h4 | h4
   ·have := h2 u v h3 hv h4; omega
   ·exact h4
  ·subst h3; exact Int.le_refl _
  ·have := h1 v u h3 hu (by omega)
   omega
 have := back_then_then hx hy
 rw [e, then_same hx] at this
 exact this

/-- Two strands are led to a crossing by crossings of q and of m. -/
inductive Tc (n : Nat) (q m : List Int) : Nat → Nat → Prop
 | one {u v : Nat} : u < v → v < n → (at8 q v < at8 q u ∨ at8 m v < at8 m u) → Tc n q m u v
 | step {u w v : Nat} : u < w → (at8 q w < at8 q u ∨ at8 m w < at8 m u) → Tc n q m w v → Tc n q m u v

theorem Tc.lt {n : Nat} {q m : List Int} {u v : Nat} (h : Tc n q m u v) : u < v ∧ v < n := by
 induction h with
 | one h1 h2 _ => exact ⟨h1, h2⟩
 | step h1 _ _ ih => exact ⟨by omega, ih.2⟩

theorem Tc.inn {n : Nat} {q m a : List Int} (hq : Pre n q a) (hm : Pre n m a) {u v : Nat} (h : Tc n q m u v) : at8 a v < at8 a u := by
 have key : ∀ u w, u < w → w < n → (at8 q w < at8 q u ∨ at8 m w < at8 m u) → at8 a w < at8 a u := fun u w h1 h2 h3 => h3.elim (hq u w h1 h2) (hm u w h1 h2)
 induction h with
 | one h1 h2 h3 => exact key _ _ h1 h2 h3
 | step h1 h2 h3 ih =>
  have := h3.lt
  have := key _ _ h1 (by omega) h2
  omega

theorem Tc.trans {n : Nat} {q m : List Int} {u w v : Nat} (h : Tc n q m u w) (h2 : Tc n q m w v) : Tc n q m u v := by
 induction h with
 | one h1 _ h3 => exact .step h1 h3 h2
 | step h1 h3 _ ih => exact .step h1 h3 (ih h2)

theorem Tc.mid {n : Nat} {q m : List Int} {u v : Nat} (h : Tc n q m u v) {z : Nat} (h1 : u < z) (h2 : z < v) : Tc n q m u z ∨ Tc n q m z v := by
 have key : ∀ u w, z < w → (at8 q w < at8 q u ∨ at8 m w < at8 m u) → (at8 q z < at8 q u ∨ at8 m z < at8 m u) ∨ (at8 q w < at8 q z ∨ at8 m w < at8 m z) := by
  intro u w _ h3
  rcases h3 with h3 | h3 <;> omega
 induction h with
 | @one u v h3 h4 h5 =>
  rcases key u v h2 h5 with h | h
  ·exact .inl (.one h1 (by omega) h)
  ·exact .inr (.one h2 h4 h)
 | @step u w v h3 h5 h6 ih =>
  have := h6.lt
  rcases Nat.lt_trichotomy z w with h | h | h
  ·rcases key u w h h5 with h7 | h7
   ·exact .inl (.one h1 (by omega) h7)
   ·exact .inr (.step h h7 h6)
  ·subst h; exact .inr h6
  ·rcases ih h h2 with h7 | h7
   ·exact .inl (.step h3 h5 h7)
   ·exact .inr h7

/-- The meet of the complement of a and x. -/
def mt (n : Nat) (a x : List Int) : List Int := meetR n (comR n a) x

theorem mt_sim {n : Nat} {a : List Int} (ha : Sim n a) (x : List Int) : Sim n (mt n a x) := meetR_sim ha.lo ha.hi _ _
theorem mt_pre1 {n : Nat} {a : List Int} (ha : Sim n a) (x : List Int) : Pre n (mt n a x) (comR n a) := meet_pre1 ha.lo ha.hi _ _
theorem mt_pre2 {n : Nat} {a : List Int} (ha : Sim n a) (x : List Int) : Pre n (mt n a x) x := meet_pre2 ha.lo ha.hi _ _

theorem mt_glb {n : Nat} {a x q : List Int} (ha : Sim n a) (hx : Sim n x) (hq : Pre n q (comR n a)) (hq2 : Pre n q x) : Pre n q (mt n a x) := by
 have hm := mt_sim ha x
 have p1 := mt_pre1 ha x
 have p2 := mt_pre2 ha x
 have D0 := meet_done ha hx
 rw [show meetR n (comR n a) x = mt n a x from rfl] at D0
 obtain ⟨m, em⟩ : ∃ m, m = mt n a x := ⟨_, rfl⟩
 rw [← em] at hm p1 p2 D0 ⊢
 rw [wgt_iff, back_then ha hm] at D0
 have D : ∀ u v, u < n → v < n → at8 m v = at8 m u + 1 → at8 x v < at8 x u → ¬ at8 (comR n a) v < at8 (comR n a) u := by
  intro u v hu hv e h1 h2
  obtain ⟨k, hk, ek⟩ := num_at hm hu
  have ev : at8 m v = ((k + 1 : Nat) : Int) := by omega
  have hk1 : k + 1 < n := by have := hm.bd v hv; omega
  have bu : at8 (backR n m) k = (u : Int) := by have := at8_back hm u hu; rw [ek, Int.toNat_natCast] at this; exact this
  have bv : at8 (backR n m) (k + 1) = (v : Int) := by have := at8_back hm v hv; rw [ev, Int.toNat_natCast] at this; exact this
  refine D0 k hk1 ?_ ?_
  ·rw [then_num _ hk1 bv, then_num _ hk bu]; exact h1
  ·rw [then_num _ hk1 bv, then_num _ hk bu]
   rw [com_at ha _ hv, com_at ha _ hu] at h2
   omega
 have key : ∀ d : Nat, ∀ u v, Tc n q m u v → at8 m u < at8 m v → at8 m v - at8 m u ≤ d → False := by
  intro d
  induction d with
  | zero => intro u v _ h1 h2; omega
  | succ d ih =>
   intro u v ht h1 h2
   have hl := ht.lt
   have hu : u < n := by omega
   by_cases e : at8 m v = at8 m u + 1
   ·exact D u v hu hl.2 e (ht.inn hq2 p2) (ht.inn hq p1)
   ·obtain ⟨k, hk, ek⟩ := num_at hm hu
    have hv := hm.bd v hl.2
    obtain ⟨z, hz, _, ez⟩ := back_at hm (k + 1) (by omega)
    have ez2 : at8 m z = at8 m u + 1 := by omega
    have adj : ∀ {z}, at8 m z = at8 m u + 1 → Tc n q m u z → False := fun e h => D u _ hu h.lt.2 e (h.inn hq2 p2) (h.inn hq p1)
    rcases Nat.lt_trichotomy z u with h3 | h3 | h3
    ·exact ih z v ((Tc.one h3 hu (.inr (by omega))).trans ht) (by omega) (by omega)
    ·subst h3; omega
    ·rcases Nat.lt_trichotomy z v with h4 | h4 | h4
     ·rcases ht.mid h3 h4 with h5 | h5
      ·exact adj ez2 h5
      ·exact ih z v h5 (by omega) (by omega)
     ·subst h4; omega
     ·exact adj ez2 (ht.trans (Tc.one h4 hz (.inr (by omega))))
 intro i j hij hj h
 have hne := at8_ne hm (show i < n by omega) hj (by omega)
 rcases Int.lt_or_le (at8 m j) (at8 m i) with h1 | h1
 ·exact h1
 ·exact (key (at8 m j - at8 m i).toNat i j (.one hij hj (.inl h)) (by omega) (by omega)).elim

theorem mt_eq {n : Nat} {a x m : List Int} (ha : Sim n a) (hx : Sim n x) (hm : Sim n m) (h1 : Pre n m (comR n a)) (h2 : Pre n m x) (h3 : ∀ q, Sim n q → Pre n q (comR n a) → Pre n q x → Pre n q m) : mt n a x = m :=
 pre_antisymm (mt_sim ha x) hm (h3 _ (mt_sim ha x) (mt_pre1 ha x) (mt_pre2 ha x)) (mt_glb ha hx h1 h2)

theorem Pre.trans {n : Nat} {a b c : List Int} (h1 : Pre n a b) (h2 : Pre n b c) : Pre n a c := fun i j hij hj h => h2 i j hij hj (h1 i j hij hj h)

theorem both_mt (n : Nat) (a x : List Int) : both n a x = (thenR n a (mt n a x), thenR n (backR n (mt n a x)) x) := rfl

/-- The product of both is short. -/
def Short (n : Nat) (a b : List Int) : Prop := Pre n a (thenR n a b)

theorem both_short {n : Nat} {a x : List Int} (ha : Sim n a) (_hx : Sim n x) : Short n a (mt n a x) := pre_then ha (mt_sim ha x) (mt_pre1 ha x)

theorem both_short2 {n : Nat} {a x : List Int} (ha : Sim n a) (hx : Sim n x) : Short n (mt n a x) (thenR n (backR n (mt n a x)) x) := by
 unfold Short
 rw [back_then_then (mt_sim ha x) hx]
 exact mt_pre2 ha x

theorem back_cancel {n : Nat} {a x : List Int} (ha : Sim n a) (hx : Sim n x) : thenR n (backR n a) (thenR n a x) = x := by
 rw [← thenR_then _ _ _ (backR_sim ha), back_then_self ha, same_then hx]

/-- The step of the law: a short product acts at once, or its parts one after the other. -/
theorem both_law {n : Nat} {a b f : List Int} (ha : Sim n a) (hb : Sim n b) (hf : Sim n f) (hab : Short n a b) :
  ∃ r, Sim n r ∧ (both n (thenR n a b) f).1 = (both n a (both n b f).1).1
   ∧ (both n a (both n b f).1).2 = r ∧ Short n r (both n b f).2 ∧ (both n (thenR n a b) f).2 = thenR n r (both n b f).2 := by
 have hm := mt_sim hb f
 have sm := both_short hb hf
 have sc := both_short2 hb hf
 have pf := mt_pre2 hb f
 rw [both_mt n b f]
 obtain ⟨m, em⟩ : ∃ m, m = mt n b f := ⟨_, rfl⟩
 rw [← em] at hm sm sc pf ⊢
 have he := thenR_sim hb hm
 have hn := mt_sim ha (thenR n b m)
 have n1 := mt_pre1 ha (thenR n b m)
 have n2 := mt_pre2 ha (thenR n b m)
 have hg := fun q h1 h2 => mt_glb (q := q) ha he h1 h2
 simp only []
 rw [both_mt n a]
 obtain ⟨k, ek⟩ : ∃ k, k = mt n a (thenR n b m) := ⟨_, rfl⟩
 rw [← ek] at hn n1 n2 hg ⊢
 have hbk : Pre n b k := hg b (pre_com ha hab) sm
 obtain ⟨c, ec⟩ : ∃ c, c = thenR n (backR n b) k := ⟨_, rfl⟩
 have hc : Sim n c := by rw [ec]; exact thenR_sim (backR_sim hb) hn
 have ekc : thenR n b c = k := by rw [ec]; exact back_then_then hb hn
 have sbc : Short n b c := by unfold Short; rw [ekc]; exact hbk
 have hcm : Pre n c m := pre_cancel hb sbc (by rw [ekc]; exact n2)
 have sak : Short n a k := pre_then ha hn n1
 have hsab := thenR_sim ha hb
 have e3 : mt n (thenR n a b) f = c := by
  refine mt_eq hsab hf hc ?_ (hcm.trans pf) ?_
  ·refine pre_com hsab ?_
   rw [thenR_then _ _ _ ha, ekc]
   exact pre_left ha sak hbk
  ·intro q hq q1 q2
   have s1 : Short n (thenR n a b) q := pre_then hsab hq q1
   have s2 : Short n a (thenR n b q) := by
    unfold Short
    rw [← thenR_then _ _ _ ha]
    exact hab.trans s1
   have s3 : Short n b q := by
    refine pre_cancel ha hab ?_
    rw [← thenR_then _ _ _ ha]
    exact s1
   have q3 : Pre n q m := by rw [em]; exact mt_glb hb hf (pre_com hb s3) q2
   have q4 : Pre n (thenR n b q) (thenR n b m) := pre_left hb sm q3
   have q5 := hg _ (pre_com ha s2) q4
   rw [← ekc] at q5
   exact pre_cancel hb s3 q5
 have e4 : thenR n (backR n k) (thenR n b m) = thenR n (backR n c) m := by
  rw [← ekc, back_then hb hc, thenR_then _ _ _ (backR_sim hc), back_cancel hb hm]
 refine ⟨thenR n (backR n c) m, thenR_sim (backR_sim hc) hm, ?_, e4, ?_, ?_⟩
 ·rw [both_mt, e3, thenR_then _ _ _ ha, ekc]
 ·unfold Short
  have hr := thenR_sim (backR_sim hc) hm
  refine pre_cancel hc (x := thenR n (backR n c) m) ?_ ?_
  ·rw [back_then_then hc hm]; exact hcm
  ·rw [back_then_then hc hm, thenR_then _ _ _ (backR_sim hc), back_then_then hm hf, back_then_then hc hf]; exact pf
 ·rw [both_mt, e3]
  show thenR n (backR n c) f = _
  rw [thenR_then _ _ _ (backR_sim hc), back_then_then hm hf]

/-- A simple braid ahead of a list. -/
def act (n : Nat) : List Int → List (List Int) → List (List Int)
 | s, [] => if s = sameR n then [] else [s]
 | s, f :: l => (both n s f).1 :: act n (both n s f).2 l

theorem Sims.head {n : Nat} {f : List Int} {l : List (List Int)} (h : Sims n (f :: l)) : Sim n f := h f (by simp)
theorem Sims.tail {n : Nat} {f : List Int} {l : List (List Int)} (h : Sims n (f :: l)) : Sims n l := fun x hx => h x (by simp [hx])
theorem Sims.cons {n : Nat} {f : List Int} {l : List (List Int)} (h : Sim n f) (h2 : Sims n l) : Sims n (f :: l) := fun x hx => by
 rcases List.mem_cons.1 hx with rfl | hx
 ·exact h
 ·exact h2 x hx
theorem Sims.nil {n : Nat} : Sims n [] := fun x hx => by simp at hx
theorem Sims.app {n : Nat} {l m : List (List Int)} (h : Sims n l) (h2 : Sims n m) : Sims n (l ++ m) := fun x hx => (List.mem_append.1 hx).elim (h x) (h2 x)
theorem Sims.left {n : Nat} {l m : List (List Int)} (h : Sims n (l ++ m)) : Sims n l := fun x hx => h x (by simp [hx])
theorem Sims.right {n : Nat} {l m : List (List Int)} (h : Sims n (l ++ m)) : Sims n m := fun x hx => h x (by simp [hx])

theorem act_sims {n : Nat} {s : List Int} {l : List (List Int)} (hs : Sim n s) (hl : Sims n l) : Sims n (act n s l) := by
 induction l generalizing s with
 | nil => unfold act; split; exact Sims.nil; exact Sims.cons hs Sims.nil
 | cons f l ih =>
  obtain ⟨b1, b2⟩ := both_sim hs hl.head
  exact Sims.cons b1 (ih b2 hl.tail)

theorem mt_same {n : Nat} {s : List Int} (h1 : 1 ≤ n) (h8 : n ≤ 8) (hs : Sim n s) : mt n (sameR n) s = s := by
 have h := sameR_sim n h1 h8
 refine mt_eq h hs hs ?_ (Pre.refl _ _) fun q _ _ h => h
 refine pre_com h ?_
 intro i j hij hj e
 rw [at8_same n i (by omega), at8_same n j hj] at e
 omega

theorem both_one {n : Nat} {s : List Int} (h1 : 1 ≤ n) (h8 : n ≤ 8) (hs : Sim n s) : both n (sameR n) s = (s, sameR n) := by
 rw [both_mt, mt_same h1 h8 hs, same_then hs, back_then_self hs]

theorem act_one {n : Nat} (h1 : 1 ≤ n) (h8 : n ≤ 8) {l : List (List Int)} (hl : Sims n l) : act n (sameR n) l = l := by
 induction l with
 | nil => simp [act]
 | cons f l ih => rw [act, both_one h1 h8 hl.head, ih hl.tail]

theorem both_of_short {n : Nat} {a b : List Int} (ha : Sim n a) (hb : Sim n b) (h : Short n a b) : both n a b = (thenR n a b, sameR n) := by
 have : mt n a b = b := mt_eq ha hb hb (pre_com ha h) (Pre.refl _ _) fun q _ _ h => h
 rw [both_mt, this, back_then_self hb]

theorem pre_one {n : Nat} {a : List Int} (ha : Sim n a) (h : Pre n a (sameR n)) : a = sameR n :=
 pre_antisymm ha (sameR_sim n ha.lo ha.hi) h fun i j hij hj e => by rw [at8_same n i (by omega), at8_same n j hj] at e; omega

theorem act_law {n : Nat} {a b : List Int} {l : List (List Int)} (ha : Sim n a) (hb : Sim n b) (hl : Sims n l) (hab : Short n a b) : act n (thenR n a b) l = act n a (act n b l) := by
 induction l generalizing a b with
 | nil =>
  by_cases e : b = sameR n
  ·subst e
   rw [then_same ha, act_one ha.lo ha.hi Sims.nil]
  ·have e2 : thenR n a b ≠ sameR n := by
    intro e3
    have h1 := hab
    unfold Short at h1
    rw [e3] at h1
    have h2 := pre_one ha h1
    rw [h2, same_then hb] at e3
    exact e e3
   rw [act, if_neg e2, act, if_neg e, act, both_of_short ha hb hab, act, if_pos rfl]
 | cons f l ih =>
  have hf := hl.head
  obtain ⟨r, hr, e1, e2, hs, e3⟩ := both_law ha hb hf hab
  rw [act, act, act, e1, e2, e3, ih hr (both_sim hb hf).2 hl.tail hs]

/-- A move changes nothing. -/
theorem act_both {n : Nat} {a x : List Int} {l : List (List Int)} (ha : Sim n a) (hx : Sim n x) (hl : Sims n l) : act n (both n a x).1 (act n (both n a x).2 l) = act n a (act n x l) := by
 have hm := mt_sim ha x
 have hc := thenR_sim (backR_sim hm) hx
 show act n (thenR n a (mt n a x)) (act n (thenR n (backR n (mt n a x)) x) l) = _
 rw [act_law ha hm (act_sims hc hl) (both_short ha hx), ← act_law hm hc hl (both_short2 ha hx), back_then_then hm hx]

/-- The weighed form of a list, without 'nothing' behind. -/
def nf (n : Nat) (l : List (List Int)) : List (List Int) := l.foldr (act n) []

theorem nf_cons (n : Nat) (x : List Int) (l : List (List Int)) : nf n (x :: l) = act n x (nf n l) := rfl
theorem nf_app (n : Nat) (l m : List (List Int)) : nf n (l ++ m) = l.foldr (act n) (nf n m) := by simp [nf]

theorem nf_sims {n : Nat} {l : List (List Int)} (hl : Sims n l) : Sims n (nf n l) := by
 induction l with
 | nil => exact Sims.nil
 | cons x l ih => exact act_sims hl.head (ih hl.tail)

theorem fold_sims {n : Nat} {l k : List (List Int)} (hl : Sims n l) (hk : Sims n k) : Sims n (l.foldr (act n) k) := by
 induction l with
 | nil => exact hk
 | cons x l ih => exact act_sims hl.head (ih hl.tail)

theorem nf_move {n : Nat} {a x : List Int} {l m : List (List Int)} (ha : Sim n a) (hx : Sim n x) (hm : Sims n m) : nf n (l ++ (both n a x).1 :: (both n a x).2 :: m) = nf n (l ++ a :: x :: m) := by
 rw [nf_app, nf_app, nf_cons, nf_cons, nf_cons, nf_cons, act_both ha hx (nf_sims hm)]

theorem fold_act {n : Nat} {x : List Int} {l k : List (List Int)} (hx : Sim n x) (hl : Sims n l) (hk : Sims n k) : (act n x l).foldr (act n) k = act n x (l.foldr (act n) k) := by
 induction l generalizing x with
 | nil =>
  by_cases e : x = sameR n
  ·subst e
   rw [act, if_pos rfl, List.foldr_nil, act_one hx.lo hx.hi hk]
  ·rw [act, if_neg e, List.foldr_cons]
 | cons f l ih =>
  obtain ⟨b1, b2⟩ := both_sim hx hl.head
  rw [act, List.foldr_cons, ih b2 hl.tail, List.foldr_cons, act_both hx hl.head (fold_sims hl.tail hk)]

theorem fold_nf {n : Nat} {l k : List (List Int)} (hl : Sims n l) (hk : Sims n k) : (nf n l).foldr (act n) k = l.foldr (act n) k := by
 induction l with
 | nil => rfl
 | cons x l ih => rw [nf_cons, fold_act hl.head (nf_sims hl.tail) hk, ih hl.tail]; rfl

theorem nf_left {n : Nat} {l m : List (List Int)} (hl : Sims n l) (hm : Sims n m) : nf n (nf n l ++ m) = nf n (l ++ m) := by
 rw [nf_app, fold_nf hl (nf_sims hm), nf_app]

/-- Each factor is weighed with the next one. -/
def Wl (n : Nat) : List (List Int) → Prop
 | [] => True
 | [_] => True
 | a :: x :: l => Wgt n a x ∧ Wl n (x :: l)

theorem Wl.tail {n : Nat} {x : List Int} {l : List (List Int)} (h : Wl n (x :: l)) : Wl n l := by
 cases l with
 | nil => trivial
 | cons a l => exact h.2

theorem wl_at {n : Nat} {l : List (List Int)} : Wl n l ↔ ∀ j, j + 1 < l.length → Wgt n (rowAt l j) (rowAt l (j + 1)) := by
 induction l with
 | nil => simp [Wl]
 | cons a l ih =>
  cases l with
  | nil => simp [Wl]
  | cons x l =>
   constructor
   ·intro h j hj
    cases j with
    | zero => exact h.1
    | succ j => exact (ih.1 h.2) j (by simpa using hj)
   ·intro h
    exact ⟨h 0 (by simp), ih.2 fun j hj => h (j + 1) (by simp at hj ⊢; omega)⟩

theorem wl_of_chain {n : Nat} {l : List (List Int)} (h : Chain n l.reverse) : Wl n l := wl_at.2 (chain_at h)

theorem chain_rev {n : Nat} {l : List (List Int)} (h : Wl n l) : Chain n l.reverse := by
 have key : ∀ (r : List (List Int)), (∀ j, j + 1 < r.length → Wgt n (rowAt r (j + 1)) (rowAt r j)) → Chain n r := by
  intro r
  induction r with
  | nil => intro _; trivial
  | cons x r ih =>
   intro hr
   cases r with
   | nil => trivial
   | cons a r => exact ⟨hr 0 (by simp), ih fun j hj => hr (j + 1) (by simp at hj ⊢; omega)⟩
 refine key _ fun j hj => ?_
 simp at hj
 have e : ∀ t, t < l.length → rowAt l.reverse t = rowAt l (l.length - 1 - t) := by
  intro t ht
  rw [rowAt_lt (by simpa using ht), rowAt_lt (by omega), List.getElem_reverse]
 have := wl_at.1 h (l.length - 2 - j) (by omega)
 rw [e _ (by omega), e _ (by omega), show l.length - 1 - (j + 1) = l.length - 2 - j by omega, show l.length - 1 - j = l.length - 2 - j + 1 by omega]
 exact this

/-- No 'nothing'. -/
def N1 (n : Nat) (l : List (List Int)) : Prop := ∀ x ∈ l, x ≠ sameR n

theorem wgt_one {n : Nat} {x : List Int} (h1 : 1 ≤ n) (h8 : n ≤ 8) (hx : Sim n x) (h : Wgt n (sameR n) x) : x = sameR n := by
 have := meet_none (sameR_sim n h1 h8) h
 rwa [show meetR n (comR n (sameR n)) x = mt n (sameR n) x from rfl, mt_same h1 h8 hx] at this

/-- The list ahead of its first 'nothing'. -/
def cut1 (n : Nat) (l : List (List Int)) : List (List Int) := l.takeWhile fun x => decide (x ≠ sameR n)

theorem nf_wl {n : Nat} : ∀ {l : List (List Int)}, Sims n l → Wl n l → nf n l = cut1 n l
 | [], _, _ => rfl
 | [f], _, _ => by
  by_cases e : f = sameR n
  ·simp [cut1, nf, act, e]
  ·simp [cut1, nf, act, e]
 | f :: g :: l, hl, h => by
  have i1 := nf_wl hl.tail h.tail
  have i2 := nf_wl hl.tail.tail h.tail.tail
  have hf := hl.head
  have hg := hl.tail.head
  have hw := h.1
  rw [nf_cons, i1]
  by_cases e : g = sameR n
  ·subst e
   by_cases e2 : f = sameR n
   ·simp [cut1, act, e2]
   ·simp [cut1, act, e2]
  ·have e2 : f ≠ sameR n := fun e2 => by rw [e2] at hw; exact e (wgt_one hf.lo hf.hi hg hw)
   have e3 : cut1 n (g :: l) = g :: cut1 n l := by simp [cut1, e]
   have e4 : cut1 n (f :: g :: l) = f :: cut1 n (g :: l) := by simp [cut1, e2]
   rw [e4, e3, act, both_wgt hf hg hw]
   rw [← e3, ← i1, nf_cons, i2]

end Go.Proofs.Ytpkhddndapcpjaa

/- Half turns ahead of a list and 'nothing' behind it are taken off: plain functions and lemmas. No program is spoken of. -/
namespace Go.Proofs.Ytpkhddndapcpjaa

/-- How many of the first rows are v. -/
def lead (v : List Int) : List (List Int) → Nat
 | [] => 0
 | r :: rs => if r = v then lead v rs + 1 else 0

theorem lead_le (v : List Int) (rs : List (List Int)) : lead v rs ≤ rs.length := by
 induction rs with
 | nil => simp [lead]
 | cons r rs ih => unfold lead; split <;> simp <;> omega

theorem lead_at (v : List Int) (rs : List (List Int)) (k : Nat) (h : k < lead v rs) : rowAt rs k = v := by
 induction rs generalizing k with
 | nil => simp [lead] at h
 | cons r rs ih =>
  unfold lead at h
  split at h
  ·rename_i e
   cases k with
   | zero => simpa [rowAt] using e
   | succ k => exact ih k (by omega)
  ·omega

theorem lead_end (v : List Int) (rs : List (List Int)) (h : lead v rs < rs.length) : rowAt rs (lead v rs) ≠ v := by
 induction rs with
 | nil => simp at h
 | cons r rs ih =>
  unfold lead at h ⊢
  split
  ·rename_i e
   rw [if_pos e] at h
   exact ih (by simpa using h)
  ·rename_i e
   simpa [rowAt] using e

/-- Where the list begins behind its half turns, and where it ends ahead of 'nothing'. -/
def firstM (n : Nat) (rs : List (List Int)) : Nat := if 1 < n then lead (halfR n) rs else 0
def lastM (n : Nat) (rs : List (List Int)) : Nat := rs.length - lead (sameR n) ((rs.drop (firstM n rs)).reverse)

theorem firstM_le (n : Nat) (rs : List (List Int)) : firstM n rs ≤ rs.length := by
 unfold firstM
 split
 ·exact lead_le _ _
 ·omega

theorem lastM_ge (n : Nat) (rs : List (List Int)) : firstM n rs ≤ lastM n rs := by
 have := lead_le (sameR n) ((rs.drop (firstM n rs)).reverse)
 have := firstM_le n rs
 unfold lastM
 simp at *
 omega

theorem lastM_le (n : Nat) (rs : List (List Int)) : lastM n rs ≤ rs.length := by unfold lastM; omega

/-- What is left. -/
def restM (n : Nat) (rs : List (List Int)) : List (List Int) := (rs.take (lastM n rs)).drop (firstM n rs)

theorem rev_at (rs : List (List Int)) (f k : Nat) (h : f + k < rs.length) : rowAt ((rs.drop f).reverse) k = rowAt rs (rs.length - 1 - k) := by
 rw [rowAt_lt (by simp; omega), rowAt_lt (by omega), List.getElem_reverse, List.getElem_drop]
 congr 1
 simp
 omega

theorem last_at (n : Nat) (rs : List (List Int)) (j : Nat) (h1 : lastM n rs < j) (h2 : j ≤ rs.length) : rowAt rs (j - 1) = sameR n := by
 have hl := lead_le (sameR n) ((rs.drop (firstM n rs)).reverse)
 have hf := firstM_le n rs
 have hg := lastM_ge n rs
 have := lead_at (sameR n) ((rs.drop (firstM n rs)).reverse) (rs.length - j) (by unfold lastM at h1; omega)
 rw [rev_at _ _ _ (by omega)] at this
 rw [← this]
 congr 1
 omega

theorem last_end (n : Nat) (rs : List (List Int)) (h : firstM n rs < lastM n rs) : rowAt rs (lastM n rs - 1) ≠ sameR n := by
 have hl := lead_le (sameR n) ((rs.drop (firstM n rs)).reverse)
 have hf := firstM_le n rs
 have e : lead (sameR n) ((rs.drop (firstM n rs)).reverse) < ((rs.drop (firstM n rs)).reverse).length := by
  unfold lastM at h
  simp at *
  omega
 have := lead_end _ _ e
 have e2 : lead (sameR n) ((rs.drop (firstM n rs)).reverse) < rs.length - firstM n rs := by simpa using e
 rw [rev_at _ _ _ (by omega)] at this
 have e3 : rs.length - 1 - lead (sameR n) ((rs.drop (firstM n rs)).reverse) = lastM n rs - 1 := by unfold lastM; omega
 rw [e3] at this
 exact this

end Go.Proofs.Ytpkhddndapcpjaa

/- Turning simple braids: plain functions and lemmas. No program is spoken of. -/
namespace Go.Proofs.Ytpkhddndapcpjaa

/-- The turn of a simple braid, as the model takes it; and so many turns. -/
def turnR (n : Nat) (s : List Int) : List Int := thenR n (thenR n (halfR n) s) (halfR n)
def turnK (n : Nat) (k : Int) (s : List Int) : List Int := if k % 2 = 0 then s else turnR n s

theorem turnR_sim {n : Nat} {s : List Int} (h : Sim n s) : Sim n (turnR n s) := thenR_sim (thenR_sim (halfR_sim n h.lo h.hi) h) (halfR_sim n h.lo h.hi)

theorem turnK_sim {n : Nat} {s : List Int} (k : Int) (h : Sim n s) : Sim n (turnK n k s) := by
 unfold turnK
 split
 ·exact h
 ·exact turnR_sim h

theorem half_half (n : Nat) (h8 : n ≤ 8) : thenR n (halfR n) (halfR n) = sameR n := by
 refine ext8 (mapR_len _ _ h8) (mapR_len _ _ h8) fun j _ => ?_
 rw [at8_then, sameR, at8_mapR]
 by_cases e : j < n
 ·rw [if_pos e, if_pos e, at8_half n j e, at8_half n _ (by omega)]; omega
 ·rw [if_neg e, if_neg e]

theorem turn_then {n : Nat} {a b : List Int} (ha : Sim n a) (hb : Sim n b) : turnR n (thenR n a b) = thenR n (turnR n a) (turnR n b) := by
 have hh := halfR_sim n ha.lo ha.hi
 have h8 := ha.hi
 unfold turnR
 have e : thenR n (thenR n (halfR n) a) (halfR n) = thenR n (halfR n) (thenR n a (halfR n)) := thenR_then _ _ _ hh
 have e2 : thenR n (thenR n (halfR n) b) (halfR n) = thenR n (halfR n) (thenR n b (halfR n)) := thenR_then _ _ _ hh
 rw [e, e2, thenR_then (halfR n) (thenR n a (halfR n)) _ hh, thenR_then a (halfR n) _ ha, ← thenR_then (halfR n) (halfR n) _ hh, half_half n h8, same_then (thenR_sim hb hh), thenR_then (halfR n) (thenR n a b) _ hh, thenR_then a b _ ha]

theorem turn_turn {n : Nat} {a : List Int} (ha : Sim n a) : turnR n (turnR n a) = a := by
 have hh := halfR_sim n ha.lo ha.hi
 unfold turnR
 rw [← thenR_then _ _ _ hh, ← thenR_then _ _ _ hh, half_half n ha.hi, same_then ha, thenR_then _ _ _ ha, half_half n ha.hi, then_same ha]

theorem turn_half (n : Nat) (h1 : 1 ≤ n) (h8 : n ≤ 8) : turnR n (halfR n) = halfR n := by
 unfold turnR
 rw [half_half n h8, same_then (halfR_sim n h1 h8)]

theorem turn_same (n : Nat) (h1 : 1 ≤ n) (h8 : n ≤ 8) : turnR n (sameR n) = sameR n := by
 unfold turnR
 rw [then_same (halfR_sim n h1 h8), half_half n h8]

theorem turn_inj {n : Nat} {a b : List Int} (ha : Sim n a) (hb : Sim n b) (h : turnR n a = turnR n b) : a = b := by
 rw [← turn_turn ha, h, turn_turn hb]

theorem turn_back {n : Nat} {a : List Int} (ha : Sim n a) : turnR n (backR n a) = backR n (turnR n a) := by
 have hb := backR_sim ha
 have e : thenR n (turnR n a) (turnR n (backR n a)) = sameR n := by rw [← turn_then ha hb, then_back ha, turn_same n ha.lo ha.hi]
 have := congrArg (thenR n (backR n (turnR n a))) e
 rwa [back_cancel (turnR_sim ha) (turnR_sim hb), then_same (backR_sim (turnR_sim ha))] at this

theorem turn_com {n : Nat} {a : List Int} (ha : Sim n a) : turnR n (comR n a) = comR n (turnR n a) := by
 unfold comR
 rw [turn_then (backR_sim ha) (halfR_sim n ha.lo ha.hi), turn_back ha, turn_half n ha.lo ha.hi]

theorem turn_at {n : Nat} {a : List Int} (ha : Sim n a) {i : Nat} (hi : i < n) : at8 (turnR n a) i = (n : Int) - 1 - at8 a (n - 1 - i) := by
 have hh := halfR_sim n ha.lo ha.hi
 unfold turnR
 rw [half_after (thenR_sim hh ha) i hi, at8_then, if_pos hi, at8_half n i hi, show ((n : Int) - 1 - (i : Int)).toNat = n - 1 - i by omega]

theorem turn_pre {n : Nat} {p w : List Int} (hp : Sim n p) (hw : Sim n w) (h : Pre n p w) : Pre n (turnR n p) (turnR n w) := by
 intro i j hij hj e
 rw [turn_at hp hj, turn_at hp (by omega)] at e
 rw [turn_at hw hj, turn_at hw (by omega)]
 have := h (n - 1 - j) (n - 1 - i) (by omega) (by omega) (by omega)
 omega

theorem turn_mt {n : Nat} {a x : List Int} (ha : Sim n a) (hx : Sim n x) : mt n (turnR n a) (turnR n x) = turnR n (mt n a x) := by
 have hm := mt_sim ha x
 have hc : Sim n (comR n a) := thenR_sim (backR_sim ha) (halfR_sim n ha.lo ha.hi)
 refine mt_eq (turnR_sim ha) (turnR_sim hx) (turnR_sim hm) ?_ (turn_pre hm hx (mt_pre2 ha x)) ?_
 ·rw [← turn_com ha]; exact turn_pre hm hc (mt_pre1 ha x)
 ·intro q hq q1 q2
  have h1 := turn_pre hq (by rw [← turn_com ha]; exact turnR_sim hc) q1
  have h2 := turn_pre hq (turnR_sim hx) q2
  rw [← turn_com ha, turn_turn hc] at h1
  rw [turn_turn hx] at h2
  have := turn_pre (turnR_sim hq) hm (mt_glb ha hx h1 h2)
  rwa [turn_turn hq] at this

theorem turn_both {n : Nat} {a x : List Int} (ha : Sim n a) (hx : Sim n x) : both n (turnR n a) (turnR n x) = (turnR n (both n a x).1, turnR n (both n a x).2) := by
 have hm := mt_sim ha x
 rw [both_mt, both_mt, turn_mt ha hx, turn_then ha hm, turn_then (backR_sim hm) hx, turn_back hm]

theorem turns_sims {n : Nat} {l : List (List Int)} (hl : Sims n l) : Sims n (l.map (turnR n)) := by
 intro x hx
 obtain ⟨y, hy, rfl⟩ := List.mem_map.1 hx
 exact turnR_sim (hl y hy)

/-- All of a list, turned so many times. -/
def turns (n : Nat) (k : Int) (l : List (List Int)) : List (List Int) := l.map (turnK n k)

theorem turns_even {n : Nat} {k : Int} (l : List (List Int)) (h : k % 2 = 0) : turns n k l = l := by
 unfold turns
 rw [show (turnK n k) = id from funext fun x => by unfold turnK; rw [if_pos h]; rfl, List.map_id]

theorem turns_odd {n : Nat} {k : Int} (l : List (List Int)) (h : k % 2 ≠ 0) : turns n k l = l.map (turnR n) := by
 unfold turns
 rw [show (turnK n k) = turnR n from funext fun x => by unfold turnK; rw [if_neg h]]

theorem turnsK_sims {n : Nat} {k : Int} {l : List (List Int)} (hl : Sims n l) : Sims n (turns n k l) := by
 by_cases h : k % 2 = 0
 ·rw [turns_even l h]; exact hl
 ·rw [turns_odd l h]; exact turns_sims hl

theorem comR_sim {n : Nat} {s : List Int} (hs : Sim n s) : Sim n (comR n s) := thenR_sim (backR_sim hs) (halfR_sim n hs.lo hs.hi)
end Go.Proofs.Ytpkhddndapcpjaa

/- Normal forms of lists of simple braids: plain functions and lemmas. No program is spoken of. -/
namespace Go.Proofs.Ytpkhddndapcpjaa

theorem wgt_of_both {n : Nat} {a x : List Int} (ha : Sim n a) (hx : Sim n x) (h : (both n a x).1 = a) : Wgt n a x := by
 have e := both_same ha hx h
 have := meet_done ha hx
 rw [show thenR n a (meetR n (comR n a) x) = (both n a x).1 from rfl, show thenR n (backR n (meetR n (comR n a) x)) x = (both n a x).2 from rfl, e] at this
 exact this

theorem both_done {n : Nat} {a x : List Int} (ha : Sim n a) (hx : Sim n x) : Wgt n (both n a x).1 (both n a x).2 := meet_done ha hx

/-- What becomes of the second one and what follows it has its head behind that of the first one. -/
theorem head_back {n : Nat} {s f g : List Int} (hs : Sim n s) (hf : Sim n f) (hg : Sim n g) (h : Wgt n f g) : (both n (mt n s f) (both n (both n s f).2 g).1).1 = f := by
 have hm := mt_sim hs f
 obtain ⟨_, hr⟩ := both_sim hs hf
 have hsh : Short n (mt n s f) (both n s f).2 := both_short2 hs hf
 obtain ⟨_, _, e, _⟩ := both_law hm hr hg hsh
 rw [← e, show thenR n (mt n s f) (both n s f).2 = f from back_then_then hm hf, both_wgt hf hg h]

theorem head_wgt {n : Nat} {s f g : List Int} (hs : Sim n s) (hf : Sim n f) (hg : Sim n g) (h : Wgt n f g) : Wgt n (both n s f).1 (both n (both n s f).2 g).1 := by
 have hm := mt_sim hs f
 obtain ⟨b1, hr⟩ := both_sim hs hf
 obtain ⟨c1, _⟩ := both_sim hr hg
 refine wgt_of_both b1 c1 ?_
 obtain ⟨_, _, e, _⟩ := both_law hs hm c1 (both_short hs hf)
 rw [head_back hs hf hg h] at e
 exact e

theorem act_wl {n : Nat} {s : List Int} {l : List (List Int)} (hs : Sim n s) (hl : Sims n l) (hw : Wl n l) : Wl n (act n s l) := by
 induction l generalizing s with
 | nil => unfold act; split <;> trivial
 | cons f l ih =>
  obtain ⟨b1, b2⟩ := both_sim hs hl.head
  have h1 := ih b2 hl.tail hw.tail
  rw [act]
  cases l with
  | nil =>
   rw [act] at h1 ⊢
   split
   ·trivial
   ·exact ⟨both_done hs hl.head, trivial⟩
  | cons g l =>
   rw [act] at h1 ⊢
   exact ⟨head_wgt hs hl.head hl.tail.head hw.1, h1⟩

theorem then_one {n : Nat} {a m : List Int} (ha : Sim n a) (_hm : Sim n m) (h : Short n a m) (e : thenR n a m = sameR n) : a = sameR n := by
 unfold Short at h
 rw [e] at h
 exact pre_one ha h

theorem both_ne {n : Nat} {s f : List Int} (hs : Sim n s) (hf : Sim n f) (h : f ≠ sameR n) : (both n s f).1 ≠ sameR n := by
 intro e
 have h1 := then_one hs (mt_sim hs f) (both_short hs hf) e
 rw [h1, both_one hs.lo hs.hi hf] at e
 exact h e

theorem act_n1 {n : Nat} {s : List Int} {l : List (List Int)} (hs : Sim n s) (hl : Sims n l) (h : N1 n l) : N1 n (act n s l) := by
 induction l generalizing s with
 | nil =>
  unfold act
  split
  ·intro x hx; simp at hx
  ·rename_i e
   intro x hx
   rw [List.mem_singleton.1 hx]
   exact e
 | cons f l ih =>
  obtain ⟨b1, b2⟩ := both_sim hs hl.head
  rw [act]
  intro x hx
  rcases List.mem_cons.1 hx with rfl | hx
  ·exact both_ne hs hl.head (h f (by simp))
  ·exact ih b2 hl.tail (fun y hy => h y (by simp [hy])) x hx

theorem nf_wgt {n : Nat} {l : List (List Int)} (hl : Sims n l) : Wl n (nf n l) ∧ N1 n (nf n l) := by
 induction l with
 | nil => exact ⟨trivial, fun x hx => by simp [nf] at hx⟩
 | cons x l ih =>
  have h := ih hl.tail
  exact ⟨act_wl hl.head (nf_sims hl.tail) h.1, act_n1 hl.head (nf_sims hl.tail) h.2⟩

theorem act_len (n : Nat) (s : List Int) (l : List (List Int)) : (act n s l).length ≤ l.length + 1 := by
 induction l generalizing s with
 | nil => unfold act; split <;> simp
 | cons f l ih => rw [act]; simp; exact ih _

theorem nf_len (n : Nat) (l : List (List Int)) : (nf n l).length ≤ l.length := by
 induction l with
 | nil => simp [nf]
 | cons x l ih => rw [nf_cons]; have := act_len n x (nf n l); simp; omega

theorem cut1_n1 {n : Nat} {l : List (List Int)} (h : N1 n l) : cut1 n l = l := by
 unfold cut1
 induction l with
 | nil => rfl
 | cons x l ih =>
  rw [List.takeWhile_cons, if_pos (by simpa using h x (by simp)), ih fun y hy => h y (by simp [hy])]

/-- A normal list stays. -/
theorem nf_id {n : Nat} {l : List (List Int)} (hl : Sims n l) (hw : Wl n l) (h1 : N1 n l) : nf n l = l := by rw [nf_wl hl hw, cut1_n1 h1]

theorem half_ne {n : Nat} (n2 : 1 < n) : halfR n ≠ sameR n := by
 intro e
 have : at8 (halfR n) 0 = at8 (sameR n) 0 := by rw [e]
 rw [at8_half n 0 (by omega), at8_same n 0 (by omega)] at this
 omega

/-- What is weighed with a half turn behind it is a half turn. -/
theorem wgt_half {n : Nat} {a : List Int} (ha : Sim n a) (h : Wgt n a (halfR n)) : a = halfR n := by
 have e : mt n a (halfR n) = sameR n := meet_none ha h
 have hc := comR_sim ha
 have hh := halfR_sim n ha.lo ha.hi
 have h1 : Pre n (comR n a) (mt n a (halfR n)) := mt_glb ha hh (Pre.refl _ _) fun i j hij hj _ => by rw [at8_half n i (by omega), at8_half n j hj]; omega
 rw [e] at h1
 have h2 := pre_one hc h1
 have h3 : thenR n a (comR n a) = halfR n := by unfold comR; rw [← thenR_then _ _ _ ha, then_back ha, same_then hh]
 rw [h2, then_same ha] at h3
 exact h3

/-- The normal form of half turns and a list. -/
def mkN (n : Nat) (p : Int) (l : List (List Int)) : Int × List (List Int) := (p + lead (halfR n) (nf n l), (nf n l).drop (lead (halfR n) (nf n l)))

theorem lead_rep (v : List Int) (k : Nat) (l : List (List Int)) : lead v (List.replicate k v ++ l) = k + lead v l := by
 induction k with
 | zero => simp
 | succ k ih => rw [List.replicate_succ, List.cons_append, lead, if_pos rfl, ih]; omega

theorem lead_none (v : List Int) (l : List (List Int)) (h : ∀ x, l.head? = some x → x ≠ v) : lead v l = 0 := by
 cases l with
 | nil => rfl
 | cons x l => rw [lead, if_neg (h x rfl)]

/-- Weighed factors, no half turn and no 'nothing'. -/
structure Nl (n : Nat) (l : List (List Int)) : Prop where
 sims : Sims n l
 wl : Wl n l
 n1 : N1 n l
 nh : ∀ x ∈ l, x ≠ halfR n

theorem Nl.nil {n : Nat} : Nl n [] := ⟨Sims.nil, trivial, fun x hx => by simp at hx, fun x hx => by simp at hx⟩
theorem Nl.tail {n : Nat} {x : List Int} {l : List (List Int)} (h : Nl n (x :: l)) : Nl n l := ⟨h.sims.tail, h.wl.tail, fun y hy => h.n1 y (by simp [hy]), fun y hy => h.nh y (by simp [hy])⟩
theorem Nl.nf {n : Nat} {l : List (List Int)} (h : Nl n l) : nf n l = l := nf_id h.sims h.wl h.n1

theorem wl_drop {n : Nat} {l : List (List Int)} (h : Wl n l) (k : Nat) : Wl n (l.drop k) := by
 induction k generalizing l with
 | zero => simpa using h
 | succ k ih =>
  cases l with
  | nil => simp [Wl]
  | cons x l => exact ih h.tail

theorem nohalf {n : Nat} {l : List (List Int)} (hl : Sims n l) (hw : Wl n l) (h : ∀ x, l.head? = some x → x ≠ halfR n) : ∀ x ∈ l, x ≠ halfR n := by
 induction l with
 | nil => intro x hx; simp at hx
 | cons f l ih =>
  have hf := h f rfl
  intro x hx
  rcases List.mem_cons.1 hx with rfl | hx
  ·exact hf
  ·refine ih hl.tail hw.tail ?_ x hx
   intro y hy e
   cases l with
   | nil => simp at hy
   | cons g l =>
    simp at hy
    subst hy
    have := hw.1
    rw [e] at this
    exact hf (wgt_half hl.head this)

theorem mkN_nl {n : Nat} {p : Int} {l : List (List Int)} (hl : Sims n l) : Nl n (mkN n p l).2 := by
 have hs := nf_sims hl
 have hw := nf_wgt hl
 refine ⟨fun x hx => hs x (List.mem_of_mem_drop hx), wl_drop hw.1 _, fun x hx => hw.2 x (List.mem_of_mem_drop hx), ?_⟩
 refine nohalf (fun x hx => hs x (List.mem_of_mem_drop hx)) (wl_drop hw.1 _) ?_
 intro x hx e
 have hk : lead (halfR n) (nf n l) < (nf n l).length := by
  rcases Nat.lt_or_ge (lead (halfR n) (nf n l)) (nf n l).length with h | h
  ·exact h
  ·rw [show (mkN n p l).2 = (nf n l).drop (lead (halfR n) (nf n l)) from rfl, List.drop_of_length_le h] at hx; simp at hx
 have := lead_end (halfR n) (nf n l) hk
 rw [rowAt_lt hk] at this
 rw [show (mkN n p l).2 = (nf n l).drop (lead (halfR n) (nf n l)) from rfl, List.head?_drop, List.getElem?_eq_getElem hk] at hx
 injection hx with hx
 exact this (by rw [hx, e])

theorem mkN_len (n : Nat) (p : Int) (l : List (List Int)) : (mkN n p l).2.length ≤ l.length ∧ p ≤ (mkN n p l).1 ∧ (mkN n p l).1 + (mkN n p l).2.length ≤ p + l.length := by
 have h1 := nf_len n l
 have h2 := lead_le (halfR n) (nf n l)
 unfold mkN
 simp
 omega

theorem turnK_inj {n : Nat} {q : Int} {a b : List Int} (ha : Sim n a) (hb : Sim n b) (h : turnK n q a = turnK n q b) : a = b := by
 unfold turnK at h
 split at h
 ·exact h
 ·exact turn_inj ha hb h

end Go.Proofs.Ytpkhddndapcpjaa

/- Half turns and 'nothing' are taken off what is weighed: plain functions and lemmas. No program is spoken of. -/
namespace Go.Proofs.Ytpkhddndapcpjaa

theorem rowAt_getElem {l : List (List Int)} {j : Nat} (h : j < l.length) : rowAt l j ∈ l := by
 rw [rowAt_lt h]; exact List.getElem_mem h

theorem n1_iff {n : Nat} {l : List (List Int)} : N1 n l ↔ ∀ j, j < l.length → rowAt l j ≠ sameR n := by
 constructor
 ·intro h j hj
  exact h _ (rowAt_getElem hj)
 ·intro h x hx
  obtain ⟨j, hj, rfl⟩ := List.getElem_of_mem hx
  have := h j hj
  rwa [rowAt_lt hj] at this

theorem wl_ones {n : Nat} {l : List (List Int)} (hl : Sims n l) (hw : Wl n l) {j k : Nat} (hj : rowAt l j = sameR n) (hjk : j ≤ k) (hk : k < l.length) : rowAt l k = sameR n := by
 obtain ⟨d, rfl⟩ : ∃ d, k = j + d := ⟨k - j, by omega⟩
 clear hjk
 induction d with
 | zero => exact hj
 | succ d ih =>
  have h1 := ih (by omega)
  have h2 := wl_at.1 hw (j + d) (by omega)
  rw [h1] at h2
  have h3 := hl _ (rowAt_getElem (l := l) (j := j + d + 1) (by omega))
  exact wgt_one h3.lo h3.hi h3 h2

theorem cut1_app {n : Nat} {a b : List (List Int)} (h : N1 n a) (hb : ∀ x, b.head? = some x → x = sameR n) : cut1 n (a ++ b) = a := by
 unfold cut1
 induction a with
 | nil =>
  cases b with
  | nil => rfl
  | cons x b => simp [hb x rfl]
 | cons x a ih =>
  rw [List.cons_append, List.takeWhile_cons, if_pos (by simpa using h x (by simp)), ih fun y hy => h y (by simp [hy])]

theorem rowAt_take {l : List (List Int)} {e j : Nat} (h : j < e) : rowAt (l.take e) j = rowAt l j := by
 simp [rowAt, List.getD, h]

/-- At most one half turn, and at most one 'nothing', are taken off. -/
def trimR (n : Nat) (p : Int) (R : List (List Int)) : Int × List (List Int) :=
 (p + (if rowAt R 0 = halfR n then 1 else 0 : Nat), (R.take (R.length - (if rowAt R (R.length - 1) = sameR n then 1 else 0))).drop (if rowAt R 0 = halfR n then 1 else 0))

theorem trim_mk {n : Nat} (n2 : 1 < n) (_h8 : n ≤ 8) (p : Int) {R : List (List Int)} (hs : Sims n R) (hw : Wl n R) (h0 : 0 < R.length)
  (hf : 2 ≤ R.length → rowAt R 0 = halfR n → rowAt R 1 ≠ halfR n) (hb : 2 ≤ R.length → rowAt R (R.length - 1) = sameR n → rowAt R (R.length - 2) ≠ sameR n) : trimR n p R = mkN n p R := by
 have hne := half_ne n2
 obtain ⟨e, he⟩ : ∃ e, e = R.length - (if rowAt R (R.length - 1) = sameR n then 1 else 0) := ⟨_, rfl⟩
 have hle : e ≤ R.length := by omega
 have hN : N1 n (R.take e) := by
  rw [n1_iff]
  intro j hj h1
  have hj2 : j < e := by simp at hj; omega
  rw [rowAt_take hj2] at h1
  by_cases hc : rowAt R (R.length - 1) = sameR n
  ·rw [if_pos hc] at he
   exact hb (by omega) hc (wl_ones hs hw h1 (by omega) (by omega))
  ·exact hc (wl_ones hs hw h1 (by omega) (by omega))
 have hn : nf n R = R.take e := by
  rw [nf_wl hs hw]
  conv => lhs; rw [← List.take_append_drop e R]
  refine cut1_app hN fun x hx => ?_
  by_cases hc : rowAt R (R.length - 1) = sameR n
  ·rw [if_pos hc] at he
   rw [List.head?_drop, List.getElem?_eq_getElem (by omega)] at hx
   injection hx with hx
   rw [← hx, ← rowAt_lt (by omega), he]
   exact hc
  ·rw [if_neg hc] at he
   rw [he, List.head?_drop, List.getElem?_eq_none (by omega)] at hx
   cases hx
 have hlead : lead (halfR n) (R.take e) = if rowAt R 0 = halfR n then 1 else 0 := by
  by_cases hc : rowAt R 0 = halfR n
  ·rw [if_pos hc]
   have he1 : 1 ≤ e := by
    rcases Nat.lt_or_ge R.length 2 with h | h
    ·have : R.length - 1 = 0 := by omega
     rw [this, if_neg (fun h2 => hne (hc.symm.trans h2))] at he
     omega
    ·split at he <;> omega
   obtain ⟨x, R', rfl⟩ : ∃ x R', R = x :: R' := by
    cases R with
    | nil => simp at h0
    | cons x R' => exact ⟨x, R', rfl⟩
   have hx : x = halfR n := hc
   obtain ⟨e', rfl⟩ : ∃ e', e = e' + 1 := ⟨e - 1, by omega⟩
   rw [List.take_succ_cons, lead, if_pos hx, lead_none]
   intro y hy e3
   cases R' with
   | nil => simp at hy
   | cons z R' =>
    cases e' with
    | zero => simp at hy
    | succ e' =>
     simp at hy
     exact hf (by simp) hc (by rw [← e3, ← hy]; rfl)
  ·rw [if_neg hc]
   refine lead_none _ _ fun x hx e3 => ?_
   rw [List.head?_take] at hx
   split at hx
   ·cases hx
   ·obtain ⟨y, R', rfl⟩ : ∃ x R', R = x :: R' := by
     cases R with
     | nil => simp at h0
     | cons x R' => exact ⟨x, R', rfl⟩
    simp at hx
    exact hc (by rw [← e3, ← hx]; rfl)
 unfold mkN trimR
 rw [hn, hlead, ← he]

/-- What the model takes off what is weighed. -/
theorem make_mk {n : Nat} (h1 : 1 ≤ n) (h8 : n ≤ 8) (p : Int) {R : List (List Int)} (hs : Sims n R) (hw : Wl n R) : (p + (firstM n R : Int), restM n R) = mkN n p R := by
 have hn := nf_wl hs hw
 have key : ∃ k, R = cut1 n R ++ List.replicate k (sameR n) := by
  clear hn
  induction R with
  | nil => exact ⟨0, rfl⟩
  | cons x R ih =>
   by_cases e : x = sameR n
   ·refine ⟨R.length + 1, ?_⟩
    have : cut1 n (x :: R) = [] := by simp [cut1, e]
    rw [this, List.nil_append]
    refine List.eq_replicate_iff.2 ⟨by simp, fun y hy => ?_⟩
    obtain ⟨j, hj, rfl⟩ := List.getElem_of_mem hy
    rw [← rowAt_lt hj]
    exact wl_ones hs hw (j := 0) e (Nat.zero_le _) hj
   ·obtain ⟨k, hk⟩ := ih hs.tail hw.tail
    refine ⟨k, ?_⟩
    have : cut1 n (x :: R) = x :: cut1 n R := by simp [cut1, e]
    rw [this, List.cons_append, ← hk]
 obtain ⟨k, hk⟩ := key
 have hN : N1 n (cut1 n R) := by
  rw [← hn]; exact (nf_wgt hs).2
 obtain ⟨C, hC⟩ : ∃ C, C = cut1 n R := ⟨_, rfl⟩
 rw [← hC] at hk hN hn
 have e1 : firstM n R = lead (halfR n) C := by
  unfold firstM
  by_cases h2 : 1 < n
  ·rw [if_pos h2, hk]
   have hne := half_ne h2
   clear hk hn hC
   induction C with
   | nil =>
    cases k with
    | zero => rfl
    | succ k =>
     rw [List.nil_append, List.replicate_succ, lead_none _ _ fun x hx e => hne (by simp at hx; rw [← e, ← hx])]
     rfl
   | cons x C ih =>
    rw [List.cons_append, lead, lead, ih fun y hy => hN y (by simp [hy])]
  ·rw [if_neg h2]
   have h3 : n = 1 := by omega
   subst h3
   cases C with
   | nil => rfl
   | cons x C =>
    exfalso
    refine hN x (by simp) ?_
    have hx : Sim 1 x := hs x (by rw [hk]; simp)
    refine pre_one hx fun i j hij hj _ => by omega
 have hC2 := lead_le (halfR n) C
 have e2 : lastM n R = C.length := by
  unfold lastM
  rw [e1, hk, List.drop_append_of_le_length hC2, List.reverse_append, List.reverse_replicate, lead_rep, lead_none]
  ·simp
  ·intro x hx e
   rw [List.head?_reverse] at hx
   exact hN x (List.mem_of_mem_drop (List.mem_of_getLast? hx)) e
 unfold mkN restM
 rw [hn, e2, e1]
 conv => lhs; rw [hk]
 rw [List.take_left']
 rfl

theorem sweep_nf {n : Nat} {r : List (List Int)} {x : List Int} (hr : Sims n r) (hx : Sim n x) : nf n (sweep n r x).reverse = nf n (r.reverse ++ [x]) := by
 induction r generalizing x with
 | nil => rfl
 | cons a r ih =>
  obtain ⟨b1, b2⟩ := both_sim hr.head hx
  have hrr : Sims n r.reverse := fun y hy => hr.tail y (by simpa using hy)
  have hss : Sims n (sweep n r (both n a x).1).reverse := fun y hy => sweep_sims hr.tail b1 y (by simpa using hy)
  have e2 : Sims n [(both n a x).2] := Sims.cons b2 Sims.nil
  rw [sweep, List.reverse_cons, ← nf_left hss e2, ih hr.tail b1, nf_left (Sims.app hrr (Sims.cons b1 Sims.nil)) e2, List.reverse_cons, List.append_assoc, List.append_assoc]
  exact nf_move hr.head hx Sims.nil

theorem sweep_front {n : Nat} {r : List (List Int)} {a x : List Int} (hr : Sims n r) (_ha : Sim n a) (hx : Sim n x) : ∃ y pre, Sim n y ∧ sweep n (r ++ [a]) x = pre ++ [(both n a y).2, (both n a y).1] := by
 induction r generalizing x with
 | nil => exact ⟨x, [], hx, rfl⟩
 | cons b r ih =>
  obtain ⟨y, pre, hy, e⟩ := ih hr.tail (both_sim hr.head hx).1
  exact ⟨y, (both n b x).2 :: pre, hy, by rw [List.cons_append, sweep, e]; rfl⟩

/-- A half turn behind makes no braid longer. -/
theorem short_half {n : Nat} {m : List Int} (hm : Sim n m) (h : Short n m (halfR n)) : m = sameR n := by
 refine pre_one hm fun i j hij hj e => ?_
 have := h i j hij hj e
 rw [half_after hm j hj, half_after hm i (by omega)] at this
 omega

theorem both_halves {n : Nat} {a y : List Int} (ha : Sim n a) (hy : Sim n y) (h1 : (both n a y).1 = halfR n) (h2 : (both n a y).2 = halfR n) : a = halfR n := by
 have hm := mt_sim ha y
 have hs := both_short2 ha hy
 rw [show thenR n (backR n (mt n a y)) y = (both n a y).2 from rfl, h2] at hs
 have e := short_half hm hs
 rw [both_mt, e, then_same ha] at h1
 exact h1

theorem then_simple {n : Nat} (n2 : 1 < n) (h8 : n ≤ 8) (p : Int) {l : List (List Int)} {s : List Int} (hl : Nl n l) (hs : Sim n s) : trimR n p (sweep n l.reverse s).reverse = mkN n p (l ++ [s]) := by
 have hr : Sims n l.reverse := fun y hy => hl.sims y (by simpa using hy)
 have hR : Sims n (sweep n l.reverse s).reverse := fun y hy => sweep_sims hr hs y (by simpa using hy)
 have hW : Wl n (sweep n l.reverse s).reverse := wl_of_chain (by rw [List.reverse_reverse]; exact sweep_chain hr hs (chain_rev hl.wl))
 have e := sweep_nf hr hs
 rw [List.reverse_reverse] at e
 rw [trim_mk n2 h8 p hR hW (by simp [sweep_len])]
 ·unfold mkN; rw [e]
 ·intro h2
  cases l with
  | nil => simp [sweep] at h2
  | cons a l =>
   rw [List.reverse_cons]
   obtain ⟨y, pre, hy, e3⟩ := sweep_front (r := l.reverse) (fun y hy => hl.sims y (by simp at hy; simp [hy])) hl.sims.head hs
   rw [e3]
   simp only [List.reverse_append, List.reverse_cons, List.reverse_nil, List.nil_append, List.cons_append]
   intro h4 h5
   exact hl.nh a (by simp) (both_halves hl.sims.head hy h4 h5)
 ·intro h2 h3 h4
  obtain ⟨r, er⟩ : ∃ r, r = l.reverse := ⟨_, rfl⟩
  have hc : Chain n r := by rw [er]; exact chain_rev hl.wl
  have hn1 : N1 n r := fun x hx => hl.n1 x (by rw [er] at hx; simpa using hx)
  rw [← er] at hr h2 h3 h4
  cases r with
  | nil => simp [sweep] at h2
  | cons a r =>
   have ha := hr.head
   have h5 := hn1 a (by simp)
   obtain ⟨b1, b2⟩ := both_sim ha hs
   cases r with
   | nil =>
    simp [sweep, rowAt] at h4
    exact h5 (then_one ha (mt_sim ha s) (both_short ha hs) h4)
   | cons c r =>
    have hcs := hr.tail.head
    have hlen := sweep_len n r (both n c (both n a s).1).1
    have h6 : rowAt (sweep n (a :: c :: r) s).reverse ((sweep n (a :: c :: r) s).reverse.length - 2) = (both n c (both n a s).1).2 := by
     simp only [sweep, List.reverse_cons, List.append_assoc, List.length_append, List.length_reverse, List.length_cons, List.length_nil, rowAt, List.getD]
     rw [List.getElem?_append_right (by simp)]
     simp
    rw [h6] at h4
    -- what is left of the last but one is nothing: it was a beginning of the complement
    have hm := mt_sim hcs (both n a s).1
    have h7 := back_then_then hm b1
    rw [show thenR n (backR n (mt n c (both n a s).1)) (both n a s).1 = (both n c (both n a s).1).2 from rfl, h4, then_same hm] at h7
    have h8' : Pre n (both n a s).1 (comR n c) := by rw [← h7]; exact mt_pre1 hcs _
    have h9 : Pre n a (comR n c) := Pre.trans (both_short ha hs) h8'
    have h10 : Pre n a (mt n c a) := mt_glb hcs ha h9 (Pre.refl _ _)
    rw [show mt n c a = sameR n from meet_none hcs hc.1] at h10
    exact h5 (pre_one ha h10)

/-- A simple braid is poured through a list from its beginning. -/
def pour (n : Nat) : List Int → List (List Int) → List (List Int)
 | s, [] => [s]
 | s, f :: l => (both n s f).1 :: pour n (both n s f).2 l

theorem pour_len (n : Nat) (s : List Int) (l : List (List Int)) : (pour n s l).length = l.length + 1 := by
 induction l generalizing s with
 | nil => rfl
 | cons f l ih => simp [pour, ih]

theorem pour_sims {n : Nat} {s : List Int} {l : List (List Int)} (hs : Sim n s) (hl : Sims n l) : Sims n (pour n s l) := by
 induction l generalizing s with
 | nil => exact Sims.cons hs Sims.nil
 | cons f l ih =>
  obtain ⟨b1, b2⟩ := both_sim hs hl.head
  exact Sims.cons b1 (ih b2 hl.tail)

theorem pour_nf {n : Nat} {s : List Int} {l : List (List Int)} (hs : Sim n s) (hl : Sims n l) : nf n (pour n s l) = nf n (s :: l) := by
 induction l generalizing s with
 | nil => rfl
 | cons f l ih =>
  obtain ⟨b1, b2⟩ := both_sim hs hl.head
  rw [pour, nf_cons, ih b2 hl.tail, nf_cons, act_both hs hl.head (nf_sims hl.tail)]; rfl

theorem pour_wl {n : Nat} {s : List Int} {l : List (List Int)} (hs : Sim n s) (hl : Sims n l) (hw : Wl n l) : Wl n (pour n s l) := by
 induction l generalizing s with
 | nil => trivial
 | cons f l ih =>
  obtain ⟨b1, b2⟩ := both_sim hs hl.head
  have h1 := ih b2 hl.tail hw.tail
  rw [pour]
  cases l with
  | nil => exact ⟨both_done hs hl.head, trivial⟩
  | cons g l => exact ⟨head_wgt hs hl.head hl.tail.head hw.1, h1⟩

theorem both_com_half {n : Nat} {m : List Int} (hm : Sim n m) : (both n m (halfR n)).1 = halfR n := by
 have hh := halfR_sim n hm.lo hm.hi
 have e : mt n m (halfR n) = comR n m := mt_eq hm hh (comR_sim hm) (Pre.refl _ _) (fun i j hij hj _ => by rw [at8_half n i (by omega), at8_half n j hj]; omega) fun q _ h _ => h
 show thenR n m (mt n m (halfR n)) = _
 rw [e]
 unfold comR
 rw [← thenR_then _ _ _ hm, then_back hm, same_then hh]

theorem pour_back {n : Nat} {s f : List Int} {l : List (List Int)} (hs : Sim n s) (hl : Sims n l) (_hf : Sim n f) : ∃ y pre, Sim n y ∧ pour n s (l ++ [f]) = pre ++ [(both n y f).1, (both n y f).2] := by
 induction l generalizing s with
 | nil => exact ⟨s, [], hs, rfl⟩
 | cons g l ih =>
  obtain ⟨y, pre, hy, e⟩ := ih (both_sim hs hl.head).2 hl.tail
  exact ⟨y, (both n s g).1 :: pre, hy, by rw [List.cons_append, pour, e]; rfl⟩

theorem behind_simple {n : Nat} (n2 : 1 < n) (h8 : n ≤ 8) (p : Int) {l : List (List Int)} {s : List Int} (hl : Nl n l) (hs : Sim n s) : trimR n p (pour n s l) = mkN n p (s :: l) := by
 rw [trim_mk n2 h8 p (pour_sims hs hl.sims) (pour_wl hs hl.sims hl.wl) (by rw [pour_len]; omega)]
 ·unfold mkN; rw [pour_nf hs hl.sims]
 ·intro h2 h3 h4
  cases l with
  | nil => simp [pour] at h2
  | cons f l =>
   have hf := hl.sims.head
   have hm := mt_sim hs f
   obtain ⟨b1, b2⟩ := both_sim hs hf
   have h6 := hl.nh f (by simp)
   cases l with
   | nil =>
    have h5 : (both n s f).2 = halfR n := h4
    have h7 := both_short2 hs hf
    rw [show thenR n (backR n (mt n s f)) f = (both n s f).2 from rfl, h5] at h7
    have h9 := back_then_then hm hf
    rw [show thenR n (backR n (mt n s f)) f = (both n s f).2 from rfl, h5, short_half hm h7, same_then (halfR_sim n hs.lo hs.hi)] at h9
    exact h6 h9.symm
   | cons g l =>
    have h5 : (both n (both n s f).2 g).1 = halfR n := h4
    have h7 := head_back hs hf hl.sims.tail.head hl.wl.1
    rw [h5, both_com_half hm] at h7
    exact h6 h7.symm
 ·intro h2 h3 h4
  have hne : l ≠ [] := fun e => by rw [e] at h2; simp [pour] at h2
  obtain ⟨l2, f, rfl⟩ : ∃ l2 x2, l = l2 ++ [x2] := ⟨l.dropLast, l.getLast hne, (List.dropLast_concat_getLast hne).symm⟩
  have hf : Sim n f := hl.sims f (by simp)
  obtain ⟨y, pre, hy, e⟩ := pour_back hs hl.sims.left hf
  rw [e] at h4
  have h5 : (both n y f).1 = sameR n := by
   simpa [rowAt, List.getD] using h4
  exact both_ne hy hf (hl.n1 f (by simp)) h5

end Go.Proofs.Ytpkhddndapcpjaa

/- Inverses of normal forms and normal forms of words: plain functions and lemmas. No program is spoken of. -/
namespace Go.Proofs.Ytpkhddndapcpjaa

theorem mkN_id {n : Nat} (p : Int) {l : List (List Int)} (h : Nl n l) : mkN n p l = (p, l) := by
 have e : lead (halfR n) l = 0 := lead_none _ _ fun x hx => h.nh x (List.mem_of_head? hx)
 unfold mkN
 rw [h.nf, e]
 simp

theorem turnK_half {n : Nat} (h1 : 1 ≤ n) (h8 : n ≤ 8) (q : Int) : turnK n q (halfR n) = halfR n := by
 unfold turnK
 split
 ·rfl
 ·exact turn_half n h1 h8

theorem turnK_same {n : Nat} (h1 : 1 ≤ n) (h8 : n ≤ 8) (q : Int) : turnK n q (sameR n) = sameR n := by
 unfold turnK
 split
 ·rfl
 ·exact turn_same n h1 h8

theorem turn_wgt {n : Nat} {a x : List Int} (ha : Sim n a) (hx : Sim n x) (h : Wgt n a x) : Wgt n (turnR n a) (turnR n x) :=
 wgt_of_both (turnR_sim ha) (turnR_sim hx) (by rw [turn_both ha hx, both_wgt ha hx h])

theorem turnK_wgt {n : Nat} (q : Int) {a x : List Int} (ha : Sim n a) (hx : Sim n x) (h : Wgt n a x) : Wgt n (turnK n q a) (turnK n q x) := by
 unfold turnK
 split
 ·exact h
 ·exact turn_wgt ha hx h

theorem Nl.turns {n : Nat} (q : Int) {l : List (List Int)} (h : Nl n l) : Nl n (turns n q l) := by
 refine ⟨turnsK_sims h.sims, ?_, ?_, ?_⟩
 ·have h1 := h.sims
  have h2 := h.wl
  clear h
  induction l with
  | nil => trivial
  | cons a l ih =>
   cases l with
   | nil => trivial
   | cons x l => exact ⟨turnK_wgt q h1.head h1.tail.head h2.1, ih h1.tail h2.tail⟩
 ·intro x hx e
  obtain ⟨y, hy, rfl⟩ := List.mem_map.1 hx
  have hs := h.sims y hy
  exact h.n1 y hy (turnK_inj hs (sameR_sim n hs.lo hs.hi) (by rw [e, turnK_same hs.lo hs.hi]))
 ·intro x hx e
  obtain ⟨y, hy, rfl⟩ := List.mem_map.1 hx
  have hs := h.sims y hy
  exact h.nh y hy (turnK_inj hs (halfR_sim n hs.lo hs.hi) (by rw [e, turnK_half hs.lo hs.hi]))

/-- All letters are ones of n strands. -/
def Letters (n : Nat) (xs : List Int) : Prop := ∀ x ∈ xs, x ≠ 0 ∧ -(n : Int) < x ∧ x < n

end Go.Proofs.Ytpkhddndapcpjaa

/- One pass of weighing over any list, place by place: plain functions and lemmas. No program is spoken of. -/
namespace Go.Proofs.Ytpkhddndapcpjaa

/-- How far from its end the weighing of a list is: a number that falls with each move. -/
def Mr (n : Nat) : List (List Int) → Nat
 | [] => 0
 | r :: rs => (wgt (backR n r)).toNat * 200 ^ rs.length + Mr n rs

theorem Mr_lt {n : Nat} {l : List (List Int)} (hl : Sims n l) : Mr n l < 200 ^ l.length := by
 induction l with
 | nil => simp [Mr]
 | cons r rs ih =>
  have h1 := ih hl.tail
  have h2 := wgt_bd (backR_sim hl.head)
  rw [Mr, List.length_cons, Nat.pow_succ]
  have h3 : (wgt (backR n r)).toNat * 200 ^ rs.length ≤ 196 * 200 ^ rs.length := Nat.mul_le_mul_right _ (by omega)
  omega

theorem both_less {n : Nat} {a x : List Int} (ha : Sim n a) (hx : Sim n x) (h : mt n a x ≠ sameR n) : (wgt (backR n (both n a x).1)).toNat < (wgt (backR n a)).toNat := by
 have hb := backR_sim ha
 obtain ⟨e1, _⟩ := weighR_meet ha hx
 have hs := (weighR_sim hb hx).1
 have e2 : backR n (both n a x).1 = (weighR n (backR n a) x).1 := by
  rw [show (both n a x).1 = thenR n a (meetR n (comR n a) x) from rfl, ← e1, back_backR hs]
 rw [e2]
 cases hc : firstB (mov (backR n a) x) (n - 1) 0 with
 | none =>
  exfalso
  refine h (meet_none ha ?_)
  unfold Wgt weightB
  rw [hc]
  rfl
 | some k =>
  obtain ⟨_, h2, h3, _⟩ := firstB_some hc
  have hk : k + 1 < n := by omega
  have he := exR_sim n k hx.hi hk
  have hw := (weighF_sim 200 (thenR_sim he hb) (thenR_sim he hx)).2.2
  have hu := wgt_up hb hk ((mov_iff _ _ _).1 h3).2
  have hbd := wgt_bd hs
  rw [weighR_some hx hc] at hbd ⊢
  unfold weighR at hbd ⊢
  omega

theorem Mr_pair {n : Nat} {a x b1 b2 : List Int} {p q : List (List Int)} (hb : Sims n (b2 :: q)) (h : (wgt (backR n b1)).toNat < (wgt (backR n a)).toNat) : Mr n (p ++ b1 :: b2 :: q) < Mr n (p ++ a :: x :: q) := by
 induction p with
 | nil =>
  have h1 := Mr_lt hb
  rw [List.nil_append, List.nil_append]
  have e1 : Mr n (b1 :: b2 :: q) = (wgt (backR n b1)).toNat * 200 ^ (q.length + 1) + Mr n (b2 :: q) := rfl
  have e2 : Mr n (a :: x :: q) = (wgt (backR n a)).toNat * 200 ^ (q.length + 1) + Mr n (x :: q) := rfl
  rw [List.length_cons] at h1
  have h3 : ((wgt (backR n b1)).toNat + 1) * 200 ^ (q.length + 1) ≤ (wgt (backR n a)).toNat * 200 ^ (q.length + 1) := Nat.mul_le_mul_right _ (by omega)
  rw [Nat.add_mul, Nat.one_mul] at h3
  rw [e1, e2]
  generalize (wgt (backR n b1)).toNat * 200 ^ (q.length + 1) = A at *
  generalize (wgt (backR n a)).toNat * 200 ^ (q.length + 1) = B at *
  generalize 200 ^ (q.length + 1) = C at *
  omega
 | cons r p ih =>
  rw [List.cons_append, List.cons_append, Mr, Mr]
  simp only [List.length_append, List.length_cons]
  omega

theorem split2 {rows : List (List Int)} {k : Nat} (h : k + 1 < rows.length) : rows = rows.take k ++ rowAt rows k :: rowAt rows (k + 1) :: rows.drop (k + 2) := by
 conv => lhs; rw [← List.take_append_drop k rows]
 congr 1
 rw [List.drop_eq_getElem_cons (by omega), List.drop_eq_getElem_cons (by omega), rowAt_lt (by omega), rowAt_lt h]

theorem set2 {rows : List (List Int)} {k : Nat} (h : k + 1 < rows.length) (b1 b2 : List Int) : (rows.set k b1).set (k + 1) b2 = rows.take k ++ b1 :: b2 :: rows.drop (k + 2) := by
 apply List.ext_getElem?
 intro t
 rw [List.getElem?_set, List.getElem?_set]
 rcases Nat.lt_trichotomy t k with h1 | h1 | h1
 ·rw [if_neg (by omega), if_neg (by omega), List.getElem?_append_left (by simp; omega), List.getElem?_take, if_pos h1]
 ·subst h1
  rw [if_neg (by omega), if_pos rfl, if_pos (by omega), List.getElem?_append_right (by simp; omega), List.length_take, Nat.min_eq_left (by omega), Nat.sub_self]
  rfl
 ·rw [List.getElem?_append_right (by simp; omega), List.length_take, Nat.min_eq_left (by omega)]
  by_cases h2 : t = k + 1
  ·subst h2
   rw [if_pos rfl, if_pos (by simpa using h), show k + 1 - k = 1 by omega]
   rfl
  ·rw [if_neg (by omega), if_neg (by omega)]
   obtain ⟨d, rfl⟩ : ∃ d, t = k + 2 + d := ⟨t - (k + 2), by omega⟩
   rw [show k + 2 + d - k = d + 2 by omega]
   simp

/-- The pass has come to the place j; q: something was moved. -/
structure PassG (n : Nat) (l rows : List (List Int)) (j : Nat) (q : Bool) : Prop where
 len : rows.length = l.length
 sims : Sims n rows
 same : nf n rows = nf n l
 still : q = false → rows = l ∧ ∀ t, j ≤ t → t + 1 < l.length → Wgt n (rowAt l t) (rowAt l (t + 1))
 less : q = true → Mr n rows < Mr n l

theorem PassG.start {n : Nat} {l : List (List Int)} (hl : Sims n l) : PassG n l l (l.length - 1) false :=
 ⟨rfl, hl, rfl, fun _ => ⟨rfl, fun t h1 h2 => by omega⟩, fun h => by cases h⟩

theorem PassG.keep {n : Nat} {l rows : List (List Int)} {k : Nat} {q : Bool} (h : PassG n l rows (k + 1) q) (hk : k + 1 < rows.length) (e : meetR n (comR n (rowAt rows k)) (rowAt rows (k + 1)) = sameR n) : PassG n l rows k q := by
 refine ⟨h.len, h.sims, h.same, fun hq => ?_, h.less⟩
 obtain ⟨h1, h2⟩ := h.still hq
 refine ⟨h1, fun t t1 t2 => ?_⟩
 by_cases ht : t = k
 ·subst ht
  have ha := h.sims _ (rowAt_getElem (l := rows) (j := t) (by omega))
  have hx := h.sims _ (rowAt_getElem hk)
  have := both_none ha hx e
  rw [h1] at ha hx this
  exact wgt_of_both ha hx (by rw [this])
 ·exact h2 t (by omega) t2

theorem PassG.move {n : Nat} {l rows : List (List Int)} {k : Nat} {q : Bool} (h : PassG n l rows (k + 1) q) (hk : k + 1 < rows.length) (e : meetR n (comR n (rowAt rows k)) (rowAt rows (k + 1)) ≠ sameR n) :
  PassG n l ((rows.set k (both n (rowAt rows k) (rowAt rows (k + 1))).1).set (k + 1) (both n (rowAt rows k) (rowAt rows (k + 1))).2) k true := by
 have ha := h.sims _ (rowAt_getElem (l := rows) (j := k) (by omega))
 have hx := h.sims _ (rowAt_getElem hk)
 obtain ⟨b1, b2⟩ := both_sim ha hx
 have hsp := split2 hk
 have hss := h.sims
 rw [hsp] at hss
 have h1 : Sims n (rows.take k) := hss.left
 have h2 : Sims n (rows.drop (k + 2)) := hss.right.tail.tail
 refine ⟨by simp [h.len], set_sims (set_sims h.sims b1) b2, ?_, fun hq => (by cases hq), fun _ => ?_⟩
 ·rw [set2 hk, nf_move ha hx h2, ← hsp, h.same]
 ·have h3 : Mr n ((rows.set k (both n (rowAt rows k) (rowAt rows (k + 1))).1).set (k + 1) (both n (rowAt rows k) (rowAt rows (k + 1))).2) < Mr n rows := by
   rw [set2 hk]
   conv => rhs; rw [hsp]
   exact Mr_pair (Sims.cons b2 h2) (both_less ha hx e)
  cases q with
  | false => rw [(h.still rfl).1] at h3 ⊢; exact h3
  | true => have := h.less rfl; omega

theorem PassG.done {n : Nat} {l rows : List (List Int)} (h : PassG n l rows 0 false) : Wl n rows := by
 obtain ⟨h1, h2⟩ := h.still rfl
 rw [h1]
 exact wl_at.2 fun j hj => h2 j (Nat.zero_le _) hj

end Go.Proofs.Ytpkhddndapcpjaa

/- What is a normal form has weighed factors: plain functions and lemmas. No program is spoken of. -/
namespace Go.Proofs.Ytpkhddndapcpjaa

theorem norm_nl {s p : Int} {rs : List (List Int)} (h8 : Rows8 rs) (h : normB s p rs = true) : ∃ m : Nat, s = m ∧ 1 ≤ m ∧ m ≤ 8 ∧ Nl m rs ∧ (-200 ≤ p ∧ p ≤ 200) ∧ rs.length ≤ 200 := by
 obtain ⟨⟨s1, s8⟩, hp, hl, _, hf⟩ := (normB_iff _ _ _).1 h
 have hsm : s = (s.toNat : Int) := by omega
 have key : ∀ j, j < rs.length → Sim s.toNat (rowAt rs j) ∧ rowAt rs j ≠ sameR s.toNat ∧ rowAt rs j ≠ halfR s.toNat ∧ (j = 0 ∨ weightB s.toNat (rowAt rs (j - 1)) (rowAt rs j) = true) := by
  intro j hj
  have h1 := hf j hj
  refine ⟨okFac_sim h8 hj h1, ?_⟩
  unfold okFac at h1
  simp only [Bool.and_eq_true, Bool.or_eq_true, Bool.not_eq_true', decide_eq_false_iff_not, decide_eq_true_eq] at h1
  exact ⟨h1.2.1, h1.2.2.1, h1.2.2.2⟩
 refine ⟨s.toNat, hsm, by omega, by omega, ⟨rows_sims.2 fun j hj => (key j hj).1, wl_at.2 fun j hj => ?_, n1_iff.2 fun j hj => (key j hj).2.1, ?_⟩, hp, hl⟩
 ·rcases (key (j + 1) hj).2.2.2 with e | e
  ·omega
  ·exact e
 ·intro x hx
  obtain ⟨j, hj, rfl⟩ := List.getElem_of_mem hx
  have := (key j hj).2.2.1
  rwa [rowAt_lt hj] at this

end Go.Proofs.Ytpkhddndapcpjaa
