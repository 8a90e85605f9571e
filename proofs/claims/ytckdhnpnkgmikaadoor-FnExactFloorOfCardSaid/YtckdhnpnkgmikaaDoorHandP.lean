/- Plain functions on words: handles, their reduction, main letters. No program is spoken of. -/
import Derived.Test.YtckdhnpnkgmikaaDoorLists
namespace Go.Proofs.YtckdhnpnkgmikaaDoor

/-- The index of a letter. -/
def idx (x : Int) : Int := if x < 0 then -x else x

/-- The count of a letter, as a name of its own. -/
def sg (x : Int) : Int := if x < 0 then -1 else 1

/-- Letters of words with at most eight strands. -/
def Lt8 (xs : List Int) : Prop := ∀ x ∈ xs, x ≠ 0 ∧ -8 < x ∧ x < 8

/-- The place of the first letter of a handle that ends with the letter x behind the first k letters. -/
def back (x : Int) (xs : List Int) : Nat → Option Nat
  | 0 => none
  | p + 1 => if xs.getD p 0 = -x then some p else if idx (xs.getD p 0) = idx x ∨ idx (xs.getD p 0) = idx x - 1 then none else back x xs p

/-- The first handle that ends within the first k letters. -/
def hand (xs : List Int) : Nat → Option (Nat × Nat)
  | 0 => none
  | k + 1 => match hand xs k with
    | some r => some r
    | none => (back (xs.getD k 0) xs k).map fun p => (p, k)

theorem back_lt {x : Int} {xs : List Int} {k p : Nat} (h : back x xs k = some p) : p < k ∧ xs.getD p 0 = -x := by
  induction k with
  | zero => simp [back] at h
  | succ k ih =>
    unfold back at h
    split at h
    · cases h; exact ⟨by omega, by assumption⟩
    · split at h
      · cases h
      · have := ih h; exact ⟨by omega, this.2⟩

theorem hand_lt {xs : List Int} {k p q : Nat} (h : hand xs k = some (p, q)) : p < q ∧ q < k ∧ xs.getD p 0 = -(xs.getD q 0) := by
  induction k with
  | zero => simp [hand] at h
  | succ k ih =>
    unfold hand at h
    split at h
    · rename_i r hr
      cases h
      have := ih hr
      exact ⟨this.1, by omega, this.2.2⟩
    · cases hb : back (xs.getD k 0) xs k with
      | none => rw [hb] at h; cases h
      | some p' =>
        rw [hb] at h
        cases h
        have := back_lt hb
        exact ⟨this.1, by omega, this.2⟩

theorem hand_mono {xs : List Int} {k m : Nat} {r : Nat × Nat} (h : hand xs k = some r) (hm : k ≤ m) : hand xs m = some r := by
  induction m with
  | zero => have : k = 0 := by omega
            subst this; exact h
  | succ m ih =>
    by_cases hk : k = m + 1
    · subst hk; exact h
    · unfold hand
      rw [ih (by omega)]

theorem hand_some {xs : List Int} {k p : Nat} (h0 : hand xs k = none) (h : back (xs.getD k 0) xs k = some p) : hand xs (k + 1) = some (p, k) := by
  unfold hand
  rw [h0, h]
  rfl

theorem hand_none {xs : List Int} {k : Nat} (h0 : hand xs k = none) (h : back (xs.getD k 0) xs k = none) : hand xs (k + 1) = none := by
  unfold hand
  rw [h0, h]
  rfl

/-- The place behind the last one of the first k letters that has the index i, or 0. -/
def lastB (i : Int) (xs : List Int) : Nat → Nat
  | 0 => 0
  | k + 1 => if idx (xs.getD k 0) = i then k + 1 else lastB i xs k

theorem lastB_le (i : Int) (xs : List Int) (k : Nat) : lastB i xs k ≤ k := by
  induction k with
  | zero => exact Nat.le_refl _
  | succ k ih => unfold lastB; split <;> omega

theorem idx_neg (x : Int) : idx (-x) = idx x := by unfold idx; split <;> split <;> omega

theorem back_last (x : Int) (xs : List Int) (k : Nat) :
    back x xs k = if lastB (idx x - 1) xs k < lastB (idx x) xs k ∧ xs.getD (lastB (idx x) xs k - 1) 0 = -x then some (lastB (idx x) xs k - 1) else none := by
  induction k with
  | zero => simp [back, lastB]
  | succ k ih =>
    unfold back
    by_cases h1 : xs.getD k 0 = -x
    · rw [if_pos h1]
      have h2 : idx (xs.getD k 0) = idx x := by rw [h1, idx_neg]
      have h3 : lastB (idx x) xs (k + 1) = k + 1 := by unfold lastB; rw [if_pos h2]
      have h4 : lastB (idx x - 1) xs (k + 1) = lastB (idx x - 1) xs k := by rw [lastB, if_neg (by omega)]
      have h5 := lastB_le (idx x - 1) xs k
      rw [h3, h4, Nat.add_sub_cancel, if_pos ⟨by omega, h1⟩]
    · rw [if_neg h1]
      by_cases h2 : idx (xs.getD k 0) = idx x
      · rw [if_pos (.inl h2)]
        have h3 : lastB (idx x) xs (k + 1) = k + 1 := by unfold lastB; rw [if_pos h2]
        rw [h3, Nat.add_sub_cancel, if_neg (fun hh => h1 hh.2)]
      · have h3 : lastB (idx x) xs (k + 1) = lastB (idx x) xs k := by rw [lastB, if_neg h2]
        by_cases h4 : idx (xs.getD k 0) = idx x - 1
        · rw [if_pos (.inr h4)]
          have h5 : lastB (idx x - 1) xs (k + 1) = k + 1 := by unfold lastB; rw [if_pos h4]
          have h6 := lastB_le (idx x) xs k
          rw [h3, h5, if_neg (by omega)]
        · rw [if_neg (by omega), ih, h3]
          have h5 : lastB (idx x - 1) xs (k + 1) = lastB (idx x - 1) xs k := by rw [lastB, if_neg h4]
          rw [h5]

/-- The array of those places. -/
def bh (xs : List Int) (k : Nat) : List Int := (List.range 8).map fun (i : Nat) => ((lastB (i : Int) xs k : Nat) : Int)

theorem bh_length (xs : List Int) (k : Nat) : (bh xs k).length = 8 := by simp [bh]

theorem bh_zero (xs : List Int) : bh xs 0 = [0, 0, 0, 0, 0, 0, 0, 0] := by
  simp [bh, lastB, List.range, List.range.loop]

theorem bh_at (xs : List Int) (k i : Nat) (h : i < 8) : (bh xs k).getD i 0 = (lastB (i : Int) xs k : Nat) := by
  simp [bh, List.getD, h]

theorem bh_set (xs : List Int) (k i : Nat) (hi : idx (xs.getD k 0) = (i : Int)) : (bh xs k).set i ((k + 1 : Nat) : Int) = bh xs (k + 1) := by
  refine List.ext_getElem (by simp [bh]) fun j h1 h2 => ?_
  have hj : j < 8 := by simpa [bh] using h2
  rw [List.getElem_set]
  simp only [bh, List.getElem_map, List.getElem_range]
  by_cases hij : i = j
  · subst hij
    rw [if_pos rfl]
    have : lastB (i : Int) xs (k + 1) = k + 1 := by rw [lastB, if_pos hi]
    rw [this]
  · rw [if_neg hij]
    have : lastB (j : Int) xs (k + 1) = lastB (j : Int) xs k := by rw [lastB, if_neg (by omega)]
    rw [this]

/-- What is put for a letter inside of a handle that ends with the letter e. -/
def midf (e z : Int) : List Int := if idx z = idx e + 1 then [(idx e + 1) * sg e, idx e * sg z, -((idx e + 1) * sg e)] else [z]

/-- What is put for the first j letters inside of the handle. -/
def midL (xs : List Int) (p : Nat) (e : Int) (j : Nat) : List Int := ((xs.drop (p + 1)).take j).flatMap (midf e)

/-- A word one of whose handles has been reduced. -/
def stepL (xs : List Int) (p q : Nat) : List Int := xs.take p ++ midL xs p (xs.getD q 0) (q - p - 1) ++ xs.drop (q + 1)

theorem midL_zero (xs : List Int) (p : Nat) (e : Int) : midL xs p e 0 = [] := by simp [midL]

theorem midL_succ (xs : List Int) (p : Nat) (e : Int) (j : Nat) (h : p + 1 + j < xs.length) : midL xs p e (j + 1) = midL xs p e j ++ midf e (xs.getD (p + 1 + j) 0) := by
  unfold midL
  rw [take_snoc _ j (by simp; omega), List.flatMap_append]
  simp [List.getD, h, List.getElem?_drop]

theorem midf_len (e z : Int) : (midf e z).length ≤ 3 := by unfold midf; split <;> simp

theorem midL_len (xs : List Int) (p : Nat) (e : Int) (j : Nat) : (midL xs p e j).length ≤ 3 * j := by
  have h : ∀ l : List Int, (l.flatMap (midf e)).length ≤ 3 * l.length := by
    intro l
    induction l with
    | nil => simp
    | cons x l ih =>
      rw [List.flatMap_cons, List.length_append, List.length_cons]
      have := midf_len e x
      omega
  have h1 := h ((xs.drop (p + 1)).take j)
  have h2 : ((xs.drop (p + 1)).take j).length ≤ j := List.length_take_le _ _
  unfold midL
  omega

theorem stepL_len (xs : List Int) (p q : Nat) (h1 : p < q) (h2 : q < xs.length) : (stepL xs p q).length ≤ 3 * xs.length := by
  obtain ⟨e, he⟩ : ∃ e, e = xs.getD q 0 := ⟨_, rfl⟩
  have := midL_len xs p e (q - p - 1)
  unfold stepL
  rw [← he]
  simp only [List.length_append, List.length_take, List.length_drop]
  omega

theorem Lt8.at {xs : List Int} (h : Lt8 xs) (k : Nat) (hk : k < xs.length) : xs.getD k 0 ≠ 0 ∧ -8 < xs.getD k 0 ∧ xs.getD k 0 < 8 := h _ (getD_mem xs k hk)

theorem Lt8.append {xs ys : List Int} (h : Lt8 xs) (k : Lt8 ys) : Lt8 (xs ++ ys) := by
  intro x hx
  rcases List.mem_append.1 hx with hx | hx
  · exact h x hx
  · exact k x hx

theorem idx_bd {x : Int} (h : x ≠ 0 ∧ -8 < x ∧ x < 8) : 1 ≤ idx x ∧ idx x ≤ 7 := by unfold idx; split <;> omega
theorem sg_or (x : Int) : sg x = 1 ∨ sg x = -1 := by unfold sg; split <;> simp

theorem midf_lt {e z : Int} (he : e ≠ 0 ∧ -8 < e ∧ e < 8) (hz : z ≠ 0 ∧ -8 < z ∧ z < 8) : Lt8 (midf e z) := by
  have h1 := idx_bd he
  have h2 := idx_bd hz
  unfold midf
  split
  · intro x hx
    simp at hx
    have hx1 := sg_or e
    have hx2 := sg_or z
    rcases hx with rfl | rfl | rfl
    · rcases hx1 with h | h <;> rw [h] <;> omega
    · rcases hx2 with h | h <;> rw [h] <;> omega
    · rcases hx1 with h | h <;> rw [h] <;> omega
  · intro x hx
    simp at hx
    subst hx
    exact hz

theorem midL_lt {xs : List Int} (h : Lt8 xs) (p : Nat) {e : Int} (he : e ≠ 0 ∧ -8 < e ∧ e < 8) (j : Nat) : Lt8 (midL xs p e j) := by
  intro x hx
  unfold midL at hx
  rw [List.mem_flatMap] at hx
  obtain ⟨z, hz, hx⟩ := hx
  exact midf_lt he (h z (List.mem_of_mem_drop (List.mem_of_mem_take hz))) x hx

theorem stepL_lt {xs : List Int} (h : Lt8 xs) (p q : Nat) (h2 : q < xs.length) : Lt8 (stepL xs p q) := by
  unfold stepL
  refine Lt8.append (Lt8.append ?_ (midL_lt h p (h.at q h2) _)) ?_
  · exact fun x hx => h x (List.mem_of_mem_take hx)
  · exact fun x hx => h x (List.mem_of_mem_drop hx)

/-- The word to which at most f steps of the reduction lead, if it is within the limits. -/
def red : Nat → List Int → Option (List Int)
  | 0, xs => if 2000 < xs.length then none else match hand xs xs.length with
    | none => some xs
    | some _ => none
  | f + 1, xs => if 2000 < xs.length then none else match hand xs xs.length with
    | none => some xs
    | some r => red f (stepL xs r.1 r.2)

theorem red_long {f : Nat} {xs : List Int} (h : 2000 < xs.length) : red f xs = none := by
  cases f <;> simp [red, h]

theorem red_end {f : Nat} {xs : List Int} (h : ¬ 2000 < xs.length) (hh : hand xs xs.length = none) : red f xs = some xs := by
  cases f <;> simp [red, h, hh]

theorem red_more {f : Nat} {xs : List Int} {p q : Nat} (h : ¬ 2000 < xs.length) (hh : hand xs xs.length = some (p, q)) : red (f + 1) xs = red f (stepL xs p q) := by
  simp [red, h, hh]

theorem red_stop {xs : List Int} {p q : Nat} (hh : hand xs xs.length = some (p, q)) : red 0 xs = none := by
  simp [red, hh]

theorem red_out {f : Nat} {xs ys : List Int} (h : red f xs = some ys) : ys.length ≤ 2000 := by
  induction f generalizing xs with
  | zero =>
    unfold red at h
    split at h
    · cases h
    · split at h
      · cases h; omega
      · cases h
  | succ f ih =>
    unfold red at h
    split at h
    · cases h
    · split at h
      · cases h; omega
      · exact ih h

theorem red_lt {f : Nat} {xs ys : List Int} (hl : Lt8 xs) (h : red f xs = some ys) : Lt8 ys := by
  induction f generalizing xs with
  | zero =>
    unfold red at h
    split at h
    · cases h
    · split at h
      · cases h; exact hl
      · cases h
  | succ f ih =>
    unfold red at h
    split at h
    · cases h
    · split at h
      · cases h; exact hl
      · rename_i r hr
        exact ih (stepL_lt hl _ _ (hand_lt (p := r.1) (q := r.2) hr).2.1) h

/-- A step towards the least index of a word and the sign of the letters that have it. -/
def mstep (st : Int × Int) (x : Int) : Int × Int :=
  if st.1 = 0 ∨ idx x < st.1 then (idx x, sg x) else if idx x = st.1 ∧ sg x ≠ st.2 then (st.1, 0) else st

def mainS (xs : List Int) : Int × Int := xs.foldl mstep (0, 0)

/-- The least index that occurs, or 8. -/
def least (xs : List Int) : Int := xs.foldl (fun a x => min a (idx x)) 8

def hasL (xs : List Int) (v : Int) : Bool := xs.any fun x => x == v

def sgnM (xs : List Int) : Int := if hasL xs (least xs) = true ∧ hasL xs (-(least xs)) = false then 1 else if hasL xs (-(least xs)) = true ∧ hasL xs (least xs) = false then -1 else 0

theorem mainS_snoc (xs : List Int) (x : Int) : mainS (xs ++ [x]) = mstep (mainS xs) x := by simp [mainS, List.foldl_append]
theorem least_snoc (xs : List Int) (x : Int) : least (xs ++ [x]) = min (least xs) (idx x) := by simp [least, List.foldl_append]
theorem hasL_snoc (xs : List Int) (x v : Int) : hasL (xs ++ [x]) v = (hasL xs v || x == v) := by simp [hasL]

theorem snocInd {P : List Int → Prop} (h0 : P []) (h1 : ∀ xs x, P xs → P (xs ++ [x])) : ∀ xs, P xs := by
  intro xs
  have : ∀ l : List Int, P l.reverse := by
    intro l
    induction l with
    | nil => exact h0
    | cons a l ih => rw [List.reverse_cons]; exact h1 _ _ ih
  have := this xs.reverse
  rwa [List.reverse_reverse] at this

/-- What is known of the least index m and the sign s of the letters that have it. -/
def MainIs (xs : List Int) (m s : Int) : Prop :=
  (∃ x ∈ xs, idx x = m) ∧ (∀ x ∈ xs, m ≤ idx x) ∧
  ((s = 1 ∧ m ∈ xs ∧ ¬ -m ∈ xs) ∨ (s = -1 ∧ -m ∈ xs ∧ ¬ m ∈ xs) ∨ (s = 0 ∧ m ∈ xs ∧ -m ∈ xs))

theorem idx_or (x : Int) : idx x = x ∧ sg x = 1 ∧ 0 ≤ x ∨ idx x = -x ∧ sg x = -1 ∧ x < 0 := by
  unfold idx sg
  split <;> omega

theorem mainS_is (xs : List Int) : Lt8 xs → xs ≠ [] → 1 ≤ (mainS xs).1 ∧ (mainS xs).1 ≤ 7 ∧ MainIs xs (mainS xs).1 (mainS xs).2 := by
  refine snocInd (P := fun xs => Lt8 xs → xs ≠ [] → 1 ≤ (mainS xs).1 ∧ (mainS xs).1 ≤ 7 ∧ MainIs xs (mainS xs).1 (mainS xs).2) (fun _ h => absurd rfl h) (fun xs x ih hl _ => ?_) xs
  have hx := hl x (by simp)
  have hl' : Lt8 xs := fun y hy => hl y (by simp [hy])
  have hi := idx_bd hx
  rw [mainS_snoc]
  cases xs with
  | nil =>
    have e : mainS [] = (0, 0) := rfl
    rw [e]
    unfold mstep
    rw [if_pos (.inl rfl)]
    refine ⟨hi.1, hi.2, ⟨x, by simp, rfl⟩, by simp, ?_⟩
    rcases idx_or x with ⟨h1, h2, h3⟩ | ⟨h1, h2, h3⟩
    · exact .inl ⟨h2, by simp [h1], by simp [h1]; omega⟩
    · exact .inr (.inl ⟨h2, by simp [h1], by simp [h1]; omega⟩)
  | cons y ys =>
    obtain ⟨m1, m2, ⟨z, hz, hzm⟩, m4, m5⟩ := ih hl' (by simp)
    obtain ⟨m, hm⟩ : ∃ m, m = (mainS (y :: ys)).1 := ⟨_, rfl⟩
    obtain ⟨s, hs⟩ : ∃ s, s = (mainS (y :: ys)).2 := ⟨_, rfl⟩
    rw [← hm] at m1 m2 m4 m5 hzm
    rw [← hs] at m5
    obtain ⟨l, hll⟩ : ∃ l, l = y :: ys := ⟨_, rfl⟩
    rw [← hll] at hz m4 m5 hl' ⊢
    have e : mainS l = (m, s) := by rw [hll, hm, hs]
    rw [e]
    unfold mstep
    by_cases h1 : idx x < m
    · rw [if_pos (.inr h1)]
      refine ⟨hi.1, hi.2, ⟨x, by simp, rfl⟩, ?_, ?_⟩
      · intro w hw
        rcases List.mem_append.1 hw with hw | hw
        · have := m4 w hw; simp only; omega
        · simp at hw; subst hw; simp
      · have hno : ∀ v, idx v = idx x → v ∉ l := fun v hv hvl => by have := m4 v hvl; omega
        rcases idx_or x with ⟨h5, h6, h7⟩ | ⟨h5, h6, h7⟩
        · refine .inl ⟨h6, by simp [h5], ?_⟩
          simp only [List.mem_append, List.mem_singleton, not_or]
          exact ⟨hno _ (by rw [idx_neg, h5, h5]), by omega⟩
        · refine .inr (.inl ⟨h6, by simp [h5], ?_⟩)
          simp only [List.mem_append, List.mem_singleton, not_or]
          exact ⟨hno _ (by rw [h5, idx_neg]; exact h5), by omega⟩
    · rw [if_neg (by simp only; omega)]
      by_cases h2 : idx x = m ∧ sg x ≠ s
      · rw [if_pos h2]
        refine ⟨m1, m2, ⟨z, by simp [hz], hzm⟩, ?_, ?_⟩
        · intro w hw
          rcases List.mem_append.1 hw with hw | hw
          · exact m4 w hw
          · simp at hw; subst hw; simp only; omega
        · refine .inr (.inr ⟨rfl, ?_⟩)
          obtain ⟨h3, h4⟩ := h2
          have hxm : x = m ∨ x = -m := by rcases idx_or x with h | h <;> omega
          simp only [List.mem_append, List.mem_singleton]
          rcases idx_or x with ⟨h5, h6, h7⟩ | ⟨h5, h6, h7⟩
          · have hxe : x = m := by omega
            rcases m5 with ⟨g1, _, _⟩ | ⟨_, g2, _⟩ | ⟨_, g2, g3⟩
            · exact absurd (h6.trans g1.symm) h4
            · exact ⟨.inr hxe.symm, .inl g2⟩
            · exact ⟨.inl g2, .inl g3⟩
          · have hxe : x = -m := by omega
            rcases m5 with ⟨_, g2, _⟩ | ⟨g1, _, _⟩ | ⟨_, g2, g3⟩
            · exact ⟨.inl g2, .inr hxe.symm⟩
            · exact absurd (h6.trans g1.symm) h4
            · exact ⟨.inl g2, .inl g3⟩
      · rw [if_neg h2]
        refine ⟨m1, m2, ⟨z, by simp [hz], hzm⟩, ?_, ?_⟩
        · intro w hw
          rcases List.mem_append.1 hw with hw | hw
          · exact m4 w hw
          · simp at hw; subst hw; simp only; omega
        · simp only [List.mem_append, List.mem_singleton, not_or]
          have hc : idx x = m → sg x = s := fun h => Classical.byContradiction fun h' => h2 ⟨h, h'⟩
          rcases m5 with ⟨g1, g2, g3⟩ | ⟨g1, g2, g3⟩ | ⟨g1, g2, g3⟩
          · refine .inl ⟨g1, .inl g2, g3, fun h => ?_⟩
            have h8 : idx x = m := by rw [← h, idx_neg]; unfold idx; rw [if_neg (by omega)]
            have := hc h8
            rcases idx_or x with h | h <;> omega
          · refine .inr (.inl ⟨g1, .inl g2, g3, fun h => ?_⟩)
            have h8 : idx x = m := by rw [← h]; unfold idx; rw [if_neg (by omega)]
            have := hc h8
            rcases idx_or x with h | h <;> omega
          · exact .inr (.inr ⟨g1, .inl g2, .inl g3⟩)

theorem least_is (xs : List Int) : Lt8 xs → xs ≠ [] → (∃ x ∈ xs, idx x = least xs) ∧ ∀ x ∈ xs, least xs ≤ idx x := by
  refine snocInd (P := fun xs => Lt8 xs → xs ≠ [] → (∃ x ∈ xs, idx x = least xs) ∧ ∀ x ∈ xs, least xs ≤ idx x) (fun _ h => absurd rfl h) (fun xs x ih hl _ => ?_) xs
  have hx := hl x (by simp)
  have hl' : Lt8 xs := fun y hy => hl y (by simp [hy])
  have hi := idx_bd hx
  rw [least_snoc]
  cases hxs : xs with
  | nil =>
    have e : least [] = 8 := rfl
    rw [e]
    refine ⟨⟨x, by simp, by omega⟩, fun w hw => ?_⟩
    simp at hw; subst hw; omega
  | cons y ys =>
    obtain ⟨⟨z, hz, hzm⟩, m4⟩ := ih hl' (by rw [hxs]; simp)
    rw [← hxs]
    refine ⟨?_, fun w hw => ?_⟩
    · by_cases h : least xs ≤ idx x
      · exact ⟨z, by simp [hz], by omega⟩
      · exact ⟨x, by simp, by omega⟩
    · rcases List.mem_append.1 hw with hw | hw
      · have := m4 w hw; omega
      · simp at hw; subst hw; omega

theorem hasL_iff (xs : List Int) (v : Int) : hasL xs v = true ↔ v ∈ xs := by simp [hasL]

theorem hasL_no (xs : List Int) (v : Int) : hasL xs v = false ↔ v ∉ xs := by rw [← hasL_iff, Bool.not_eq_true]

/-- The two ways to the main sign agree. -/
theorem mainS_eq (xs : List Int) (hl : Lt8 xs) (hne : xs ≠ []) : mainS xs = (least xs, sgnM xs) := by
  obtain ⟨a1, a2, ⟨z, hz, hzm⟩, a4, a5⟩ := mainS_is xs hl hne
  obtain ⟨⟨y, hy, hym⟩, b2⟩ := least_is xs hl hne
  have h1 : (mainS xs).1 = least xs := by
    have c1 := a4 y hy
    have c2 := b2 z hz
    omega
  rw [h1] at a5
  refine Prod.ext h1 ?_
  unfold sgnM
  rcases a5 with ⟨g1, g2, g3⟩ | ⟨g1, g2, g3⟩ | ⟨g1, g2, g3⟩
  · rw [if_pos ⟨(hasL_iff _ _).2 g2, (hasL_no _ _).2 g3⟩]; exact g1
  · rw [if_neg (fun h => g3 ((hasL_iff _ _).1 h.1)), if_pos ⟨(hasL_iff _ _).2 g2, (hasL_no _ _).2 g3⟩]; exact g1
  · rw [if_neg (fun h => (hasL_no _ _).1 h.2 g3), if_neg (fun h => (hasL_no _ _).1 h.2 g2)]; exact g1

theorem mainS_nil : mainS [] = (0, 0) := rfl
theorem least_nil : least [] = 8 := rfl
theorem sgnM_nil : sgnM [] = 0 := rfl

theorem sgnM_snd (xs : List Int) (hl : Lt8 xs) : (mainS xs).2 = sgnM xs := by
  by_cases h : xs = []
  · subst h; rfl
  · rw [mainS_eq xs hl h]

theorem main_mul (xs : List Int) (hl : Lt8 xs) : (mainS xs).1 * (mainS xs).2 = least xs * sgnM xs := by
  by_cases h : xs = []
  · subst h; rfl
  · rw [mainS_eq xs hl h]

end Go.Proofs.YtckdhnpnkgmikaaDoor
