/- Components as lists: labels of orbits, orbits in ascending order. No program is spoken of. -/
import Derived.Test.YtehcbamfendbaaaQB
namespace Go.Proofs.Ytehcbamfendbaaa

/-- The least numbers of orbits below x, how many there are; the label of a number. -/
noncomputable def ldr (n : Nat) (p : List Int) (x : Nat) : List Nat := (List.range x).filter fun z => decide (lstN n p z = z)
noncomputable def cntL (n : Nat) (p : List Int) (x : Nat) : Nat := (ldr n p x).length
noncomputable def labN (n : Nat) (p : List Int) (z : Nat) : Nat := cntL n p (lstN n p z)

/-- The numbers of the orbit of z, in ascending order. -/
noncomputable def srtN (n : Nat) (p : List Int) (z : Nat) : List Int := ((List.range n).filter fun x => decide (lstN n p x = z)).map fun x : Nat => (x : Int)

/-- The components. -/
noncomputable def cmpL (n : Nat) (p : List Int) : List (List Int) := (ldr n p n).map (srtN n p)

/-- The numbers with a label. -/
noncomputable def cmpK (n : Nat) (p : List Int) (k : Nat) : List Int := ((List.range n).filter fun x => decide (labN n p x = k)).map fun x : Nat => (x : Int)

theorem ldr_step (n : Nat) (p : List Int) (x : Nat) : ldr n p (x + 1) = ldr n p x ++ (if lstN n p x = x then [x] else []) := by
  unfold ldr
  rw [List.range_succ, List.filter_append]
  congr 1
  by_cases h : lstN n p x = x <;> simp [h]

theorem cntL_yes {n : Nat} {p : List Int} {x : Nat} (h : lstN n p x = x) : cntL n p (x + 1) = cntL n p x + 1 := by
  unfold cntL; rw [ldr_step, if_pos h]; simp

theorem cntL_no {n : Nat} {p : List Int} {x : Nat} (h : lstN n p x ≠ x) : cntL n p (x + 1) = cntL n p x := by
  unfold cntL; rw [ldr_step, if_neg h]; simp

theorem cntL_le (n : Nat) (p : List Int) (x : Nat) : cntL n p x ≤ x := by
  unfold cntL ldr
  have := List.length_filter_le (fun z => decide (lstN n p z = z)) (List.range x)
  simpa using this

theorem cntL_mono (n : Nat) (p : List Int) {x y : Nat} (h : x ≤ y) : cntL n p x ≤ cntL n p y := by
  induction y with
  | zero =>
    obtain rfl : x = 0 := by omega
    exact Nat.le_refl _
  | succ y ih =>
    rcases Nat.lt_or_ge y x with h1 | h1
    · obtain rfl : x = y + 1 := by omega
      exact Nat.le_refl _
    · have := ih h1
      by_cases e : lstN n p y = y
      · rw [cntL_yes e]; omega
      · rw [cntL_no e]; exact this

theorem cntL_lt {n : Nat} {p : List Int} {x y : Nat} (h : x < y) (hx : lstN n p x = x) : cntL n p x < cntL n p y := by
  have := cntL_mono n p (show x + 1 ≤ y from h)
  rw [cntL_yes hx] at this
  omega

theorem lst_idem {n : Nat} {p : List Int} (h : Sim n p) {z : Nat} (hz : z < n) : lstN n p (lstN n p z) = lstN n p z := by
  obtain ⟨a, _, ea⟩ := cmin_is (nx p) n z
  have e6 : lstN n p z = itN (nx p) a z := ea
  have := h.prm.cmin_it z hz a
  rw [← e6] at this
  exact this

theorem lab_eq {n : Nat} {p : List Int} (h : Sim n p) {x z : Nat} (hx : x < n) (hz : lstN n p z = z) : labN n p x = cntL n p z ↔ lstN n p x = z := by
  constructor
  · intro e
    rcases Nat.lt_trichotomy (lstN n p x) z with h1 | h1 | h1
    · have := cntL_lt h1 (lst_idem h hx)
      unfold labN at e; omega
    · exact h1
    · have := cntL_lt h1 hz
      unfold labN at e; omega
  · intro e; unfold labN; rw [e]

/-- The lists by labels are the lists by least numbers. -/
theorem cmpK_all {n : Nat} {p : List Int} (h : Sim n p) : ∀ x, x ≤ n → (List.range (cntL n p x)).map (cmpK n p) = (ldr n p x).map (srtN n p) := by
  intro x
  induction x with
  | zero => intro _; rfl
  | succ x ih =>
    intro hx
    by_cases e : lstN n p x = x
    · rw [cntL_yes e, ldr_step, if_pos e, List.range_succ, List.map_append, List.map_append, ih (by omega)]
      congr 1
      simp only [List.map_cons, List.map_nil, List.cons.injEq, and_true]
      unfold cmpK srtN
      congr 1
      apply List.filter_congr
      intro y hy
      have hy2 := List.mem_range.1 hy
      rw [Bool.eq_iff_iff]
      simp only [decide_eq_true_eq]
      exact lab_eq h hy2 e
    · rw [cntL_no e, ldr_step, if_neg e, List.append_nil]
      exact ih (by omega)

/-- What the model's array holds. -/
noncomputable def outC (n : Nat) (p : List Int) (x j : Nat) : List Int := (List.range 8).map fun z => if z < n ∧ lstN n p z < x then ((cntL n p (lstN n p z) : Nat) : Int) else if orbN (nx p) x j z = true then ((cntL n p x : Nat) : Int) else -1

theorem outC_len (n : Nat) (p : List Int) (x j : Nat) : (outC n p x j).length = 8 := by simp [outC]

theorem outC_at (n : Nat) (p : List Int) (x j z : Nat) (hz : z < 8) : at8 (outC n p x j) z = if z < n ∧ lstN n p z < x then ((cntL n p (lstN n p z) : Nat) : Int) else if orbN (nx p) x j z = true then ((cntL n p x : Nat) : Int) else -1 := by
  unfold outC at8
  simp [List.getD, hz]

theorem outC_start (n : Nat) (p : List Int) : outC n p 0 0 = [-1, -1, -1, -1, -1, -1, -1, -1] := by
  refine ext8 (outC_len _ _ _ _) rfl fun z hz => ?_
  rw [outC_at _ _ _ _ _ hz, if_neg (by omega), if_neg (by rw [orbN_zero]; simp)]
  have : z = 0 ∨ z = 1 ∨ z = 2 ∨ z = 3 ∨ z = 4 ∨ z = 5 ∨ z = 6 ∨ z = 7 := by omega
  rcases this with rfl | rfl | rfl | rfl | rfl | rfl | rfl | rfl <;> rfl

theorem outC_neg (n : Nat) (p : List Int) (x j z : Nat) (hz : z < 8) : metP n p x j z = false → at8 (outC n p x j) z = -1 := by
  intro h
  unfold metP at h
  rw [Bool.or_eq_false_iff] at h
  rw [outC_at _ _ _ _ _ hz, if_neg, if_neg (by rw [h.2]; simp)]
  have := h.1
  simp only [Bool.and_eq_false_iff, decide_eq_false_iff_not] at this
  omega

theorem outC_pos (n : Nat) (p : List Int) (x j z : Nat) (hz : z < 8) : metP n p x j z = true → 0 ≤ at8 (outC n p x j) z := by
  intro h
  unfold metP at h
  simp only [Bool.or_eq_true, Bool.and_eq_true, decide_eq_true_eq] at h
  rw [outC_at _ _ _ _ _ hz]
  split
  · omega
  · split
    · omega
    · rcases h with h | h
      · contradiction
      · contradiction

theorem outC_step {n : Nat} {p : List Int} {x j : Nat} (h : Sim n p) (w : Way n p x (j + 1)) : (outC n p x j).set (itN (nx p) j x) ((cntL n p x : Nat) : Int) = outC n p x (j + 1) := by
  have h8 := h.hi
  have hit := h.prm.it j x w.lt
  refine ext8 (by rw [List.length_set]; exact outC_len n p x j) (outC_len n p x (j + 1)) fun z hz => ?_
  rw [at8_set _ _ _ _ (by rw [outC_len n p]; omega), outC_at _ _ _ _ _ hz, outC_at _ _ _ _ _ hz]
  by_cases e : itN (nx p) j x = z
  · subst e
    rw [if_pos rfl]
    have hx := w.new (by omega)
    have e2 := h.prm.cmin_it x w.lt j
    have e3 : lstN n p (itN (nx p) j x) = x := by unfold lstN at hx ⊢; rw [e2, hx]
    rw [e3, if_neg (by omega), if_pos]
    rw [orbN_step]
    simp
  · rw [if_neg e, orbN_step]
    simp [e]

/-- The orbit of x is done: on to the next number. -/
theorem Way.nextC {n : Nat} {p : List Int} {x j : Nat} (w : Way n p x j) (h : Sim n p) (hm : metP n p x j (itN (nx p) j x) = true) :
    outC n p x j = outC n p (x + 1) 0 ∧ cntL n p (x + 1) = cntL n p x + (if j = 0 then 0 else 1) := by
  have h8 := h.hi
  have hn := (w.next h hm).1
  have hst := w.stop h hm
  constructor
  · refine ext8 (outC_len _ _ _ _) (outC_len _ _ _ _) fun z hz => ?_
    have hz1 := hn z hz
    unfold metP at hz1
    rw [orbN_zero, Bool.or_false, Bool.eq_iff_iff] at hz1
    simp only [Bool.or_eq_true, Bool.and_eq_true, decide_eq_true_eq] at hz1
    rw [outC_at _ _ _ _ _ hz, outC_at _ _ _ _ _ hz, orbN_zero]
    by_cases e1 : z < n ∧ lstN n p z < x
    · rw [if_pos e1, if_pos ⟨e1.1, by omega⟩]
    · rw [if_neg e1]
      by_cases e2 : orbN (nx p) x j z = true
      · have e3 := hz1.1 (.inr e2)
        rw [if_pos e2, if_pos e3]
        have : lstN n p z = x := by omega
        rw [this]
      · rw [if_neg e2, if_neg (fun e3 => (hz1.2 e3).elim (fun q => e1 q) (fun q => e2 q)), if_neg (by simp)]
  · rcases hst with ⟨h1, h2⟩ | ⟨h1, h2, -⟩
    · rw [cntL_no (by omega), if_pos h2, Nat.add_zero]
    · rw [cntL_yes h1, if_neg (by omega)]

theorem outC_end {n : Nat} {p : List Int} (h : Sim n p) (z : Nat) (hz : z < n) : at8 (outC n p n 0) z = ((labN n p z : Nat) : Int) := by
  have := h.hi
  rw [outC_at _ _ _ _ _ (by omega), if_pos ⟨hz, (lstN_bd h z hz).2⟩]
  rfl

end Go.Proofs.Ytehcbamfendbaaa
