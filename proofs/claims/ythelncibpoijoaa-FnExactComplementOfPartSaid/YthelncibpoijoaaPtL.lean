/- Least numbers of blocks as rows; what the loops of the model and of the program hold. No program is spoken of. -/
import Derived.Test.YthelncibpoijoaaPtP
import Derived.Test.YthelncibpoijoaaPtR
namespace Go.Proofs.Ythelncibpoijoaa

/-- The next number. -/
def nx (p : List Int) (x : Nat) : Nat := (at8 p x).toNat

theorem Sim.nx {n : Nat} {p : List Int} (h : Sim n p) (x : Nat) : (at8 p x) = (Go.Proofs.Ythelncibpoijoaa.nx p x : Nat) := by
  have := h.all x
  unfold Go.Proofs.Ythelncibpoijoaa.nx
  omega

theorem Sim.prm {n : Nat} {p : List Int} (h : Sim n p) : Prm n (Go.Proofs.Ythelncibpoijoaa.nx p) where
  bd := fun j hj => by have := h.bd j hj; unfold Go.Proofs.Ythelncibpoijoaa.nx; omega
  inj := fun i j hi hj e => h.inj i j hi hj (by rw [h.nx i, h.nx j, e])
  tail := fun j hj => by unfold Go.Proofs.Ythelncibpoijoaa.nx; rw [h.tail j hj]; rfl

/-- The least number of the block of each number. -/
noncomputable def lstN (n : Nat) (p : List Int) (x : Nat) : Nat := cmin (nx p) n x
noncomputable def lstR (n : Nat) (p : List Int) : List Int := mapR n fun x => ((lstN n p x : Nat) : Int)
noncomputable def lstM (n : Int) (p : List Int) : List Int := if simB n p = true then lstR n.toNat p else [0, 0, 0, 0, 0, 0, 0, 0]

theorem lstN_bd {n : Nat} {p : List Int} (h : Sim n p) (x : Nat) (hx : x < n) : lstN n p x ≤ x ∧ lstN n p x < n := h.prm.cmin_lt x hx

/-- Met so far: the blocks of the numbers below x, and the first j numbers of the block of x. -/
noncomputable def metP (n : Nat) (p : List Int) (x j z : Nat) : Bool := (decide (z < n) && decide (lstN n p z < x)) || orbN (nx p) x j z
noncomputable def outP (n : Nat) (p : List Int) (x j : Nat) : List Int := mapR n fun z => if lstN n p z < x then ((lstN n p z : Nat) : Int) else if orbN (nx p) x j z = true then (x : Int) else 0

theorem outP_len (n : Nat) (h8 : n ≤ 8) (p : List Int) (x j : Nat) : (outP n p x j).length = 8 := mapR_len _ _ h8

theorem orbN_zero (f : Nat → Nat) (x z : Nat) : orbN f x 0 z = false := rfl

theorem metP_start (n : Nat) (p : List Int) (z : Nat) : metP n p 0 0 z = false := by
  simp [metP, orbN_zero]

theorem outP_start (n : Nat) (h8 : n ≤ 8) (p : List Int) : outP n p 0 0 = [0, 0, 0, 0, 0, 0, 0, 0] := by
  refine ext8 (outP_len n h8 p 0 0) rfl fun j hj => ?_
  unfold outP
  rw [at8_mapR]
  have e : at8 [0, 0, 0, 0, 0, 0, 0, 0] j = 0 := by
    have : j = 0 ∨ j = 1 ∨ j = 2 ∨ j = 3 ∨ j = 4 ∨ j = 5 ∨ j = 6 ∨ j = 7 := by omega
    rcases this with rfl | rfl | rfl | rfl | rfl | rfl | rfl | rfl <;> rfl
  rw [e]
  split
  · rw [if_neg (by omega), if_neg (by rw [orbN_zero]; simp)]
  · rfl

/-- What the way holds while it is gone: all of its numbers are new and different. -/
structure Way (n : Nat) (p : List Int) (x j : Nat) : Prop where
  lt : x < n
  new : 0 < j → lstN n p x = x
  dif : ∀ i, 1 ≤ i → i < j → itN (nx p) i x ≠ x

theorem Way.start {n : Nat} {p : List Int} (x : Nat) (hx : x < n) : Way n p x 0 := ⟨hx, fun h => by omega, fun i _ hi => by omega⟩

theorem Way.here {n : Nat} {p : List Int} {x j : Nat} (w : Way n p x j) (h : Sim n p) : itN (nx p) j x < n := h.prm.it j x w.lt

theorem Way.le {n : Nat} {p : List Int} {x j : Nat} (w : Way n p x j) (h : Sim n p) : j ≤ n := by
  obtain ⟨d, h1, h2, h3, _⟩ := h.prm.period x w.lt
  by_cases e : j ≤ d
  · omega
  · exact absurd h3 (w.dif d h1 (by omega))

/-- The number at hand is met before: the block of x is done. -/
theorem Way.stop {n : Nat} {p : List Int} {x j : Nat} (w : Way n p x j) (h : Sim n p) (hm : metP n p x j (itN (nx p) j x) = true) :
    (lstN n p x < x ∧ j = 0) ∨ (lstN n p x = x ∧ 1 ≤ j ∧ itN (nx p) j x = x) := by
  have hl := (lstN_bd h x w.lt).1
  have e := h.prm.cmin_it x w.lt j
  by_cases hj : j = 0
  · subst hj
    refine .inl ⟨?_, rfl⟩
    unfold metP at hm
    rw [orbN_zero, Bool.or_false, Bool.and_eq_true, decide_eq_true_eq, decide_eq_true_eq] at hm
    exact hm.2
  · have hx := w.new (by omega)
    refine .inr ⟨hx, by omega, ?_⟩
    unfold metP at hm
    rw [Bool.or_eq_true, Bool.and_eq_true, decide_eq_true_eq, decide_eq_true_eq, orbN_iff] at hm
    rcases hm with ⟨_, h2⟩ | ⟨i, hi, ei⟩
    · unfold lstN at h2 hx
      rw [e] at h2
      omega
    · by_cases h0 : i = 0
      · subst h0; exact ei.symm
      · exfalso
        have e2 : itN (nx p) (j - i) x = x := by
          refine h.prm.it_inj i _ _ (h.prm.it _ x w.lt) w.lt ?_
          rw [← itN_add, show i + (j - i) = j by omega, ei]
        exact w.dif (j - i) (by omega) (by omega) e2

/-- The number at hand is new. -/
theorem Way.go {n : Nat} {p : List Int} {x j : Nat} (w : Way n p x j) (h : Sim n p) (hm : metP n p x j (itN (nx p) j x) = false) :
    Way n p x (j + 1) ∧ j < n := by
  unfold metP at hm
  rw [Bool.or_eq_false_iff] at hm
  have hx : lstN n p x = x := by
    by_cases hj : j = 0
    · subst hj
      have := (lstN_bd h x w.lt).1
      have h2 := hm.1
      have h3 : itN (nx p) 0 x = x := rfl
      rw [h3] at h2
      have hxl := w.lt
      simp only [Bool.and_eq_false_iff, decide_eq_false_iff_not] at h2
      omega
    · exact w.new (by omega)
  have key : Way n p x (j + 1) := ⟨w.lt, fun _ => hx, fun i h1 hi e => by
    by_cases e2 : i = j
    · subst e2
      have h3 := hm.2
      rw [← Bool.not_eq_true, orbN_iff] at h3
      exact h3 ⟨0, by omega, e.symm⟩
    · exact w.dif i h1 (by omega) e⟩
  exact ⟨key, by have := key.le h; omega⟩

theorem metP_step (n : Nat) (p : List Int) (x j z : Nat) : metP n p x (j + 1) z = if itN (nx p) j x = z then true else metP n p x j z := by
  unfold metP
  rw [orbN_step]
  by_cases e : itN (nx p) j x = z
  · simp [e]
  · simp [e]

theorem outP_step {n : Nat} {p : List Int} {x j : Nat} (h : Sim n p) (w : Way n p x (j + 1)) : (outP n p x j).set (itN (nx p) j x) (x : Int) = outP n p x (j + 1) := by
  have h8 := h.hi
  have hit := h.prm.it j x w.lt
  refine ext8 (by rw [List.length_set]; exact outP_len n h8 p x j) (outP_len n h8 p x (j + 1)) fun z hz => ?_
  rw [at8_set _ _ _ _ (by rw [outP_len n h8]; omega)]
  unfold outP
  rw [at8_mapR, at8_mapR]
  by_cases e : itN (nx p) j x = z
  · subst e
    rw [if_pos rfl, if_pos hit]
    have hx := w.new (by omega)
    have e2 := h.prm.cmin_it x w.lt j
    have e3 : lstN n p (itN (nx p) j x) = x := by unfold lstN at hx ⊢; rw [e2, hx]
    rw [e3, if_neg (by omega), if_pos]
    rw [orbN_step]
    simp
  · rw [if_neg e, orbN_step]
    simp [e]

/-- The block of x is done: on to the next number. -/
theorem Way.next {n : Nat} {p : List Int} {x j : Nat} (w : Way n p x j) (h : Sim n p) (hm : metP n p x j (itN (nx p) j x) = true) :
    (∀ z, z < 8 → metP n p x j z = metP n p (x + 1) 0 z) ∧ outP n p x j = outP n p (x + 1) 0 := by
  have h8 := h.hi
  have hlx := (lstN_bd h x w.lt)
  have key : ∀ z, z < n → (orbN (nx p) x j z = true ↔ (1 ≤ j ∧ lstN n p z = x)) := by
    intro z hz
    rcases w.stop h hm with ⟨h1, h2⟩ | ⟨h1, h2, h3⟩
    · subst h2
      rw [orbN_zero]
      simp
    · rw [h.prm.orb_all x j z w.lt hz h2 h3]
      change lstN n p z = lstN n p x ↔ _
      rw [h1]
      simp [h2]
  have none : j = 0 → ∀ z, z < n → lstN n p z ≠ x := by
    intro hj z hz e
    rcases w.stop h hm with ⟨h1, h2⟩ | ⟨h1, h2, h3⟩
    · have h4 : lstN n p x = x := by
        obtain ⟨a, _, ea⟩ := cmin_is (nx p) n z
        have e6 : lstN n p z = itN (nx p) a z := ea
        have e7 : lstN n p (lstN n p z) = lstN n p z := by
          have := h.prm.cmin_it z hz a
          rw [← e6] at this
          exact this
        rwa [e] at e7
      omega
    · omega
  have hcase : j = 0 ∨ 1 ≤ j := by omega
  refine ⟨fun z hz => ?_, ?_⟩
  · unfold metP
    rw [orbN_zero, Bool.or_false, Bool.eq_iff_iff]
    simp only [Bool.or_eq_true, Bool.and_eq_true, decide_eq_true_eq]
    by_cases hzn : z < n
    · rw [key z hzn]
      rcases hcase with hj | hj
      · have := none hj z hzn
        omega
      · omega
    · have : orbN (nx p) x j z = false := by
        rw [← Bool.not_eq_true, orbN_iff]
        rintro ⟨i, _, rfl⟩
        exact hzn (h.prm.it i x w.lt)
      rw [this]
      simp [hzn]
  · unfold outP
    refine mapR_congr _ _ _ fun z hz => ?_
    rw [orbN_zero, if_neg (show ¬ (false = true) by simp)]
    by_cases e1 : lstN n p z < x
    · rw [if_pos e1, if_pos (by omega)]
    · rw [if_neg e1]
      by_cases e2 : lstN n p z = x
      · rcases hcase with hj | hj
        · exact absurd e2 (none hj z hz)
        · rw [if_pos ((key z hz).2 ⟨hj, e2⟩), if_pos (by omega), e2]
      · rw [if_neg (fun e => e2 ((key z hz).1 e).2), if_neg (by omega)]

theorem outP_end {n : Nat} {p : List Int} (h : Sim n p) : outP n p n 0 = lstR n p := by
  unfold outP lstR
  exact mapR_congr _ _ _ fun z hz => by rw [if_pos (lstN_bd h z hz).2]

end Go.Proofs.Ythelncibpoijoaa
