/- Sorting a row of eight numbers by exchanges, and what it tells of simple braids: plain lemmas. No program is spoken of. -/
import Derived.Test.YthelncibpoijoaaSimp
namespace Go.Proofs.Ythelncibpoijoaa

/-- The first i places ascend. -/
def Asc (l : List Int) (i : Nat) : Prop := ∀ p q, p < q → q < i → at8 l p ≤ at8 l q

/-- The first i places ascend, but for what stands at j, which is at most what stands behind it. -/
def AscBut (l : List Int) (i j : Nat) : Prop := ∀ p q, p < q → q < i → q ≠ j → at8 l p ≤ at8 l q

theorem Asc.but {l : List Int} {i : Nat} (h : Asc l i) : AscBut l (i + 1) i := fun p q hp hq hne => h p q hp (by omega)

theorem AscBut.done {l : List Int} {i j : Nat} (h : AscBut l i j) (hj : j = 0 ∨ at8 l (j - 1) ≤ at8 l j) : Asc l i := by
  intro p q hp hq
  by_cases e : q = j
  · subst e
    rcases hj with hj | hj
    · omega
    · by_cases e2 : p = q - 1
      · rw [e2]; exact hj
      · have := h p (q - 1) (by omega) (by omega) (by omega)
        omega
  · exact h p q hp hq e

theorem AscBut.step {l : List Int} {i j : Nat} (h : AscBut l i j) (hl : l.length = 8) (hj : 1 ≤ j) (hji : j < i) (hi : i ≤ 8) (hlt : at8 l j < at8 l (j - 1)) : AscBut (swapL l j) i (j - 1) := by
  intro p q hp hq hne
  rw [at8_swap l j p (by omega) hj, at8_swap l j q (by omega) hj]
  by_cases q1 : q = j
  · subst q1
    rw [if_pos rfl]
    by_cases p1 : p = q - 1
    · rw [if_neg (by omega), if_pos p1]; omega
    · rw [if_neg (by omega), if_neg p1]
      exact h p (q - 1) (by omega) (by omega) (by omega)
  · rw [if_neg q1, if_neg hne]
    by_cases p1 : p = j
    · subst p1
      rw [if_pos rfl]
      exact h (p - 1) q (by omega) hq (by omega)
    · rw [if_neg p1]
      by_cases p2 : p = j - 1
      · rw [if_pos p2]
        exact h j q (by omega) hq (by omega)
      · rw [if_neg p2]
        exact h p q hp hq q1

theorem swap_twice (l : List Int) (j : Nat) (hl : l.length = 8) (h1 : 1 ≤ j) (h2 : j < 8) : swapL (swapL l j) j = l := by
  refine ext8 (by rw [swapL_len, swapL_len]; exact hl) hl fun x hx => ?_
  rw [at8_swap _ j x (by rw [swapL_len]; omega) h1, at8_swap l j _ (by omega) h1, at8_swap l j _ (by omega) h1, at8_swap l j _ (by omega) h1]
  by_cases e : x = j
  · subst e
    rw [if_pos rfl, if_neg (by omega), if_pos rfl]
  · rw [if_neg e]
    by_cases e2 : x = j - 1
    · rw [if_pos e2, if_pos rfl, e2]
    · rw [if_neg e2, if_neg e, if_neg e2]

theorem Sim.swap {n : Nat} {l : List Int} (h : Sim n l) (j : Nat) (h1 : 1 ≤ j) (h2 : j < n) : Sim n (swapL l j) := by
  have h8 := h.hi
  have hl := h.len
  refine ⟨h.lo, h.hi, by rw [swapL_len]; exact h.len, fun x hx => ?_, fun x y hx hy e => ?_, fun x hx => ?_⟩
  · rw [at8_swap l j x (by omega) h1]
    split
    · exact h.bd _ (by omega)
    · split
      · exact h.bd _ (by omega)
      · exact h.bd _ hx
  · rw [at8_swap l j x (by omega) h1, at8_swap l j y (by omega) h1] at e
    have a1 := h.inj (j - 1) j (by omega) h2
    have a2 := h.inj j (j - 1) h2 (by omega)
    have a3 := h.inj x y hx hy
    have a4 := h.inj (j - 1) y (by omega) hy
    have a5 := h.inj j y h2 hy
    have a6 := h.inj x (j - 1) hx (by omega)
    have a7 := h.inj x j hx h2
    by_cases x1 : x = j
    · rw [if_pos x1] at e
      by_cases y1 : y = j
      · omega
      · rw [if_neg y1] at e
        by_cases y2 : y = j - 1
        · rw [if_pos y2] at e; have := a1 e; omega
        · rw [if_neg y2] at e; have := a4 e; omega
    · rw [if_neg x1] at e
      by_cases x2 : x = j - 1
      · rw [if_pos x2] at e
        by_cases y1 : y = j
        · rw [if_pos y1] at e; have := a2 e; omega
        · rw [if_neg y1] at e
          by_cases y2 : y = j - 1
          · omega
          · rw [if_neg y2] at e; have := a5 e; omega
      · rw [if_neg x2] at e
        by_cases y1 : y = j
        · rw [if_pos y1] at e; have := a6 e; omega
        · rw [if_neg y1] at e
          by_cases y2 : y = j - 1
          · rw [if_pos y2] at e; have := a7 e; omega
          · rw [if_neg y2] at e; exact a3 e
  · rw [at8_swap l j x (by omega) h1, if_neg (by omega), if_neg (by omega)]
    exact h.tail x hx

theorem sim_swap_iff (n : Nat) (l : List Int) (hl : l.length = 8) (j : Nat) (h1 : 1 ≤ j) (h2 : j < n) (h8 : n ≤ 8) : Sim n (swapL l j) ↔ Sim n l :=
  ⟨fun h => by have := h.swap j h1 h2; rwa [swap_twice l j hl h1 (by omega)] at this, fun h => h.swap j h1 h2⟩

/-- A row that is sorted and a simple braid is that of nothing. -/
theorem sorted_same {n : Nat} {m : List Int} (h : Sim n m) (hs : Asc m n) : m = sameR n := by
  have up : ∀ j, j < n → (j : Int) ≤ at8 m j := by
    intro j
    induction j with
    | zero => intro hj; exact (h.bd 0 hj).1
    | succ j ih =>
      intro hj
      have h1 := ih (by omega)
      have h2 := hs j (j + 1) (by omega) hj
      have h3 := h.inj j (j + 1) (by omega) hj
      have : at8 m j ≠ at8 m (j + 1) := fun e => by have := h3 e; omega
      omega
  have down : ∀ i, i < n → at8 m (n - 1 - i) ≤ ((n - 1 - i : Nat) : Int) := by
    intro i
    induction i with
    | zero => intro hi; have := (h.bd (n - 1 - 0) (by omega)).2; omega
    | succ i ih =>
      intro hi
      have h1 := ih (by omega)
      have h2 := hs (n - 1 - (i + 1)) (n - 1 - i) (by omega) (by omega)
      have h3 := h.inj (n - 1 - (i + 1)) (n - 1 - i) (by omega) (by omega)
      have : at8 m (n - 1 - (i + 1)) ≠ at8 m (n - 1 - i) := fun e => by have := h3 e; omega
      omega
  refine ext8 h.len (sameR_sim n h.lo h.hi).len fun j hj => ?_
  unfold sameR
  rw [at8_mapR]
  by_cases e : j < n
  · rw [if_pos e]
    have h1 := up j e
    have h2 := down (n - 1 - j) (by omega)
    rw [show n - 1 - (n - 1 - j) = j by omega] at h2
    omega
  · rw [if_neg e]; exact h.tail j (by omega)

/-- Is the row a simple braid of n strands? -/
def simB (n : Int) (l : List Int) : Bool :=
  (decide (1 ≤ n) && decide (n ≤ 8)) && (List.range 8).all fun j =>
    if (j : Int) < n then decide (0 ≤ at8 l j) && (decide (at8 l j < n) && (List.range j).all fun i => decide (at8 l i ≠ at8 l j)) else decide (at8 l j = 0)

theorem simB_iff (n : Int) (l : List Int) (hl : l.length = 8) : simB n l = true ↔ ∃ k : Nat, n = k ∧ Sim k l := by
  unfold simB
  simp only [Bool.and_eq_true, decide_eq_true_eq, List.all_eq_true, List.mem_range]
  constructor
  · rintro ⟨⟨h1, h8⟩, h⟩
    obtain ⟨k, rfl⟩ : ∃ k : Nat, n = k := ⟨n.toNat, by omega⟩
    have h2 : ∀ j, j < k → (0 ≤ at8 l j ∧ at8 l j < k) ∧ ∀ i, i < j → at8 l i ≠ at8 l j := by
      intro j hj
      have := h j (by omega)
      rw [if_pos (by omega)] at this
      simp only [Bool.and_eq_true, decide_eq_true_eq, List.all_eq_true, List.mem_range] at this
      exact ⟨⟨this.1, this.2.1⟩, this.2.2⟩
    refine ⟨k, rfl, by omega, by omega, hl, fun j hj => (h2 j hj).1, fun i j hi hj e => ?_, fun j hj => ?_⟩
    · rcases Nat.lt_trichotomy i j with h3 | h3 | h3
      · exact absurd e ((h2 j hj).2 i h3)
      · exact h3
      · exact absurd e.symm ((h2 i hi).2 j h3)
    · by_cases h3 : j < 8
      · have := h j h3
        rw [if_neg (by omega)] at this
        simpa using this
      · exact at8_over hl j (by omega)
  · rintro ⟨k, rfl, h⟩
    have hlo := h.lo
    have hhi := h.hi
    refine ⟨⟨by omega, by omega⟩, fun j hj => ?_⟩
    by_cases e : (j : Int) < k
    · rw [if_pos e]
      simp only [Bool.and_eq_true, decide_eq_true_eq, List.all_eq_true, List.mem_range]
      have := h.bd j (by omega)
      exact ⟨this.1, this.2, fun i hi e2 => by have := h.inj i j (by omega) (by omega) e2; omega⟩
    · rw [if_neg e]
      simp only [decide_eq_true_eq]
      exact h.tail j (by omega)

theorem simB_no (n : Int) (l : List Int) (hl : l.length = 8) (h : simB n l = false) (k : Nat) (hk : n = k) : ¬ Sim k l := by
  intro hs
  have := (simB_iff n l hl).2 ⟨k, hk, hs⟩
  rw [h] at this
  cases this

/-- The sorted row tells. -/
theorem simB_sorted {k : Nat} {l m : List Int} (hl : l.length = 8) (h1 : 1 ≤ k) (h8 : k ≤ 8) (hiff : Sim k m ↔ Sim k l) (hs : Asc m k) : simB (k : Int) l = decide (m = sameR k) := by
  rw [Bool.eq_iff_iff, simB_iff _ l hl, decide_eq_true_eq]
  constructor
  · rintro ⟨j, hj, h⟩
    have : j = k := by omega
    subst this
    exact sorted_same (hiff.2 h) hs
  · intro e
    exact ⟨k, rfl, hiff.1 (by rw [e]; exact sameR_sim k h1 h8)⟩

/-- The numbers are bytes. -/
def Bytes8 (l : List Int) : Prop := ∀ j, 0 ≤ at8 l j ∧ at8 l j < 256

end Go.Proofs.Ythelncibpoijoaa
