/- The table of the crossings of pairs of strands: plain lemmas. No program is spoken of. -/
import Derived.Test.YtehcbamfendbaaaSeQA
import Derived.Test.YtehcbamfendbaaaSeLetters
namespace Go.Proofs.Ytehcbamfendbaaa

/-- The entry of two strands; a count is added to it. -/
def tget (tb : List Int) (p q : Nat) : Int := at8 tb (8 * p + q)
def tadd (tb : List Int) (p q : Nat) (c : Int) : List Int := tb.set (8 * p + q) (tget tb p q + c)

/-- One crossing: the order behind it, and the table with its count. -/
def stepT (z : List Int × List Int) (x : Int) : List Int × List Int :=
 (swapL z.1 (idxN x), tadd (tadd z.2 (at8 z.1 (idxN x)).toNat (at8 z.1 (idxN x - 1)).toNat (cnt x)) (at8 z.1 (idxN x - 1)).toNat (at8 z.1 (idxN x)).toNat (cnt x))

/-- The order and the table behind a word. -/
def runT (xs : List Int) : List Int × List Int := xs.foldl stepT (order8, List.replicate 64 0)

theorem tadd_len (tb : List Int) (p q : Nat) (c : Int) : (tadd tb p q c).length = tb.length := by simp [tadd]

theorem tget_tadd (tb : List Int) (p q p' q' : Nat) (c : Int) (hl : tb.length = 64) (hp : p < 8) (hq : q < 8) (_hp' : p' < 8) (hq' : q' < 8) :
  tget (tadd tb p q c) p' q' = if p = p' ∧ q = q' then tget tb p q + c else tget tb p' q' := by
 unfold tadd
 show at8 (tb.set (8 * p + q) (tget tb p q + c)) (8 * p' + q') = _
 rw [at8_set _ _ _ _ (by omega)]
 by_cases h : p = p' ∧ q = q'
 ·rw [if_pos h, if_pos (by omega)]
 ·rw [if_neg h, if_neg (by omega)]
  rfl

theorem runT_step (xs : List Int) (k : Nat) (h : k < xs.length) : runT (xs.take (k + 1)) = stepT (runT (xs.take k)) (xs.getD k 0) := by
 rw [take_snoc xs k h]
 simp [runT]

theorem runT_order (xs : List Int) : (runT xs).1 = run8 order8 xs := by
 unfold runT run8
 generalize List.replicate 64 (0 : Int) = tb
 generalize order8 = l
 induction xs generalizing l tb with
 | nil => rfl
 | cons x xs ih => exact ih _ _

/-- What holds of the order and the table behind b crossings. -/
structure TOk (l tb : List Int) (b : Nat) : Prop where
 len : l.length = 8
 tlen : tb.length = 64
 bd : ∀ j, j < 8 → 0 ≤ at8 l j ∧ at8 l j < 8
 inj : ∀ i j, i < 8 → j < 8 → at8 l i = at8 l j → i = j
 sym : ∀ p q, p < 8 → q < 8 → tget tb p q = tget tb q p
 diag : ∀ p, p < 8 → tget tb p p = 0
 small : ∀ p q, p < 8 → q < 8 → -(b : Int) ≤ tget tb p q ∧ tget tb p q ≤ b
 par : ∀ i j, i < j → j < 8 → (tget tb (at8 l i).toNat (at8 l j).toNat % 2 = 1 ↔ at8 l j < at8 l i)

theorem at8_zeros (n j : Nat) : at8 (List.replicate n 0) j = 0 := by
 unfold at8
 by_cases h : j < n
 ·simp [List.getD, h]
 ·simp [List.getD, h]

theorem TOk.start : TOk order8 (List.replicate 64 0) 0 := by
 have e : ∀ j, j < 8 → at8 order8 j = (j : Int) := by
  intro j hj
  have : j = 0 ∨ j = 1 ∨ j = 2 ∨ j = 3 ∨ j = 4 ∨ j = 5 ∨ j = 6 ∨ j = 7 := by omega
  rcases this with rfl | rfl | rfl | rfl | rfl | rfl | rfl | rfl <;> decide
 have z : ∀ p q, p < 8 → q < 8 → tget (List.replicate 64 0) p q = 0 := by
  intro p q _ _
  exact at8_zeros 64 _
 refine ⟨rfl, by simp, fun j hj => by rw [e j hj]; omega, fun i j hi hj h => by rw [e i hi, e j hj] at h; omega, fun p q hp hq => by rw [z p q hp hq, z q p hq hp], fun p hp => z p p hp hp,
  fun p q hp hq => by rw [z p q hp hq]; omega, fun i j hij hj => ?_⟩
 rw [e i (by omega), e j hj, z _ _ (by omega) (by omega)]
 omega

theorem cnt_or (x : Int) : cnt x = -1 ∨ cnt x = 1 := by unfold cnt; split <;> simp

theorem TOk.step {l tb : List Int} {b : Nat} (h : TOk l tb b) (x : Int) (h1 : 1 ≤ idxN x) (h8 : idxN x < 8) : TOk (stepT (l, tb) x).1 (stepT (l, tb) x).2 (b + 1) := by
 obtain ⟨m, hm⟩ : ∃ m, m = idxN x := ⟨_, rfl⟩
 obtain ⟨q, rfl⟩ : ∃ q, m = q + 1 := ⟨m - 1, by omega⟩
 unfold stepT
 rw [← hm] at h1 h8 ⊢
 simp only [Nat.add_sub_cancel]
 obtain ⟨u0, u8⟩ := h.bd q (by omega)
 obtain ⟨v0, v8⟩ := h.bd (q + 1) h8
 have hne : at8 l q ≠ at8 l (q + 1) := fun e => by have := h.inj q (q + 1) (by omega) h8 e; omega
 obtain ⟨u, hu⟩ : ∃ u : Nat, at8 l q = u := ⟨(at8 l q).toNat, by omega⟩
 obtain ⟨v, hv⟩ : ∃ v : Nat, at8 l (q + 1) = v := ⟨(at8 l (q + 1)).toNat, by omega⟩
 rw [hu, hv, Int.toNat_natCast, Int.toNat_natCast]
 have hu8 : u < 8 := by omega
 have hv8 : v < 8 := by omega
 have huv : u ≠ v := by omega
 have hc := cnt_or x
 obtain ⟨c, hcc⟩ : ∃ c, c = cnt x := ⟨_, rfl⟩
 rw [← hcc] at hc ⊢
 have T : ∀ p r, p < 8 → r < 8 → tget (tadd (tadd tb v u c) u v c) p r = if (p = u ∧ r = v) ∨ (p = v ∧ r = u) then tget tb p r + c else tget tb p r := by
  intro p r hp hr
  rw [tget_tadd _ u v p r c (by rw [tadd_len]; exact h.tlen) hu8 hv8 hp hr, tget_tadd _ v u u v c h.tlen hv8 hu8 hu8 hv8, tget_tadd _ v u p r c h.tlen hv8 hu8 hp hr]
  rw [if_neg (by omega : ¬ (v = u ∧ u = v))]
  by_cases e1 : p = u ∧ r = v
  ·obtain ⟨rfl, rfl⟩ := e1
   simp
  ·by_cases e2 : p = v ∧ r = u
   ·obtain ⟨rfl, rfl⟩ := e2
    simp [huv]
   ·rw [if_neg (by omega), if_neg (by omega), if_neg (by omega)]
 have S : ∀ j, j < 8 → at8 (swapL l (q + 1)) j = if j = q + 1 then (u : Int) else if j = q then (v : Int) else at8 l j := by
  intro j hj
  rw [at8_swap l (q + 1) j (by rw [h.len]; exact h8) (by omega)]
  simp only [Nat.add_sub_cancel, hu, hv]
 have far : ∀ j, j < 8 → j ≠ q → j ≠ q + 1 → at8 l j ≠ u ∧ at8 l j ≠ v := by
  intro j hj e1 e2
  exact ⟨fun e => e1 (h.inj j q hj (by omega) (by rw [e, hu])), fun e => e2 (h.inj j (q + 1) hj h8 (by rw [e, hv]))⟩
 refine ⟨by rw [swapL_len]; exact h.len, by rw [tadd_len, tadd_len]; exact h.tlen, fun j hj => ?_, fun i j hi hj e => ?_, fun p r hp hr => ?_, fun p hp => ?_, fun p r hp hr => ?_, fun i j hij hj => ?_⟩
 ·rw [S j hj]
  have := h.bd j hj
  split
  ·omega
  ·split <;> omega
 ·rw [S i hi, S j hj] at e
  have f1 := far i hi
  have f2 := far j hj
  have f3 := h.inj i j hi hj
  by_cases a1 : i = q + 1 <;> by_cases a2 : i = q <;> by_cases a3 : j = q + 1 <;> by_cases a4 : j = q <;> simp only [a1, a2, a3, a4, if_true, if_false] at e <;> omega
 ·rw [T p r hp hr, T r p hr hp, h.sym p r hp hr]
  by_cases e1 : (p = u ∧ r = v) ∨ (p = v ∧ r = u)
  ·rw [if_pos e1, if_pos (by omega)]
  ·rw [if_neg e1, if_neg (by omega)]
 ·rw [T p p hp hp, if_neg (by omega)]
  exact h.diag p hp
 ·rw [T p r hp hr]
  have := h.small p r hp hr
  split <;> omega
 ·by_cases e : i = q ∧ j = q + 1
  ·obtain ⟨rfl, rfl⟩ := e
   rw [S i (by omega), S (i + 1) hj, if_neg (by omega), if_pos rfl, if_pos rfl, Int.toNat_natCast, Int.toNat_natCast, T v u hv8 hu8, if_pos (by omega), h.sym v u hv8 hu8]
   have hp := h.par i (i + 1) hij hj
   rw [hu, hv, Int.toNat_natCast, Int.toNat_natCast] at hp
   constructor
   ·intro g
    have : ¬ (tget tb u v % 2 = 1) := by omega
    have := fun z => this (hp.2 z)
    omega
   ·intro g
    have : ¬ (tget tb u v % 2 = 1) := fun z => by have := hp.1 z; omega
    omega
  ·obtain ⟨i', hi'⟩ : ∃ i', i' = if i = q + 1 then q else if i = q then q + 1 else i := ⟨_, rfl⟩
   obtain ⟨j', hj'⟩ : ∃ j', j' = if j = q + 1 then q else if j = q then q + 1 else j := ⟨_, rfl⟩
   have ei : at8 (swapL l (q + 1)) i = at8 l i' := by
    rw [S i (by omega), hi']
    split
    ·rw [hu]
    ·split
     ·rw [hv]
     ·rfl
   have ej : at8 (swapL l (q + 1)) j = at8 l j' := by
    rw [S j hj, hj']
    split
    ·rw [hu]
    ·split
     ·rw [hv]
     ·rfl
   have l1 : i' < j' ∧ j' < 8 ∧ ¬ (i' = q ∧ j' = q + 1) := by
    rw [hi', hj']
    split <;> split <;> (try split) <;> (try split) <;> omega
   obtain ⟨l1, l2, l3⟩ := l1
   have hp := h.par i' j' l1 l2
   obtain ⟨g1, g2⟩ := h.bd i' (by omega)
   obtain ⟨g3, g4⟩ := h.bd j' l2
   rw [ei, ej]
   have n1 : ¬ (at8 l i' = u ∧ at8 l j' = v) := fun z => l3 ⟨h.inj i' q (by omega) (by omega) (by rw [z.1, hu]), h.inj j' (q + 1) l2 h8 (by rw [z.2, hv])⟩
   have n2 : ¬ (at8 l i' = v ∧ at8 l j' = u) := fun z => by
    have y1 := h.inj i' (q + 1) (by omega) h8 (by rw [z.1, hv])
    have y2 := h.inj j' q l2 (by omega) (by rw [z.2, hu])
    omega
   rw [T _ _ (by omega) (by omega), if_neg (by omega)]
   exact hp

/-- Behind a word: what holds of its order and its table. -/
theorem runT_ok (xs : List Int) (hx : ∀ x ∈ xs, x ≠ 0 ∧ -8 < x ∧ x < 8) : TOk (runT xs).1 (runT xs).2 xs.length := by
 suffices H : ∀ k, k ≤ xs.length → TOk (runT (xs.take k)).1 (runT (xs.take k)).2 k by
  have := H xs.length (Nat.le_refl _)
  rwa [List.take_length] at this
 intro k
 induction k with
 | zero => intro _; exact TOk.start
 | succ k ih =>
  intro hk
  rw [runT_step xs k hk]
  obtain ⟨h0, h1, h2⟩ := hx _ (getD_mem xs k hk)
  obtain ⟨b1, b2, _⟩ := idx_bounds 8 _ h0 (by omega) (by omega)
  exact (ih (by omega)).step _ b1 b2

/-- All counts are even exactly if the order is the first order. -/
theorem TOk.pure {l tb : List Int} {b : Nat} (h : TOk l tb b) : (∀ p q, p < 8 → q < 8 → tget tb p q % 2 = 0) ↔ ∀ j, j < 8 → at8 l j = j := by
 constructor
 ·intro ev
  have up : ∀ i j, i < j → j < 8 → at8 l i < at8 l j := by
   intro i j hij hj
   have hp := h.par i j hij hj
   have e := ev (at8 l i).toNat (at8 l j).toNat (by have := h.bd i (by omega); omega) (by have := h.bd j hj; omega)
   have : ¬ at8 l j < at8 l i := fun z => by have := hp.2 z; omega
   have : at8 l i ≠ at8 l j := fun z => by have := h.inj i j (by omega) hj z; omega
   omega
  have b0 := (h.bd 0 (by omega)).1
  have b7 := (h.bd 7 (by omega)).2
  have s0 := up 0 1 (by omega) (by omega)
  have s1 := up 1 2 (by omega) (by omega)
  have s2 := up 2 3 (by omega) (by omega)
  have s3 := up 3 4 (by omega) (by omega)
  have s4 := up 4 5 (by omega) (by omega)
  have s5 := up 5 6 (by omega) (by omega)
  have s6 := up 6 7 (by omega) (by omega)
  intro j hj
  have : j = 0 ∨ j = 1 ∨ j = 2 ∨ j = 3 ∨ j = 4 ∨ j = 5 ∨ j = 6 ∨ j = 7 := by omega
  rcases this with rfl | rfl | rfl | rfl | rfl | rfl | rfl | rfl <;> omega
 ·intro id p q hp hq
  have key : ∀ p q, p < q → q < 8 → tget tb p q % 2 = 0 := by
   intro p q hpq hq
   have := h.par p q hpq hq
   rw [id p (by omega), id q hq, Int.toNat_natCast, Int.toNat_natCast] at this
   have : ¬ tget tb p q % 2 = 1 := fun z => by have := this.1 z; omega
   omega
  by_cases e : p = q
  ·rw [e, h.diag q hq]
   rfl
  ·by_cases e2 : p < q
   ·exact key p q e2 hq
   ·rw [h.sym p q hp hq]
    exact key q p (by omega) hp

end Go.Proofs.Ytehcbamfendbaaa

