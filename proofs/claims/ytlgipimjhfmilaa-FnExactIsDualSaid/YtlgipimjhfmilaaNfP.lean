/- Normal forms as lists of rows: weighing, and what is a normal form: plain functions and lemmas. No program is spoken of. -/
import Derived.Test.YtlgipimjhfmilaaTakeP
namespace Go.Proofs.Ytlgipimjhfmilaa

/-- The least k of m from k on for which p holds. -/
def firstB (p : Nat → Bool) : Nat → Nat → Option Nat
  | 0, _ => none
  | m + 1, k => if p k = true then some k else firstB p m (k + 1)

theorem firstB_some {p : Nat → Bool} {m k r : Nat} (h : firstB p m k = some r) : k ≤ r ∧ r < k + m ∧ p r = true ∧ ∀ j, k ≤ j → j < r → p j = false := by
  induction m generalizing k with
  | zero => simp [firstB] at h
  | succ m ih =>
    unfold firstB at h
    by_cases hb : p k = true
    · rw [if_pos hb] at h
      cases h
      exact ⟨Nat.le_refl _, by omega, hb, fun j h1 h2 => by omega⟩
    · rw [if_neg hb] at h
      obtain ⟨h1, h2, h3, h4⟩ := ih h
      refine ⟨by omega, by omega, h3, fun j h5 h6 => ?_⟩
      by_cases e : j = k
      · subst e; simpa using hb
      · exact h4 j (by omega) h6

theorem firstB_none {p : Nat → Bool} {m k : Nat} (h : firstB p m k = none) : ∀ j, k ≤ j → j < k + m → p j = false := by
  induction m generalizing k with
  | zero => intro j h1 h2; omega
  | succ m ih =>
    unfold firstB at h
    by_cases hb : p k = true
    · rw [if_pos hb] at h; cases h
    · rw [if_neg hb] at h
      intro j h1 h2
      by_cases e : j = k
      · subst e; simpa using hb
      · exact ih h j (by omega) (by omega)

theorem firstB_eq {p : Nat → Bool} {m k r : Nat} (h1 : k ≤ r) (h2 : r < k + m) (h3 : p r = true) (h4 : ∀ j, k ≤ j → j < r → p j = false) : firstB p m k = some r := by
  induction m generalizing k with
  | zero => omega
  | succ m ih =>
    unfold firstB
    by_cases e : k = r
    · subst e; rw [if_pos h3]
    · rw [if_neg (by rw [h4 k (Nat.le_refl _) (by omega)]; simp)]
      exact ih (by omega) (by omega) fun j h5 h6 => h4 j (by omega) h6

theorem firstB_no {p : Nat → Bool} {m k : Nat} (h : ∀ j, k ≤ j → j < k + m → p j = false) : firstB p m k = none := by
  induction m generalizing k with
  | zero => rfl
  | succ m ih =>
    unfold firstB
    rw [if_neg (by rw [h k (Nat.le_refl _) (by omega)]; simp)]
    exact ih fun j h1 h2 => h j (by omega) (by omega)

/-- The letter k + 1 begins x and does not begin b. -/
def mov (b x : List Int) (k : Nat) : Bool := decide (at8 x (k + 1) < at8 x k) && decide (at8 b k < at8 b (k + 1))

theorem mov_iff (b x : List Int) (k : Nat) : mov b x k = true ↔ at8 x (k + 1) < at8 x k ∧ at8 b k < at8 b (k + 1) := by simp [mov]

theorem Sim.apart {n : Nat} {b : List Int} (h : Sim n b) {i j : Nat} (hi : i < n) (hj : j < n) (hne : i ≠ j) : at8 b i ≠ at8 b j := fun e => hne (h.inj i j hi hj e)

/-- Letters are moved from the beginning of x to that of b, at most so many. -/
def weighF (n : Nat) : Nat → List Int → List Int → List Int × List Int
  | 0, b, x => (b, x)
  | f + 1, b, x => match firstB (mov b x) (n - 1) 0 with
    | none => (b, x)
    | some k => weighF n f (thenR n (exR n k) b) (thenR n (exR n k) x)

/-- All of them. -/
def weighR (n : Nat) (b x : List Int) : List Int × List Int := weighF n 200 b x

theorem weighF_more (n : Nat) (f g : Nat) (b x : List Int) (hx : Sim n x) (hf : far x < f) (hg : far x < g) : weighF n f b x = weighF n g b x := by
  induction f generalizing b x g with
  | zero => omega
  | succ f ih =>
    match g, hg with
    | g + 1, hg =>
      unfold weighF
      cases hc : firstB (mov b x) (n - 1) 0 with
      | none => rfl
      | some k =>
        obtain ⟨_, h2, h3, _⟩ := firstB_some hc
        have hl := far_less hx (show k + 1 < n by omega) ((mov_iff _ _ _).1 h3).1
        exact ih g _ _ (thenR_sim (exR_sim n k hx.hi (by omega)) hx) (by omega) (by omega)

theorem weighR_some {n k : Nat} {b x : List Int} (hx : Sim n x) (hc : firstB (mov b x) (n - 1) 0 = some k) : weighR n b x = weighR n (thenR n (exR n k) b) (thenR n (exR n k) x) := by
  obtain ⟨_, h2, h3, _⟩ := firstB_some hc
  have hl := far_less hx (show k + 1 < n by omega) ((mov_iff _ _ _).1 h3).1
  have hb := far_le hx
  unfold weighR
  rw [show (200 : Nat) = 199 + 1 from rfl, weighF, hc]
  exact weighF_more n _ _ _ _ (thenR_sim (exR_sim n k hx.hi (by omega)) hx) (by omega) (by omega)

theorem weighR_none {n : Nat} {b x : List Int} (hc : firstB (mov b x) (n - 1) 0 = none) : weighR n b x = (b, x) := by
  unfold weighR
  rw [show (200 : Nat) = 199 + 1 from rfl, weighF, hc]

theorem back_unique {n : Nat} {s t : List Int} (hs : Sim n s) (ht : Sim n t) (h : ∀ x, x < n → at8 t (at8 s x).toNat = (x : Int)) : t = backR n s := by
  refine ext8 ht.len (backR_sim hs).len fun j hj => ?_
  by_cases e : j < n
  · obtain ⟨x, hx, ex⟩ := hs.onto j e
    have h1 := h x hx
    have h2 := at8_back hs x hx
    rw [ex, Int.toNat_natCast] at h1 h2
    rw [h1, h2]
  · rw [ht.tail j (by omega), (backR_sim hs).tail j (by omega)]

theorem at8_back2 {n : Nat} {s : List Int} (h : Sim n s) (v : Nat) (hv : v < n) : at8 s (at8 (backR n s) v).toNat = (v : Int) := by
  obtain ⟨x, hx, ex⟩ := h.onto v hv
  have := at8_back h x hx
  rw [ex, Int.toNat_natCast] at this
  rw [this, Int.toNat_natCast, ex]

theorem back_backR {n : Nat} {s : List Int} (h : Sim n s) : backR n (backR n s) = s := by
  refine (back_unique (backR_sim h) h fun x hx => at8_back2 h x hx).symm

theorem wgt_up {n k : Nat} {b : List Int} (h : Sim n b) (hk : k + 1 < n) (hd : at8 b k < at8 b (k + 1)) : wgt (thenR n (exR n k) b) < wgt b := by
  rw [strip_swap h hk]
  have h8 := h.hi
  have hs := h.swap (k + 1) (by omega) hk
  have := wgt_swap hs hk (by
    rw [at8_swap b (k + 1) _ (by rw [h.len]; omega) (by omega), at8_swap b (k + 1) _ (by rw [h.len]; omega) (by omega)]
    simp; exact hd)
  rw [swap_twice b (k + 1) h.len (by omega) (by omega)] at this
  exact this

theorem weighF_sim {n : Nat} (f : Nat) {b x : List Int} (hb : Sim n b) (hx : Sim n x) : Sim n (weighF n f b x).1 ∧ Sim n (weighF n f b x).2 ∧ wgt (weighF n f b x).1 ≤ wgt b := by
  induction f generalizing b x with
  | zero => exact ⟨hb, hx, by simp [weighF]⟩
  | succ f ih =>
    unfold weighF
    cases hc : firstB (mov b x) (n - 1) 0 with
    | none => exact ⟨hb, hx, by simp⟩
    | some k =>
      obtain ⟨_, h2, h3, _⟩ := firstB_some hc
      have hk : k + 1 < n := by omega
      have he := exR_sim n k hx.hi hk
      obtain ⟨i1, i2, i3⟩ := ih (thenR_sim he hb) (thenR_sim he hx)
      have := wgt_up hb hk ((mov_iff _ _ _).1 h3).2
      exact ⟨i1, i2, by simp only; omega⟩

theorem weighR_sim {n : Nat} {b x : List Int} (hb : Sim n b) (hx : Sim n x) : Sim n (weighR n b x).1 ∧ Sim n (weighR n b x).2 := ⟨(weighF_sim 200 hb hx).1, (weighF_sim 200 hb hx).2.1⟩

/-- All letters that begin x end a. -/
def weightB (n : Nat) (a x : List Int) : Bool := (firstB (mov (backR n a) x) (n - 1) 0).isNone

theorem weightB_iff (n : Nat) (a x : List Int) : weightB n a x = true ↔ ∀ k, k + 1 < n → ¬ (at8 x (k + 1) < at8 x k ∧ at8 (backR n a) k < at8 (backR n a) (k + 1)) := by
  unfold weightB
  cases hc : firstB (mov (backR n a) x) (n - 1) 0 with
  | none =>
    simp only [Option.isNone_none, true_iff]
    intro k hk h
    have := firstB_none hc k (by omega) (by omega)
    rw [(mov_iff _ _ _).2 h] at this
    cases this
  | some k =>
    obtain ⟨_, h2, h3, _⟩ := firstB_some hc
    simp only [Option.isNone_some, Bool.false_eq_true, false_iff]
    exact fun h => h k (by omega) ((mov_iff _ _ _).1 h3)

/-- Weighing leaves the first one alone exactly if it is weighed already. -/
theorem weigh_same {n : Nat} {a x : List Int} (ha : Sim n a) (hx : Sim n x) : decide (backR n (weighR n (backR n a) x).1 = a) = weightB n a x := by
  have hb := backR_sim ha
  rw [Bool.eq_iff_iff, decide_eq_true_eq]
  unfold weightB
  cases hc : firstB (mov (backR n a) x) (n - 1) 0 with
  | none =>
    rw [weighR_none hc]
    simp [back_backR ha]
  | some k =>
    obtain ⟨_, h2, h3, _⟩ := firstB_some hc
    simp only [Option.isNone_some, Bool.false_eq_true, iff_false]
    intro h
    have hk : k + 1 < n := by omega
    have he := exR_sim n k hx.hi hk
    have hw := weighF_sim 200 (thenR_sim he hb) (thenR_sim he hx)
    have hu := wgt_up hb hk ((mov_iff _ _ _).1 h3).2
    have h5 : (weighR n (backR n a) x).1 = backR n a := by
      rw [← back_backR (weighR_sim hb hx).1, h]
    rw [weighR_some hx hc] at h5
    have h6 := hw.2.2
    unfold weighR at h5
    rw [h5] at h6
    omega

/-- The j-th of some rows. -/
def rowAt (rows : List (List Int)) (j : Nat) : List Int := rows.getD j []

/-- The j-th factor is one that a normal form may have there. -/
def okFac (n : Nat) (rows : List (List Int)) (j : Nat) : Bool :=
  simB n (rowAt rows j) && (!decide (rowAt rows j = sameR n) && (!decide (rowAt rows j = halfR n) && (decide (j = 0) || weightB n (rowAt rows (j - 1)) (rowAt rows j))))

/-- Is it a normal form? -/
def normB (s p : Int) (rows : List (List Int)) : Bool :=
  inB s 1 8 && (inB p (-200) 200 && (decide (rows.length ≤ 200) && ((decide (2 ≤ s) || decide (p = 0)) && (List.range rows.length).all (okFac s.toNat rows))))

/-- All rows have eight places. -/
def Rows8 (rows : List (List Int)) : Prop := ∀ r ∈ rows, r.length = 8

theorem rowAt_mem {rows : List (List Int)} {j : Nat} (h : j < rows.length) : rowAt rows j ∈ rows := by
  unfold rowAt
  simp [List.getD, h]

theorem Rows8.at {rows : List (List Int)} (h : Rows8 rows) {j : Nat} (hj : j < rows.length) : (rowAt rows j).length = 8 := h _ (rowAt_mem hj)

theorem normB_iff (s p : Int) (rows : List (List Int)) : normB s p rows = true ↔ (1 ≤ s ∧ s ≤ 8) ∧ (-200 ≤ p ∧ p ≤ 200) ∧ rows.length ≤ 200 ∧ (2 ≤ s ∨ p = 0) ∧ ∀ j, j < rows.length → okFac s.toNat rows j = true := by
  unfold normB
  simp only [Bool.and_eq_true, inB_iff, decide_eq_true_eq, Bool.or_eq_true, List.all_eq_true, List.mem_range]

theorem okFac_sim {n : Nat} {rows : List (List Int)} {j : Nat} (h8 : Rows8 rows) (hj : j < rows.length) (h : okFac n rows j = true) : Sim n (rowAt rows j) := by
  unfold okFac at h
  simp only [Bool.and_eq_true] at h
  obtain ⟨k, hk, hs⟩ := (simB_iff _ _ (h8.at hj)).1 h.1
  have : k = n := by omega
  subst this
  exact hs

theorem normB_bad {s p : Int} {rows : List (List Int)} {n : Nat} (hs : s = n) (j : Nat) (hj : j < rows.length) (h : okFac n rows j = false) : normB s p rows = false := by
  rw [← Bool.not_eq_true, normB_iff]
  rintro ⟨_, _, _, _, h5⟩
  have := h5 j hj
  rw [hs, Int.toNat_natCast, h] at this
  cases this

end Go.Proofs.Ytlgipimjhfmilaa
