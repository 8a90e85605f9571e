/- When is a braid pure: plain lemmas that tie the program's test to the model's. No program is spoken of. -/
import Derived.Test.YtehcbamfendbaaaSeTable
import Derived.Test.YtehcbamfendbaaaSeQA
namespace Go.Proofs.Ytehcbamfendbaaa

/-- All strands end where they begin. -/
def pureB (xs : List Int) : Bool := (List.range 8).all fun j => decide (at8 (run8 order8 xs) j = (j : Int))

theorem pureB_iff (xs : List Int) : pureB xs = true ↔ ∀ j, j < 8 → at8 (run8 order8 xs) j = (j : Int) := by
 simp [pureB]

/-- Is the braid pure, and the code. -/
def mPure (s : Int) (xs : List Int) : Bool × Int := if isBraid s xs = true then (pureB xs, 0) else (false, 1)

/-- The row of sixty-four zeros. -/
def zeros64 : List Int := List.replicate 64 0

theorem even_zero (tb : List Int) (hl : tb.length = 64) : (tb.map (· % 2) = zeros64) ↔ ∀ p q, p < 8 → q < 8 → tget tb p q % 2 = 0 := by
 constructor
 ·intro h p q hp hq
  have h1 : at8 (tb.map (· % 2)) (8 * p + q) = 0 := by
   rw [h]
   unfold zeros64
   exact at8_zeros 64 _
  unfold at8 at h1
  unfold tget at8
  have : 8 * p + q < tb.length := by omega
  simpa [List.getD, List.getElem?_eq_getElem this] using h1
 ·intro h
  refine List.ext_getElem (by simp [zeros64, hl]) fun j h1 h2 => ?_
  have hj : j < 64 := by simpa [hl] using h1
  have := h (j / 8) (j % 8) (by omega) (by omega)
  unfold tget at8 at this
  rw [show 8 * (j / 8) + j % 8 = j by omega] at this
  have hjl : j < tb.length := by omega
  rw [List.getD, List.getElem?_eq_getElem hjl, Option.getD_some] at this
  rw [List.getElem_map, this]
  exact (List.getElem_replicate (by simp; exact hj)).symm

theorem even_pure (xs : List Int) (hx : ∀ x ∈ xs, x ≠ 0 ∧ -8 < x ∧ x < 8) (hl : (runT xs).2.length = 64) : decide ((runT xs).2.map (· % 2) = zeros64) = pureB xs := by
 rw [Bool.eq_iff_iff, decide_eq_true_eq, pureB_iff, even_zero _ hl, (runT_ok xs hx).pure, runT_order]

/-- Places behind all letters keep their strands. -/
theorem run8_far (n : Nat) (xs : List Int) (start : List Int) (hl : start.length = 8) (h8 : n ≤ 8) (hx : ∀ x ∈ xs, x ≠ 0 ∧ -(n : Int) < x ∧ x < n) (j : Nat) (hj : n ≤ j) : at8 (run8 start xs) j = at8 start j := by
 unfold run8
 induction xs generalizing start with
 | nil => rfl
 | cons x xs ih =>
  obtain ⟨h0, h1, h2⟩ := hx x (by simp)
  obtain ⟨b1, b2, _⟩ := idx_bounds n x h0 h1 h2
  rw [List.foldl_cons, ih _ (by rw [swapL_len]; exact hl) (fun y hy => hx y (by simp [hy])), at8_swap _ _ _ (by omega) b1, if_neg (by omega), if_neg (by omega)]

theorem startM_same (n : Nat) : startM n = sameR n := rfl

theorem at8_startM (n v : Nat) (h : v < n) : at8 (run8 (startM n) []) v = (v : Int) := by
 show at8 (startM n) v = _
 rw [startM_same]
 unfold sameR
 rw [at8_mapR, if_pos h]

theorem run8_sim (n : Nat) (h1 : 1 ≤ n) (h8 : n ≤ 8) (xs : List Int) (hx : ∀ x ∈ xs, x ≠ 0 ∧ -(n : Int) < x ∧ x < n) : Sim n (run8 (startM n) xs) := by
 suffices h : ∀ s, Sim n s → Sim n (run8 s xs) from h _ (by rw [startM_same]; exact sameR_sim n h1 h8)
 unfold run8
 induction xs with
 | nil => intro s hs; exact hs
 | cons x xs ih =>
  intro s hs
  obtain ⟨h0, h2, h3⟩ := hx x (by simp)
  obtain ⟨b1, b2, _⟩ := idx_bounds n x h0 h2 h3
  rw [List.foldl_cons]
  exact ih (fun y hy => hx y (by simp [hy])) _ (hs.swap _ b1 b2)

/-- The model's test. -/
theorem perm_pure (n : Nat) (h1 : 1 ≤ n) (h8 : n ≤ 8) (xs : List Int) (hx : ∀ x ∈ xs, x ≠ 0 ∧ -(n : Int) < x ∧ x < n) :
  decide (ends 8 (run8 (startM n) xs) n = ends 8 (run8 (startM n) []) n) = pureB xs := by
 have hs := run8_sim n h1 h8 xs hx
 have h0 : Sim n (run8 (startM n) []) := run8_sim n h1 h8 [] (fun x hx => by cases hx)
 have ag := run8_agree n (startM n) order8 xs (start_agree n h8) (by rw [startM_len n h8]; exact h8) (by exact h8) hx
 rw [Bool.eq_iff_iff, decide_eq_true_eq, pureB_iff, ends_back hs, ends_back h0]
 constructor
 ·intro h j hj
  by_cases e : j < n
  ·rw [← ag j e]
   have hb := hs.bd j e
   have k1 := at8_back hs j e
   rw [h] at k1
   obtain ⟨v, hv⟩ : ∃ v : Nat, at8 (run8 (startM n) xs) j = (v : Int) := ⟨(at8 (run8 (startM n) xs) j).toNat, by omega⟩
   rw [hv, Int.toNat_natCast] at k1
   rw [hv] at hb
   have k3 : at8 (run8 (startM n) []) v = (v : Int) := at8_startM n v (by omega)
   have k2 := at8_back h0 v (by omega)
   rw [k3, Int.toNat_natCast] at k2
   rw [k2] at k1
   rw [hv]
   omega
  ·rw [run8_far n xs order8 rfl h8 hx j (by omega)]
   have : j = 0 ∨ j = 1 ∨ j = 2 ∨ j = 3 ∨ j = 4 ∨ j = 5 ∨ j = 6 ∨ j = 7 := by omega
   rcases this with rfl | rfl | rfl | rfl | rfl | rfl | rfl | rfl <;> rfl
 ·intro h
  have e : run8 (startM n) xs = run8 (startM n) [] := by
   refine ext8 hs.len h0.len fun j hj => ?_
   by_cases e : j < n
   ·rw [ag j e, h j hj, at8_startM n j e]
   ·rw [hs.tail j (by omega), h0.tail j (by omega)]
  rw [e]

end Go.Proofs.Ytehcbamfendbaaa

