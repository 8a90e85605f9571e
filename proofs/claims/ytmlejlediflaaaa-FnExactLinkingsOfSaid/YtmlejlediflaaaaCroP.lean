/- The table of crossings of a braid: plain lemmas. -/
import Derived.Test.YtmlejlediflaaaaTable
import Derived.Test.YtmlejlediflaaaaLetters
import Derived.Test.YtmlejlediflaaaaKitR
namespace Go.Proofs.Ytmlejlediflaaaa
open Go.RowKit Go.ChangeShapes

/-- A row of the table. -/
def rowC (tb : List Int) (x q : Nat) : List Int := (List.range q).map fun y => at8 tb (8 * x + y)
/-- The first k rows. -/
def rowsC (tb : List Int) (q k : Nat) : List (List Int) := (List.range k).map fun x => rowC tb x q

theorem rowC_succ (tb : List Int) (x q : Nat) : rowC tb x (q + 1) = rowC tb x q ++ [at8 tb (8 * x + q)] := by simp [rowC, List.range_succ]
theorem rowsC_succ (tb : List Int) (q k : Nat) : rowsC tb q (k + 1) = rowsC tb q k ++ [rowC tb k q] := by simp [rowsC, List.range_succ]
theorem rowC_len (tb : List Int) (x q : Nat) : (rowC tb x q).length = q := by simp [rowC]
theorem rowsC_len (tb : List Int) (q k : Nat) : (rowsC tb q k).length = k := by simp [rowsC]

/-- The rows, and the code. -/
def mCro (s : Int) (ls : List Int) : List (List Int) × Int := if isBraid s ls = true then (rowsC (runT ls).2 s.toNat s.toNat, 0) else ([], 1)

theorem mCro_len {s : Int} {ls : List Int} {r : List (List Int)} {fc : Int} (h : mCro s ls = (r, fc)) : r.length ≤ 8 := by
  unfold mCro at h
  split at h
  · next hb =>
    obtain ⟨h1, h2, _, _⟩ := (isBraid_iff s ls).1 hb
    obtain ⟨rfl, _⟩ := Prod.mk.injEq .. ▸ h
    rw [rowsC_len]
    omega
  · obtain ⟨rfl, _⟩ := Prod.mk.injEq .. ▸ h
    simp

/-- Orders that agree below n give the same table. -/
theorem run_agree (n : Nat) (xs : List Int) : ∀ (l1 l2 tb : List Int), (∀ j, j < n → at8 l1 j = at8 l2 j) → n ≤ l1.length → n ≤ l2.length → (∀ x ∈ xs, x ≠ 0 ∧ -(n : Int) < x ∧ x < n) →
    (xs.foldl stepT (l1, tb)).2 = (xs.foldl stepT (l2, tb)).2 := by
  induction xs with
  | nil => intros; rfl
  | cons x xs ih =>
    intro l1 l2 tb ha h1 h2 hx
    obtain ⟨x0, x1, x2⟩ := hx x (by simp)
    obtain ⟨b1, b2, b3⟩ := idx_bounds n x x0 x1 x2
    have e1 := ha (idxN x) b2
    have e2 := ha (idxN x - 1) (by omega)
    rw [List.foldl_cons, List.foldl_cons]
    have hs : ∀ l, stepT (l, tb) x = (swapL l (idxN x), (stepT (l, tb) x).2) := fun l => rfl
    have ht : (stepT (l1, tb) x).2 = (stepT (l2, tb) x).2 := by
      unfold stepT
      simp only [e1, e2]
    rw [hs l1, hs l2, ht]
    refine ih _ _ _ (fun j hj => ?_) (by rw [swapL_len]; exact h1) (by rw [swapL_len]; exact h2) (fun y hy => hx y (by simp [hy]))
    rw [at8_swap _ _ _ (by omega) b1, at8_swap _ _ _ (by omega) b1, e1, e2, ha j hj]

/-- The order and the table behind a word, from the model's order. -/
def runS (q : Nat) (xs : List Int) : List Int × List Int := xs.foldl stepT (startM q, List.replicate 64 0)

theorem runS_tab (q : Nat) (h8 : q ≤ 8) (xs : List Int) (hx : ∀ x ∈ xs, x ≠ 0 ∧ -(q : Int) < x ∧ x < q) : (runS q xs).2 = (runT xs).2 :=
  run_agree q xs _ _ _ (start_agree q h8) (by rw [startM_len q h8]; exact h8) (by exact h8) hx

theorem runS_step (q : Nat) (xs : List Int) (k : Nat) (h : k < xs.length) : runS q (xs.take (k + 1)) = stepT (runS q (xs.take k)) (xs.getD k 0) := by
  rw [take_snoc xs k h]
  simp [runS]

/-- Order and table as the model keeps them: bytes below 8, entries small. -/
structure SOk (l tb : List Int) (b : Nat) : Prop where
  len : l.length = 8
  tlen : tb.length = 64
  bd : ∀ j, j < 8 → 0 ≤ at8 l j ∧ at8 l j < 8
  small : ∀ j, -(2 * b : Int) ≤ at8 tb j ∧ at8 tb j ≤ 2 * b

theorem SOk.step {l tb : List Int} {b : Nat} (h : SOk l tb b) (x : Int) (h1 : 1 ≤ idxN x) (h8 : idxN x < 8) : SOk (stepT (l, tb) x).1 (stepT (l, tb) x).2 (b + 1) := by
  obtain ⟨u0, u8⟩ := h.bd (idxN x - 1) (by omega)
  obtain ⟨v0, v8⟩ := h.bd (idxN x) h8
  have hc := cnt_or x
  unfold stepT
  refine ⟨by rw [swapL_len]; exact h.len, by rw [tadd_len, tadd_len]; exact h.tlen, fun j hj => ?_, fun j => ?_⟩
  · show 0 ≤ at8 (swapL l (idxN x)) j ∧ at8 (swapL l (idxN x)) j < 8
    rw [at8_swap _ _ _ (by rw [h.len]; omega) h1]
    split
    · exact ⟨u0, u8⟩
    · split
      · exact ⟨v0, v8⟩
      · exact h.bd j hj
  · have tl := h.tlen
    dsimp only
    by_cases hj : j < 64
    · unfold tadd tget
      rw [at8_set _ _ _ _ (by rw [List.length_set]; omega), at8_set _ _ _ _ (by omega), at8_set _ _ _ _ (by omega)]
      have s1 := h.small j
      have s2 := h.small (8 * (at8 l (idxN x)).toNat + (at8 l (idxN x - 1)).toNat)
      have s3 := h.small (8 * (at8 l (idxN x - 1)).toNat + (at8 l (idxN x)).toNat)
      generalize 8 * (at8 l (idxN x)).toNat + (at8 l (idxN x - 1)).toNat = p1 at *
      generalize 8 * (at8 l (idxN x - 1)).toNat + (at8 l (idxN x)).toNat = p2 at *
      split <;> split <;> omega
    · have : at8 (tadd (tadd tb (at8 l (idxN x)).toNat (at8 l (idxN x - 1)).toNat (cnt x)) (at8 l (idxN x - 1)).toNat (at8 l (idxN x)).toNat (cnt x)) j = 0 := by
        unfold at8
        rw [List.getD_eq_getElem?_getD, List.getElem?_eq_none (by rw [tadd_len, tadd_len]; omega)]
        rfl
      rw [this]
      omega

theorem SOk.start (q : Nat) (h8 : q ≤ 8) : SOk (startM q) (List.replicate 64 0) 0 := by
  refine ⟨startM_len q h8, by simp, fun j hj => ?_, fun j => by rw [at8_zeros]; omega⟩
  by_cases h : j < q
  · rw [start_agree q h8 j h]
    have : j = 0 ∨ j = 1 ∨ j = 2 ∨ j = 3 ∨ j = 4 ∨ j = 5 ∨ j = 6 ∨ j = 7 := by omega
    rcases this with rfl | rfl | rfl | rfl | rfl | rfl | rfl | rfl <;> decide
  · have : at8 (startM q) j = 0 := by
      unfold at8 startM
      rw [List.getD_eq_getElem?_getD, List.getElem?_append_right (by simp; omega)]
      simp
      rw [List.getElem?_replicate]
      split <;> rfl
    rw [this]
    omega

theorem runS_ok (q : Nat) (h8 : q ≤ 8) (xs : List Int) (hx : ∀ x ∈ xs, x ≠ 0 ∧ -(q : Int) < x ∧ x < q) (k : Nat) (hk : k ≤ xs.length) : SOk (runS q (xs.take k)).1 (runS q (xs.take k)).2 k := by
  induction k with
  | zero => exact SOk.start q h8
  | succ k ih =>
    rw [runS_step q xs k hk]
    obtain ⟨x0, x1, x2⟩ := hx _ (getD_mem xs k hk)
    obtain ⟨b1, b2, _⟩ := idx_bounds q _ x0 x1 x2
    exact (ih (by omega)).step _ b1 (by omega)

theorem runS_order (q : Nat) (xs : List Int) : (runS q xs).1 = run8 (startM q) xs := by
  unfold runS run8
  generalize List.replicate 64 (0 : Int) = tb
  generalize startM q = l
  induction xs generalizing l tb with
  | nil => rfl
  | cons x xs ih => exact ih _ _

/-- Two strands of the model's order are different. -/
theorem runS_dif (q : Nat) (h8 : q ≤ 8) (xs : List Int) (hx : ∀ x ∈ xs, x ≠ 0 ∧ -(q : Int) < x ∧ x < q) (i j : Nat) (hi : i < q) (hj : j < q) (hij : i ≠ j) : at8 (runS q xs).1 i ≠ at8 (runS q xs).1 j := by
  have ag := run8_agree q (startM q) order8 xs (start_agree q h8) (by rw [startM_len q h8]; exact h8) (by exact h8) hx
  have ok := runT_ok xs (fun x hm => by obtain ⟨a, b, c⟩ := hx x hm; exact ⟨a, by omega, by omega⟩)
  rw [runS_order, ag i hi, ag j hj, ← runT_order]
  exact fun e => hij (ok.inj i j (by omega) (by omega) e)

/-- The stores of a crossing, in the model's order. -/
theorem stepT_setsM (l tb : List Int) (x : Int) (m u v : Nat) (hm : m + 1 = idxN x) (hu : at8 l m = (u : Int)) (hv : at8 l (m + 1) = (v : Int)) (hl : tb.length = 64) (hu8 : u < 8) (hv8 : v < 8) (huv : u ≠ v) :
    stepT (l, tb) x = ((l.set m v).set (m + 1) u, (tb.set (u * 8 + v) (at8 tb (u * 8 + v) + cnt x)).set (v * 8 + u) (at8 tb (v * 8 + u) + cnt x)) := by
  have h2 : at8 (tb.set (8 * v + u) (at8 tb (8 * v + u) + cnt x)) (8 * u + v) = at8 tb (8 * u + v) := by rw [at8_set _ _ _ _ (by omega), if_neg (by omega)]
  unfold stepT swapL tadd tget
  rw [← hm]
  simp only [Nat.add_sub_cancel, hu, hv, Int.toNat_natCast, h2]
  rw [List.set_comm _ _ (show m + 1 ≠ m by omega), List.set_comm _ _ (show 8 * v + u ≠ 8 * u + v by omega), Nat.mul_comm 8 v, Nat.mul_comm 8 u]

end Go.Proofs.Ytmlejlediflaaaa
