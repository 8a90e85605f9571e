/- Blocks as the model lists them; the same lists for parts. No program is spoken of. -/
import Derived.Test.YthelncibpoijoaaQB
namespace Go.Proofs.Ythelncibpoijoaa

/-- The numbers below y of the block of x, from x on. -/
noncomputable def ownS (n : Nat) (p : List Int) (x y : Nat) : List Int := ((List.range y).filter fun z => decide (x ≤ z) && decide (lstN n p z = x)).map fun z => ((z : Nat) : Int)

theorem ownS_step (n : Nat) (p : List Int) (x y : Nat) (h : x ≤ y) : ownS n p x (y + 1) = if lstN n p y = x then ownS n p x y ++ [((y : Nat) : Int)] else ownS n p x y := by
  unfold ownS
  rw [List.range_succ, List.filter_append, List.map_append]
  by_cases e : lstN n p y = x
  · rw [if_pos e]
    simp [h, e]
  · rw [if_neg e]
    simp [e]

theorem ownS_start (n : Nat) (p : List Int) (x y : Nat) (h : y ≤ x) : ownS n p x y = [] := by
  unfold ownS
  rw [List.map_eq_nil_iff, List.filter_eq_nil_iff]
  intro z hz
  have := List.mem_range.1 hz
  simp [show ¬ x ≤ z by omega]

theorem ownS_gap (n : Nat) (p : List Int) (x y k : Nat) (h : x ≤ y) (hg : ∀ z, y ≤ z → z < y + k → lstN n p z ≠ x) : ownS n p x (y + k) = ownS n p x y := by
  induction k with
  | zero => rfl
  | succ k ih =>
    rw [← Nat.add_assoc, ownS_step n p x (y + k) (by omega), if_neg (hg (y + k) (by omega) (by omega))]
    exact ih fun z h1 h2 => hg z h1 (by omega)

theorem ownS_len (n : Nat) (p : List Int) (x y : Nat) : (ownS n p x y).length ≤ y := by
  unfold ownS
  rw [List.length_map]
  exact Nat.le_trans (List.length_filter_le _ _) (by simp)

/-- The blocks whose least numbers are below x. -/
noncomputable def blkS (n : Nat) (p : List Int) (x : Nat) : List (List Int) := ((List.range x).filter fun z => decide (lstN n p z = z)).map fun z => ownS n p z n

theorem blkS_yes (n : Nat) (p : List Int) (x : Nat) (h : lstN n p x = x) : blkS n p (x + 1) = blkS n p x ++ [ownS n p x n] := by
  simp [blkS, List.range_succ, h]

theorem blkS_no (n : Nat) (p : List Int) (x : Nat) (h : lstN n p x ≠ x) : blkS n p (x + 1) = blkS n p x := by
  simp [blkS, List.range_succ, h]

theorem blkS_len (n : Nat) (p : List Int) (x : Nat) : (blkS n p x).length = (cycL n p x).length := by
  unfold blkS cycL
  rw [List.length_map, List.length_map]

theorem ownS_pos {n : Nat} {p : List Int} (x : Nat) (hx : x < n) (h : lstN n p x = x) : 0 < (ownS n p x n).length := by
  have h1 : x ∈ (List.range n).filter fun z => decide (x ≤ z) && decide (lstN n p z = x) := by
    rw [List.mem_filter]
    exact ⟨List.mem_range.2 hx, by simp [h]⟩
  unfold ownS
  rw [List.length_map]
  exact List.length_pos_of_mem h1

/-- In a part each block is gone through upwards. -/
theorem own_cyc {n : Nat} {p : List Int} (h : Sim n p) (hasc : ∀ x, x < n → mdN (lstN n p) n x = nx p x) (x : Nat) (hx : x < n) (hl : lstN n p x = x) : blkN p x (perN p x) = ownS n p x n := by
  obtain ⟨d, h1, h2, h3, h4⟩ := h.prm.period x hx
  have hper : perN p x = d := perN_eq ⟨h1, h3, h4⟩
  have hA : ∀ j, lstN n p (itN (nx p) j x) = x := fun j => by
    have := h.prm.cmin_it x hx j
    unfold lstN at hl ⊢
    rw [this, hl]
  have hf : ∀ j, itN (nx p) (j + 1) x = mdN (lstN n p) n (itN (nx p) j x) := fun j => by rw [hasc _ (h.prm.it j x hx)]; rfl
  have hlo : ∀ j, x ≤ itN (nx p) j x := fun j => by
    have := (lstN_bd h _ (h.prm.it j x hx)).1
    rw [hA j] at this
    exact this
  have key : ∀ j, j < d → blkN p x (j + 1) = ownS n p x (itN (nx p) j x + 1) := by
    intro j
    induction j with
    | zero =>
      intro _
      show blkN p x 1 = ownS n p x (x + 1)
      rw [ownS_step n p x x (Nat.le_refl _), if_pos hl, ownS_start n p x x (Nat.le_refl _)]
      rfl
    | succ j ih =>
      intro hj
      have hlt := h.prm.it j x hx
      rcases mdN_cases (lstN n p) n (itN (nx p) j x) hlt with ⟨g1, g2, g3, g4⟩ | ⟨g1, g2⟩
      · rw [← hf j] at g1 g2 g3 g4
        rw [blkN_step, ih (by omega), ownS_step n p x _ (hlo (j + 1)), if_pos (hA (j + 1))]
        congr 1
        have e : itN (nx p) (j + 1) x = (itN (nx p) j x + 1) + (itN (nx p) (j + 1) x - (itN (nx p) j x + 1)) := by omega
        rw [e]
        exact (ownS_gap n p x _ _ (by have := hlo j; omega) (fun z z1 z2 ez => g4 z (by omega) (by omega) (by rw [hA j]; exact ez))).symm
      · rw [← hf j, hA j] at g2
        exact absurd g2 (h4 (j + 1) (by omega) hj)
  have hd := key (d - 1) (by omega)
  rw [show d - 1 + 1 = d by omega] at hd
  have hlt := h.prm.it (d - 1) x hx
  rcases mdN_cases (lstN n p) n (itN (nx p) (d - 1) x) hlt with ⟨g1, g2, g3, g4⟩ | ⟨g1, g2⟩
  · rw [← hf (d - 1), show d - 1 + 1 = d by omega, h3] at g1
    have := hlo (d - 1)
    omega
  · rw [hper, hd]
    have e : (itN (nx p) (d - 1) x + 1) + (n - (itN (nx p) (d - 1) x + 1)) = n := by omega
    have h5 := ownS_gap n p x (itN (nx p) (d - 1) x + 1) (n - (itN (nx p) (d - 1) x + 1)) (by have := hlo (d - 1); omega) (fun z z1 z2 ez => g1 z (by omega) (by omega) (by rw [hA (d - 1)]; exact ez))
    rw [e] at h5
    exact h5.symm

theorem blk_cyc {n : Nat} {p : List Int} (h : Sim n p) (hasc : ∀ x, x < n → mdN (lstN n p) n x = nx p x) : cycL n p n = blkS n p n := by
  unfold cycL blkS
  refine List.map_congr_left fun x hx => ?_
  rw [List.mem_filter, List.mem_range, decide_eq_true_eq] at hx
  exact own_cyc h hasc x hx.1 hx.2

end Go.Proofs.Ythelncibpoijoaa
