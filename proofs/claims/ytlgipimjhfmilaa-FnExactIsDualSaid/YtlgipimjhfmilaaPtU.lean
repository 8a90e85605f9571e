/- Dual forms as lists of rows: what is a dual form. No program is spoken of. -/
import Derived.Test.YtlgipimjhfmilaaNfP
import Derived.Test.YtlgipimjhfmilaaPtT
import Derived.Test.YtlgipimjhfmilaaQB
namespace Go.Proofs.Ytlgipimjhfmilaa

/-- The j-th part is one that a dual form may have there. -/
noncomputable def okD (n : Nat) (rows : List (List Int)) (j : Nat) : Bool :=
  isPt n (rowAt rows j) && (!decide (rowAt rows j = sameR n) && (!decide (rowAt rows j = wholeR n) && (decide (j = 0) || decide (meetP n (compP n (rowAt rows (j - 1))) (rowAt rows j) = sameR n))))

/-- Are the power and the number of parts within the limits? -/
def limD (p : Int) (n : Nat) : Bool := inB p (-400) 400 && decide (n ≤ 400)

/-- Is it a dual form? -/
noncomputable def dualB (s p : Int) (rows : List (List Int)) : Bool :=
  inB s 1 8 && (limD p rows.length && ((decide (2 ≤ s) || decide (p = 0)) && (List.range rows.length).all (okD s.toNat rows)))

theorem dualB_iff (s p : Int) (rows : List (List Int)) : dualB s p rows = true ↔ (1 ≤ s ∧ s ≤ 8 ∧ limD p rows.length = true ∧ (2 ≤ s ∨ p = 0)) ∧ ∀ j, j < rows.length → okD s.toNat rows j = true := by
  unfold dualB
  simp only [Bool.and_eq_true, inB_iff, decide_eq_true_eq, Bool.or_eq_true, List.all_eq_true, List.mem_range]
  constructor
  · rintro ⟨⟨h1, h2⟩, h3, h4, h5⟩
    exact ⟨⟨h1, h2, h3, h4⟩, h5⟩
  · rintro ⟨⟨h1, h2, h3, h4⟩, h5⟩
    exact ⟨⟨h1, h2⟩, h3, h4, h5⟩

theorem dualB_head {s p : Int} {rs : List (List Int)} (h : ¬ (1 ≤ s ∧ s ≤ 8 ∧ limD p rs.length = true ∧ (2 ≤ s ∨ p = 0))) : dualB s p rs = false := by
  rw [← Bool.not_eq_true, dualB_iff]
  exact fun h2 => h h2.1

theorem dualB_all {s p : Int} {rs : List (List Int)} {m : Nat} (hs : s = m) (h : 1 ≤ s ∧ s ≤ 8 ∧ limD p rs.length = true ∧ (2 ≤ s ∨ p = 0)) (hall : ∀ j, j < rs.length → okD m rs j = true) : dualB s p rs = true := by
  rw [dualB_iff]
  refine ⟨h, fun j hj => ?_⟩
  rw [hs, Int.toNat_natCast]
  exact hall j hj

theorem dualB_bad {s p : Int} {rows : List (List Int)} {n : Nat} (hs : s = n) (j : Nat) (hj : j < rows.length) (h : okD n rows j = false) : dualB s p rows = false := by
  rw [← Bool.not_eq_true, dualB_iff]
  rintro ⟨_, h5⟩
  have := h5 j hj
  rw [hs, Int.toNat_natCast, h] at this
  cases this

theorem okD_no1 {n : Nat} {rs : List (List Int)} {j : Nat} (h : isPt n (rowAt rs j) = false) : okD n rs j = false := by unfold okD; rw [h, Bool.false_and]
theorem okD_no2 {n : Nat} {rs : List (List Int)} {j : Nat} (h : rowAt rs j = sameR n) : okD n rs j = false := by unfold okD; simp [h]
theorem okD_no3 {n : Nat} {rs : List (List Int)} {j : Nat} (h : rowAt rs j = wholeR n) : okD n rs j = false := by unfold okD; simp [h]
theorem okD_no4 {n : Nat} {rs : List (List Int)} {j : Nat} (h0 : j ≠ 0) (h : meetP n (compP n (rowAt rs (j - 1))) (rowAt rs j) ≠ sameR n) : okD n rs j = false := by unfold okD; simp [h, h0]
theorem okD_yes {n : Nat} {rs : List (List Int)} {j : Nat} (h1 : isPt n (rowAt rs j) = true) (h2 : rowAt rs j ≠ sameR n) (h3 : rowAt rs j ≠ wholeR n) (h4 : j = 0 ∨ meetP n (compP n (rowAt rs (j - 1))) (rowAt rs j) = sameR n) : okD n rs j = true := by
  unfold okD
  simp [h1, h2, h3, h4]

theorem okD_pt {n : Nat} {rows : List (List Int)} {j : Nat} (h : okD n rows j = true) : isPt n (rowAt rows j) = true := by
  unfold okD at h
  rw [Bool.and_eq_true] at h
  exact h.1

end Go.Proofs.Ytlgipimjhfmilaa
