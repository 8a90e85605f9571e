/- Images of generators. -/
import Derived.Test.YtmlejlediflaaaaPip
namespace Go.Proofs.Ytmlejlediflaaaa
open Go.RowKit Go.ChangeShapes

/-- The first k images, if none is too long. -/
def imgs (ls : List Int) : Nat → Option (List (List Int))
  | 0 => some []
  | k + 1 => match imgs ls k with
    | none => none
    | some l => match actF ls [(k : Int) + 1] with
      | none => none
      | some ys => some (l ++ [ys])

theorem imgs_len (ls : List Int) (k : Nat) (l : List (List Int)) (h : imgs ls k = some l) : l.length = k := by
  induction k generalizing l with
  | zero => cases h; rfl
  | succ k ih =>
    rw [imgs] at h
    split at h
    · cases h
    · rename_i l' hl
      split at h
      · cases h
      · cases h; simp [ih _ hl]

theorem imgs_none (ls : List Int) (k m : Nat) (h : imgs ls k = none) (hm : k ≤ m) : imgs ls m = none := by
  induction m with
  | zero => obtain rfl : k = 0 := by omega
            exact h
  | succ m ih =>
    rcases Nat.lt_or_ge m k with h1 | h1
    · obtain rfl : k = m + 1 := by omega
      exact h
    · rw [imgs, ih h1]

theorem imgs_step (ls : List Int) (k : Nat) (l : List (List Int)) (h : imgs ls k = some l) : imgs ls (k + 1) = match actF ls [(k : Int) + 1] with | none => none | some ys => some (l ++ [ys]) := by
  rw [imgs, h]

/-- The images of a braid, and the code. -/
def mImgs (n : Nat) (ls : List Int) : List (List Int) × Int := match imgs ls n with | some l => (l, 0) | none => ([], 3)

def mImages (s : Int) (ls : List Int) : List (List Int) × Int := if isBraid s ls = true then mImgs s.toNat ls else ([], 1)

theorem mImages_len (s : Int) (ls : List Int) : (mImages s ls).1.length ≤ 8 := by
  unfold mImages
  by_cases h : isBraid s ls = true
  · rw [if_pos h]
    unfold mImgs
    split
    · rename_i l hl
      have := imgs_len _ _ _ hl
      obtain ⟨h1, h2, _⟩ := (isBraid_iff s ls).1 h
      show l.length ≤ 8
      omega
    · exact Nat.zero_le _
  · rw [if_neg h]
    exact Nat.zero_le _

theorem mPass_some {ls xs ys : List Int} (h : actF ls xs = some ys) : mPass ls xs = (ys, 0) := by unfold mPass; rw [h]
theorem mPass_none {ls xs : List Int} (h : actF ls xs = none) : mPass ls xs = ([], 3) := by unfold mPass; rw [h]

end Go.Proofs.Ytmlejlediflaaaa
