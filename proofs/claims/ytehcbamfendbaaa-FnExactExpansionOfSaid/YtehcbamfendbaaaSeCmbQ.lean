/- Free words of combs, letter by letter: plain. -/
import Derived.Test.YtehcbamfendbaaaSeCmbP
import Derived.Test.YtehcbamfendbaaaSeMg15
namespace Go.Proofs.Ytehcbamfendbaaa
open Go.RowKit Go.ChangeShapes

/-- Nothing can be taken away. -/
def Red (f : List Int) : Prop := joinF [] f = f

theorem Red.nil : Red [] := rfl

theorem joinF_snoc (a b : List Int) (x : Int) : joinF a (b ++ [x]) = freeStep (joinF a b) x := by rw [joinF_app]; rfl

theorem Red.front {g : List Int} {y : Int} (h : Red (g ++ [y])) : Red g := by
 unfold Red at h ⊢
 rw [joinF_snoc] at h
 unfold freeStep at h
 have hl := joinF_len [] g
 rw [List.length_nil, Nat.zero_add] at hl
 split at h
 ·have := congrArg List.length h
  rw [List.length_dropLast, List.length_append, List.length_singleton] at this
  omega
 ·exact (List.append_inj' h rfl).1

theorem Red.step {f : List Int} (h : Red f) (x : Int) : Red (freeStep f x) := by
 by_cases hx : f.getLast? = some (-x)
 ·have e : freeStep f x = f.dropLast := if_pos hx
  rw [e]
  rcases List.eq_nil_or_concat f with rfl | ⟨g, y, rfl⟩
  ·simp at hx
  ·rw [List.concat_eq_append, List.dropLast_concat]
   rw [List.concat_eq_append] at h
   exact h.front
 ·have e : freeStep f x = f ++ [x] := if_neg hx
  unfold Red at h ⊢
  rw [e, joinF_snoc, h, e]

theorem Red.join {f : List Int} (h : Red f) (own : List Int) : Red (joinF f own) := by
 induction own generalizing f with
 | nil => exact h
 | cons x xs ih => exact ih (h.step x)

theorem red_free (xs : List Int) : Red (joinF [] xs) := Red.nil.join xs

theorem free_join {f : List Int} (h : Red f) (own : List Int) : joinF [] (f ++ own) = joinF f own := by
 rw [joinF_app, show joinF [] f = f from h]

theorem actL_nil (l : Int) : actL l [] = [] := rfl

theorem actFM_nil (c : Int) (hc : 0 ≤ c) (ls : List Int) : actFM c ls [] = some [] := by
 induction ls with
 | nil => rfl
 | cons l ls ih =>
  rw [actFM, actL_nil]
  show (if c < ((joinF [] []).length : Int) then none else actFM c ls (joinF [] [])) = _
  rw [show joinF [] [] = ([] : List Int) from rfl, if_neg (by simp; omega)]
  exact ih

/-- What a letter does to the free word that is found. -/
def strStep (p : Int) (w f : List Int) (x : Int) : Option (List Int) :=
 if x = -p ∨ x = p + 1 then
  match actFM 400 (inverse w) [x] with
  | none => none
  | some led => if 400 < ((joinF f led).length : Int) then none else some (joinF f led)
 else some f

/-- The free word of a strand, behind k letters. -/
def strF (j : Int) (ls : List Int) : Nat → Option (List Int)
 | 0 => some []
 | k + 1 => match strF j ls k with
  | none => none
  | some f => strStep (placeL j (ls.take k)) (forgetL j (ls.take k)) f (ls.getD k 0)

theorem strF_some {j : Int} {ls : List Int} {k : Nat} {f : List Int} (h : strF j ls k = some f) : strF j ls (k + 1) = strStep (placeL j (ls.take k)) (forgetL j (ls.take k)) f (ls.getD k 0) := by rw [strF, h]

theorem strF_none {j : Int} {ls : List Int} {k : Nat} (h : strF j ls k = none) : ∀ d, strF j ls (k + d) = none
 | 0 => h
 | d + 1 => by rw [← Nat.add_assoc, strF, strF_none h d]

theorem strF_dead {j : Int} {ls : List Int} {k n : Nat} (h : strF j ls (k + 1) = none) (hk : k < n) : strF j ls n = none := by
 have := strF_none h (n - (k + 1))
 rwa [show k + 1 + (n - (k + 1)) = n by omega] at this

theorem strStep_skip {p : Int} {w f : List Int} {x : Int} (h1 : x ≠ -p) (h2 : x ≠ p + 1) : strStep p w f x = some f := if_neg (by omega)
theorem strStep_none {p : Int} {w f : List Int} {x : Int} (h : x = -p ∨ x = p + 1) (ha : actFM 400 (inverse w) [x] = none) : strStep p w f x = none := by
 rw [strStep, if_pos h, ha]
theorem strStep_long {p : Int} {w f led : List Int} {x : Int} (h : x = -p ∨ x = p + 1) (ha : actFM 400 (inverse w) [x] = some led) (hl : 400 < ((joinF f led).length : Int)) : strStep p w f x = none := by
 rw [strStep, if_pos h, ha]; exact if_pos hl
theorem strStep_some {p : Int} {w f led : List Int} {x : Int} (h : x = -p ∨ x = p + 1) (ha : actFM 400 (inverse w) [x] = some led) (hl : ¬ 400 < ((joinF f led).length : Int)) : strStep p w f x = some (joinF f led) := by
 rw [strStep, if_pos h, ha]; exact if_neg hl

theorem actFM_cons (c l : Int) (ls xs : List Int) : actFM c (l :: ls) xs = if c < ((joinF [] (actL l xs)).length : Int) then none else actFM c ls (joinF [] (actL l xs)) := rfl

/-- The comb of letters of j + 1 strands. -/
def combF : Nat → List Int → Option (List (List Int))
 | 0, _ => some []
 | j + 1, ls => match strF ((j : Int) + 1) ls ls.length with
  | none => none
  | some f => match combF j (forgetL ((j : Int) + 1) ls) with
   | none => none
   | some c => some (f :: c)

theorem combF_none {j : Nat} {ls : List Int} (h : strF ((j : Int) + 1) ls ls.length = none) : combF (j + 1) ls = none := by rw [combF, h]
theorem combF_some {j : Nat} {ls f : List Int} (h : strF ((j : Int) + 1) ls ls.length = some f) : combF (j + 1) ls = (combF j (forgetL ((j : Int) + 1) ls)).map (f :: ·) := by
 rw [combF, h]
 cases combF j (forgetL ((j : Int) + 1) ls) <;> rfl

theorem combF_len {j : Nat} {ls : List Int} {c : List (List Int)} (h : combF j ls = some c) : c.length = j := by
 induction j generalizing ls c with
 | zero => cases h; rfl
 | succ j ih =>
  cases hs : strF ((j : Int) + 1) ls ls.length with
  | none => rw [combF_none hs] at h; cases h
  | some f =>
   rw [combF_some hs] at h
   cases hc : combF j (forgetL ((j : Int) + 1) ls) with
   | none => rw [hc] at h; cases h
   | some d =>
    rw [hc] at h
    cases h
    simp [ih hc]

/-- What CombOf gives, and the code. -/
def mComb (s : Int) (ls : List Int) : List (List Int) × Int := match combF (s - 1).toNat ls with | some c => (c, 0) | none => ([], 3)

end Go.Proofs.Ytehcbamfendbaaa

