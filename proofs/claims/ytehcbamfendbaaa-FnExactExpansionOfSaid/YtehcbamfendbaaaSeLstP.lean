/- The free word of the last strand, yield by yield: plain. -/
import Derived.Test.YtehcbamfendbaaaSeAddI
import Derived.Test.YtehcbamfendbaaaSeJnP
namespace Go.Proofs.Ytehcbamfendbaaa
open Go.RowKit Go.ChangeShapes

/-- What a yield adds. -/
def addY (f : List Int) (y : Int × List Int) : Option (List Int) :=
 match actFM 400 (inverse y.2) [y.1] with
 | none => none
 | some led => if 400 < ((joinF f led).length : Int) then none else some (joinF f led)

def stepY (o : Option (List Int)) (y : Int × List Int) : Option (List Int) := o.bind fun f => addY f y

def foldY (ys : List (Int × List Int)) : Option (List Int) := ys.foldl stepY (some [])

theorem foldY_snoc (ys : List (Int × List Int)) (y : Int × List Int) : foldY (ys ++ [y]) = stepY (foldY ys) y := by
 unfold foldY
 rw [List.foldl_append]
 rfl

theorem foldY_yieldF (j : Int) (ls : List Int) : ∀ k, foldY (yieldF j ls k) = strF j ls k
 | 0 => rfl
 | k + 1 => by
  have ih := foldY_yieldF j ls k
  rw [yieldF, strF]
  by_cases h : ls.getD k 0 = -placeL j (ls.take k) ∨ ls.getD k 0 = placeL j (ls.take k) + 1
  ·rw [if_pos h, foldY_snoc, ih]
   cases hs : strF j ls k with
   | none => rfl
   | some f =>
    show addY f _ = strStep _ _ f _
    rw [strStep, if_pos h]
    rfl
  ·rw [if_neg h, List.append_nil, ih]
   cases hs : strF j ls k with
   | none => rfl
   | some f =>
    show some f = strStep _ _ f _
    rw [strStep, if_neg h]

theorem addY_none {f : List Int} {x : Int} {r : List Int} (h : actFM 400 (inverse r) [x] = none) : addY f (x, r) = none := by unfold addY; rw [h]
theorem addY_long {f led : List Int} {x : Int} {r : List Int} (h : actFM 400 (inverse r) [x] = some led) (hl : 400 < ((joinF f led).length : Int)) : addY f (x, r) = none := by
 unfold addY; rw [h]; exact if_pos hl
theorem addY_some {f led : List Int} {x : Int} {r : List Int} (h : actFM 400 (inverse r) [x] = some led) (hl : ¬ 400 < ((joinF f led).length : Int)) : addY f (x, r) = some (joinF f led) := by
 unfold addY; rw [h]; exact if_neg hl

/-- What a braid makes of a word is reduced, small, and not long. -/
theorem actFM_facts {c : Int} {ls xs ys : List Int} (h : actFM c ls xs = some ys) (hl : ∀ l ∈ ls, -100 < l ∧ l < 100) (hs : Small xs) (hr : Red xs) (hc : (xs.length : Int) ≤ c) : Red ys ∧ Small ys ∧ (ys.length : Int) ≤ c := by
 induction ls generalizing xs with
 | nil => cases h; exact ⟨hr, hs, hc⟩
 | cons l ls ih =>
  rw [actFM_cons] at h
  by_cases hlen : c < ((joinF [] (actL l xs)).length : Int)
  ·rw [if_pos hlen] at h; cases h
  ·rw [if_neg hlen] at h
   have hl0 := hl l List.mem_cons_self
   exact ih h (fun z hz => hl z (List.mem_cons_of_mem _ hz)) (joinF_small _ _ (fun _ h => by cases h) (actL_small l hl0.1 hl0.2 xs hs)) (red_free _) (by omega)

theorem red_one (x : Int) : Red [x] := rfl

theorem inverse_bd {r : List Int} (h : ∀ z ∈ r, -100 < z ∧ z < 100) : ∀ z ∈ inverse r, -100 < z ∧ z < 100 := by
 intro z hz
 unfold inverse at hz
 simp at hz
 obtain ⟨y, hy, rfl⟩ := hz
 have := h y hy
 omega

end Go.Proofs.Ytehcbamfendbaaa

