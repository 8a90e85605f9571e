/- Relations of closures: images have an odd number of numbers. -/
import Derived.Test.YtmlejlediflaaaaIImg
import Derived.Test.YtmlejlediflaaaaMulF
namespace Go.Proofs.Ytmlejlediflaaaa
open Go.RowKit Go.ChangeShapes

theorem freeStep_par (out : List Int) (x : Int) : (freeStep out x).length % 2 = (out.length + 1) % 2 := by
  unfold freeStep
  split
  · rename_i h
    have : out ≠ [] := fun e => by rw [e] at h; cases h
    have := List.length_pos_iff.2 this
    rw [List.length_dropLast]
    omega
  · simp

theorem joinF_par (xs ys : List Int) : (joinF xs ys).length % 2 = (xs.length + ys.length) % 2 := by
  induction ys generalizing xs with
  | nil => rfl
  | cons y ys ih =>
    show (joinF (freeStep xs y) ys).length % 2 = _
    have h1 := ih (freeStep xs y)
    have h2 := freeStep_par xs y
    rw [List.length_cons]
    omega

theorem putsL_par (l x : Int) : (putsL l x).length % 2 = 1 := by
  unfold putsL
  repeat' split
  all_goals simp

theorem actL_par (l : Int) (xs : List Int) : (actL l xs).length % 2 = xs.length % 2 := by
  induction xs with
  | nil => rfl
  | cons x xs ih =>
    have := putsL_par l x
    simp only [actL, List.flatMap_cons, List.length_append, List.length_cons] at ih ⊢
    omega

theorem actF_facts (ls xs ys : List Int) (h : actF ls xs = some ys) (hx : xs.length ≤ 4000) (hs : Small xs) (hl : ∀ l ∈ ls, -100 < l ∧ l < 100) : ys.length % 2 = xs.length % 2 ∧ ys.length ≤ 4000 ∧ Small ys := by
  induction ls generalizing xs with
  | nil => cases h; exact ⟨rfl, hx, hs⟩
  | cons l ls ih =>
    rw [actF] at h
    by_cases h4 : 4000 < (joinF [] (actL l xs)).length
    · rw [if_pos h4] at h; cases h
    · rw [if_neg h4] at h
      have hb := hl l List.mem_cons_self
      obtain ⟨r1, r2, r3⟩ := ih _ h (by omega) (joinF_small _ _ (fun _ e => by cases e) (actL_small l hb.1 hb.2 xs hs)) (fun m hm => hl m (List.mem_cons_of_mem _ hm))
      have p1 := joinF_par [] (actL l xs)
      have p2 := actL_par l xs
      simp only [List.length_nil] at p1
      exact ⟨by omega, r2, r3⟩

/-- The images, one by one. -/
theorem imgs_at (ls : List Int) (n : Nat) (l : List (List Int)) (h : imgs ls n = some l) (j : Nat) (hj : j < n) : actF ls [(j : Int) + 1] = some (l.getD j []) := by
  induction n generalizing l with
  | zero => omega
  | succ n ih =>
    rw [imgs] at h
    split at h
    · cases h
    · rename_i l' hl'
      split at h
      · cases h
      · rename_i ys hy
        cases h
        have hl := imgs_len ls n l' hl'
        by_cases e : j = n
        · subst e
          rw [hy, ← hl]
          simp [List.getD]
        · rw [ih l' hl' (by omega)]
          simp [List.getD, List.getElem?_append, show j < l'.length by omega]

/-- The relation of a generator. -/
def relOf (l : List (List Int)) (j : Nat) : List Int := joinF [-(j : Int) - 1] (l.getD j [])

def relS (l : List (List Int)) (k : Nat) : List (List Int) := (List.range k).map (relOf l)

theorem relS_succ (l : List (List Int)) (k : Nat) : relS l (k + 1) = relS l k ++ [relOf l k] := by
  simp [relS, List.range_succ]

theorem relS_len (l : List (List Int)) (k : Nat) : (relS l k).length = k := by simp [relS]

theorem join_one (x : Int) : joinF [] [x] = [x] := by simp [joinF, freeStep]

theorem rel_facts (ls : List Int) (n : Nat) (l : List (List Int)) (h : imgs ls n = some l) (hn : n ≤ 8) (hl : ∀ m ∈ ls, -100 < m ∧ m < 100) (j : Nat) (hj : j < n) :
    (relOf l j).length ≤ 4000 ∧ Small (l.getD j []) ∧ (l.getD j []).length ≤ 4000 ∧ mLim ([-(j : Int) - 1] ++ l.getD j []) = (relOf l j, 0) := by
  have h1 := imgs_at ls n l h j hj
  obtain ⟨p1, p2, p3⟩ := actF_facts ls _ _ h1 (by simp) (fun z hz => by obtain rfl := List.mem_singleton.1 hz; omega) hl
  have h2 := joinF_len [-(j : Int) - 1] (l.getD j [])
  simp only [List.length_singleton] at p1 h2
  have h3 : (relOf l j).length ≤ 4000 := by unfold relOf; omega
  refine ⟨h3, p3, p2, ?_⟩
  have h4 : joinF [] ([-(j : Int) - 1] ++ l.getD j []) = relOf l j := by rw [joinF_app, join_one]; rfl
  unfold mLim
  rw [h4, if_neg (by omega)]

/-- The relations, and the code. -/
def mRels (n : Nat) (ls : List Int) : List (List Int) × Int := match imgs ls n with | some l => (relS l n, 0) | none => ([], 3)

def mRelations (s : Int) (ls : List Int) : List (List Int) × Int := if isBraid s ls = true then mRels s.toNat ls else ([], 1)

theorem mRelations_len (s : Int) (ls : List Int) : (mRelations s ls).1.length ≤ 8 := by
  unfold mRelations
  by_cases h : isBraid s ls = true
  · rw [if_pos h]
    unfold mRels
    split
    · obtain ⟨h1, h2, _⟩ := (isBraid_iff s ls).1 h
      show (relS _ _).length ≤ 8
      rw [relS_len]
      omega
    · exact Nat.zero_le _
  · rw [if_neg h]
    exact Nat.zero_le _

end Go.Proofs.Ytmlejlediflaaaa
