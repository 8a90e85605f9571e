/- Strands that are followed, forgotten and doubled: plain. -/
import Derived.Test.YtehcbamfendbaaaSeLetters
namespace Go.Proofs.Ytehcbamfendbaaa
open Go.RowKit Go.ChangeShapes

/-- The index of a letter. -/
def idx (x : Int) : Int := if x < 0 then -x else x

theorem idxv_cnt (x : Int) : x * cnt x = idx x := idx_eq x
theorem idx_neg {x : Int} (h : x < 0) : idx x = -x := if_pos h
theorem idx_pos {x : Int} (h : ¬ x < 0) : idx x = x := if_neg h

/-- The place of a strand behind a letter. -/
def stepP (p x : Int) : Int := if idx x = p then p - 1 else if idx x = p + 1 then p + 1 else p

/-- .. and behind letters. -/
def placeL (p : Int) (xs : List Int) : Int := xs.foldl stepP p

theorem placeL_snoc (p : Int) (xs : List Int) (x : Int) : placeL p (xs ++ [x]) = stepP (placeL p xs) x := by simp [placeL, List.foldl_append]

/-- What is made of letters one by one, while a strand is followed. -/
def scanL (f : Int → Int → List Int) : Int → List Int → List Int
 | _, [] => []
 | p, x :: xs => f p x ++ scanL f (stepP p x) xs

theorem scanL_snoc (f : Int → Int → List Int) (p : Int) (xs : List Int) (x : Int) : scanL f p (xs ++ [x]) = scanL f p xs ++ f (placeL p xs) x := by
 induction xs generalizing p with
 | nil => simp [scanL, placeL]
 | cons y ys ih =>
  show f p y ++ scanL f (stepP p y) (ys ++ [x]) = f p y ++ scanL f (stepP p y) ys ++ f (placeL p (y :: ys)) x
  rw [ih, List.append_assoc]
  rfl

theorem scanL_len (f : Int → Int → List Int) (c : Nat) (hf : ∀ p x, (f p x).length ≤ c) (p : Int) (xs : List Int) : (scanL f p xs).length ≤ c * xs.length := by
 induction xs generalizing p with
 | nil => simp [scanL]
 | cons y ys ih =>
  have h1 := ih (stepP p y)
  have h2 := hf p y
  simp only [scanL, List.length_append, List.length_cons, Nat.mul_succ]
  omega

/-- A letter without the strand at a place. -/
def withoutP (p x : Int) : List Int := if idx x < p then [x] else if p + 1 < idx x then [(idx x - 1) * cnt x] else []

theorem withoutP_len (p x : Int) : (withoutP p x).length ≤ 1 := by unfold withoutP; split <;> (try split) <;> simp
def forgetL (p : Int) (xs : List Int) : List Int := scanL withoutP p xs
theorem forgetL_len (p : Int) (xs : List Int) : (forgetL p xs).length ≤ xs.length := by
 have := scanL_len withoutP 1 withoutP_len p xs
 unfold forgetL; omega
theorem forgetL_step (p : Int) (xs : List Int) (k : Nat) (h : k < xs.length) : forgetL p (xs.take (k + 1)) = forgetL p (xs.take k) ++ withoutP (placeL p (xs.take k)) (xs.getD k 0) := by
 rw [take_snoc xs k h]; exact scanL_snoc _ _ _ _
theorem placeL_step (p : Int) (xs : List Int) (k : Nat) (h : k < xs.length) : placeL p (xs.take (k + 1)) = stepP (placeL p (xs.take k)) (xs.getD k 0) := by
 rw [take_snoc xs k h]; exact placeL_snoc _ _ _

theorem idx_cases (x : Int) : (x < 0 ∧ idx x = -x ∧ cnt x = -1) ∨ (¬ x < 0 ∧ idx x = x ∧ cnt x = 1) := by
 by_cases h : x < 0
 ·exact .inl ⟨h, idx_neg h, by simp [cnt, h]⟩
 ·exact .inr ⟨h, idx_pos h, by simp [cnt, h]⟩

/-- A letter of n strands. -/
def Lett (n x : Int) : Prop := 1 ≤ idx x ∧ idx x < n

theorem lett_iff (n x : Int) : Lett n x ↔ x ≠ 0 ∧ -n < x ∧ x < n := by
 unfold Lett
 rcases idx_cases x with ⟨h, e, -⟩ | ⟨h, e, -⟩ <;> rw [e] <;> omega

/-- Places stay in their range. -/
theorem stepP_in {n p x : Int} (h1 : 0 ≤ p) (h2 : p < n) (hx : Lett n x) : 0 ≤ stepP p x ∧ stepP p x < n := by
 obtain ⟨a, b⟩ := hx
 unfold stepP
 split
 ·omega
 ·split <;> omega

theorem placeL_in {n p : Int} {xs : List Int} (h1 : 0 ≤ p) (h2 : p < n) (hx : ∀ x ∈ xs, Lett n x) : 0 ≤ placeL p xs ∧ placeL p xs < n := by
 induction xs generalizing p with
 | nil => exact ⟨h1, h2⟩
 | cons y ys ih =>
  have h := stepP_in h1 h2 (hx y List.mem_cons_self)
  exact ih h.1 h.2 fun x hx' => hx x (List.mem_cons_of_mem _ hx')

/-- A letter without a strand is one of a strand less. -/
theorem withoutP_lett {n p x : Int} (h1 : 0 ≤ p) (h2 : p < n) (hx : Lett n x) : ∀ y ∈ withoutP p x, Lett (n - 1) y := by
 intro y hy
 unfold withoutP at hy
 obtain ⟨a, b⟩ := hx
 rcases idx_cases x with ⟨h, e, f⟩ | ⟨h, e, f⟩ <;> rw [e] at hy a b <;> rw [f] at hy
 all_goals
  split at hy
  ·obtain rfl := List.mem_singleton.1 hy
   rw [lett_iff]; omega
  ·split at hy
   ·obtain rfl := List.mem_singleton.1 hy
    rw [lett_iff]; omega
   ·cases hy

theorem forgetL_lett {n p : Int} {xs : List Int} (h1 : 0 ≤ p) (h2 : p < n) (hx : ∀ x ∈ xs, Lett n x) : ∀ y ∈ forgetL p xs, Lett (n - 1) y := by
 induction xs generalizing p with
 | nil => intro y hy; cases hy
 | cons x ys ih =>
  intro y hy
  rcases List.mem_append.1 (show y ∈ withoutP p x ++ forgetL (stepP p x) ys from hy) with h | h
  ·exact withoutP_lett h1 h2 (hx x List.mem_cons_self) y h
  ·have hs := stepP_in h1 h2 (hx x List.mem_cons_self)
   exact ih hs.1 hs.2 (fun z hz => hx z (List.mem_cons_of_mem _ hz)) y h

theorem letts_of_isBraid {s : Int} {xs : List Int} (h : isBraid s xs = true) : ∀ x ∈ xs, Lett s x := fun x hx => (lett_iff s x).2 (((isBraid_iff s xs).1 h).2.2.2 x hx)

theorem letts_take {n : Int} {xs : List Int} (h : ∀ x ∈ xs, Lett n x) (k : Nat) : ∀ x ∈ xs.take k, Lett n x := fun x hx => h x (List.mem_of_mem_take hx)

theorem Lett.small {n x : Int} (h : Lett n x) (hn : n ≤ 1000) : -1000 < x ∧ x < 1000 := by
 have := (lett_iff n x).1 h; omega

end Go.Proofs.Ytehcbamfendbaaa

