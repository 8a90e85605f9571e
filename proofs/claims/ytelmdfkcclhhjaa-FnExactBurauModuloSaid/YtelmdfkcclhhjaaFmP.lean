/- Matrices of numbers of a field, plain: entries, matrices made of functions, products, traces. No program is spoken of. -/
import Derived.Test.YtelmdfkcclhhjaaQA
namespace Go.Proofs.Ytelmdfkcclhhjaa

/-- An entry. -/
def eL (X : List (List Int)) (i j : Nat) : Int := (X.getD i []).getD j 0

/-- A row is good: as long as there are rows, of remainders. -/
def RowF (X : List (List Int)) (i : Nat) : Prop := (X.getD i []).length = X.length ∧ ∀ j, j < X.length → 0 ≤ eL X i j ∧ eL X i j < 10007

def IsFm (X : List (List Int)) : Prop := (1 ≤ X.length ∧ X.length ≤ 28) ∧ ∀ i, i < X.length → RowF X i

def isFm (X : List (List Int)) : Bool := (decide (1 ≤ X.length) && decide (X.length ≤ 28)) && (List.range X.length).all fun i => decide ((X.getD i []).length = X.length) && (List.range X.length).all fun j => decide (0 ≤ eL X i j) && decide (eL X i j < 10007)

theorem isFm_iff {X : List (List Int)} : isFm X = true ↔ IsFm X := by
  unfold isFm IsFm RowF
  simp only [Bool.and_eq_true, decide_eq_true_eq, List.all_eq_true, List.mem_range]

theorem isFm_yes {X : List (List Int)} (h : IsFm X) : isFm X = true := isFm_iff.2 h
theorem isFm_no {X : List (List Int)} (h : ¬ IsFm X) : isFm X = false := by
  cases e : isFm X with
  | false => rfl
  | true => exact absurd (isFm_iff.1 e) h

/-- The matrix of m rows with k numbers that a function gives. -/
def mkM (m k : Nat) (f : Nat → Nat → Int) : List (List Int) := (List.range m).map fun i => (List.range k).map (f i)

theorem mkM_len (m k : Nat) (f : Nat → Nat → Int) : (mkM m k f).length = m := by simp [mkM]

theorem mkM_row {m k : Nat} {f : Nat → Nat → Int} {i : Nat} (h : i < m) : (mkM m k f).getD i [] = (List.range k).map (f i) := by simp [mkM, List.getD, h]

theorem mkM_at {m k : Nat} {f : Nat → Nat → Int} {i j : Nat} (h : i < m) (hj : j < k) : eL (mkM m k f) i j = f i j := by
  unfold eL
  rw [mkM_row h]
  simp [List.getD, hj]

theorem row_range (r : List Int) : (List.range r.length).map (fun j => r.getD j 0) = r := by
  refine List.ext_getElem (by simp) fun j h1 h2 => ?_
  simp [List.getD, h2]

theorem mkM_of {X : List (List Int)} (h : IsFm X) : mkM X.length X.length (eL X) = X := by
  refine List.ext_getElem (by simp [mkM]) fun i h1 h2 => ?_
  have hr := (h.2 i h2).1
  have hx : X.getD i [] = X[i] := by simp [List.getD, h2]
  rw [hx] at hr
  simp only [mkM, List.getElem_map, List.getElem_range]
  have e : (fun j => eL X i j) = fun j => X[i].getD j 0 := by funext j; unfold eL; rw [hx]
  show (List.range X.length).map (fun j => eL X i j) = _
  rw [e, ← hr]
  exact row_range _

/-- The sum of the first n. -/
def sumT (f : Nat → Int) : Nat → Int
  | 0 => 0
  | n + 1 => sumT f n + f n

theorem sumT_congr {f g : Nat → Int} {n : Nat} (h : ∀ k, k < n → f k = g k) : sumT f n = sumT g n := by
  induction n with
  | zero => rfl
  | succ n ih => simp only [sumT]; rw [ih fun k hk => h k (by omega), h n (by omega)]

theorem sumT_bd {f : Nat → Int} {n : Nat} {b : Int} (h : ∀ k, k < n → 0 ≤ f k ∧ f k ≤ b) : 0 ≤ sumT f n ∧ sumT f n ≤ n * b := by
  induction n with
  | zero => simp [sumT]
  | succ n ih =>
    have h1 := ih fun k hk => h k (by omega)
    have h2 := h n (by omega)
    simp only [sumT]
    have e : ((n + 1 : Nat) : Int) * b = n * b + b := by push_cast; rw [Int.add_mul, Int.one_mul]
    omega

/-- The product's entry with the first n summands. -/
def dotF (f h : Nat → Nat → Int) (i j n : Nat) : Int := sumT (fun k => f i k * h k j) n

theorem dotF_succ (f h : Nat → Nat → Int) (i j n : Nat) : dotF f h i j (n + 1) = dotF f h i j n + f i n * h n j := rfl

def mulF (m : Nat) (f h : Nat → Nat → Int) : Nat → Nat → Int := fun i j => dotF f h i j m % 10007

/-- All entries are remainders. -/
def Rem (m k : Nat) (f : Nat → Nat → Int) : Prop := ∀ i j, i < m → j < k → 0 ≤ f i j ∧ f i j < 10007

theorem IsFm.rem {X : List (List Int)} (h : IsFm X) : Rem X.length X.length (eL X) := fun i j hi hj => (h.2 i hi).2 j hj

theorem mod_rem (x : Int) : 0 ≤ x % 10007 ∧ x % 10007 < 10007 := ⟨Int.emod_nonneg _ (by decide), Int.emod_lt_of_pos _ (by decide)⟩

theorem mulF_rem (m : Nat) (f h : Nat → Nat → Int) : Rem m m (mulF m f h) := fun _ _ _ _ => mod_rem _

/-- The product of remainders is small. -/
theorem rem_mul {a b : Int} (h1 : 0 ≤ a ∧ a < 10007) (h2 : 0 ≤ b ∧ b < 10007) : 0 ≤ a * b ∧ a * b ≤ 100120036 :=
  ⟨Int.mul_nonneg h1.1 h2.1, Int.le_trans (Int.mul_le_mul (show a ≤ 10006 by omega) (show b ≤ 10006 by omega) h2.1 (by omega)) (by decide)⟩

theorem step_mod (a b : Int) : (a % 10007 + b) % 10007 = (a + b) % 10007 := by rw [Int.add_emod, Int.emod_emod, ← Int.add_emod]
theorem step_mod2 (a b : Int) : (a % 10007 + b % 10007) % 10007 = (a + b) % 10007 := by rw [← Int.add_emod]

/-- A function of two numbers with another value at one place. -/
def updF (f : Nat → Nat → Int) (i j : Nat) (v : Int) : Nat → Nat → Int := fun a b => if a = i ∧ b = j then v else f a b

theorem updF_at (f : Nat → Nat → Int) (i j : Nat) (v : Int) : updF f i j v i j = v := by simp [updF]
theorem updF_ne (f : Nat → Nat → Int) (i j : Nat) (v : Int) {a b : Nat} (h : ¬ (a = i ∧ b = j)) : updF f i j v a b = f a b := by simp [updF, h]

/-- The product's matrix, and a code. -/
def mMul (X Y : List (List Int)) : List (List Int) × Int :=
  if isFm X = true ∧ isFm Y = true then (if X.length = Y.length then (mkM X.length X.length (mulF X.length (eL X) (eL Y)), 0) else ([], 2)) else ([], 1)

def trF (m : Nat) (f : Nat → Nat → Int) : Int := sumT (fun i => f i i) m % 10007

def mTrace (X : List (List Int)) : Int × Int := if isFm X = true then (trF X.length (eL X), 0) else (0, 1)

end Go.Proofs.Ytelmdfkcclhhjaa
