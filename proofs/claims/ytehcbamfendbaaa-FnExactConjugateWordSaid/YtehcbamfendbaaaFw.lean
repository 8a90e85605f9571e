/- Free words: what the model says. -/
import Derived.Test.YtehcbamfendbaaaIs2
import Derived.BigQuiet
import Derived.Deep.QuietTactic
namespace Go.Proofs.Ytehcbamfendbaaa
open Go.RowKit Go.ChangeShapes

/-- The number at place k is one of n generators, and not the opposite of the one ahead of it. -/
def okFree (n : Int) (xs : List Int) (k : Nat) : Bool := okLetter (n + 1) (xs.getD k 0) && (decide (k = 0) || decide (xs.getD k 0 ≠ -xs.getD (k - 1) 0))

/-- The numbers are a free word for n generators. -/
def isFree (n : Int) (xs : List Int) : Bool := inB n 1 8 && (decide (xs.length ≤ 4000) && (List.range xs.length).all (okFree n xs))

theorem isFree_all (n : Int) (m : Nat) (xs : List Int) (h1 : 1 ≤ n) (h2 : n ≤ 8) (h3 : m ≤ 4000) (hl : xs.length = m) (h : ∀ j, j < m → okFree n xs j = true) : isFree n xs = true := by
  simp only [isFree, Bool.and_eq_true, decide_eq_true_eq, List.all_eq_true, List.mem_range]
  exact ⟨(inB_iff _ _ _).2 ⟨h1, h2⟩, by omega, fun j hj => h j (by omega)⟩

theorem isFree_bad (n : Int) (xs : List Int) (k : Nat) (hk : k < xs.length) (h : okFree n xs k = false) : isFree n xs = false := by
  rw [← Bool.not_eq_true]
  intro e
  simp only [isFree, Bool.and_eq_true, decide_eq_true_eq, List.all_eq_true, List.mem_range] at e
  have := e.2.2 k hk
  rw [h] at this
  cases this

theorem isFree_iff (n : Int) (xs : List Int) : isFree n xs = true ↔ 1 ≤ n ∧ n ≤ 8 ∧ xs.length ≤ 4000 ∧ ∀ j, j < xs.length → okFree n xs j = true := by
  simp only [isFree, Bool.and_eq_true, decide_eq_true_eq, List.all_eq_true, List.mem_range, inB_iff]
  exact ⟨fun ⟨⟨a, b⟩, c, d⟩ => ⟨a, b, c, d⟩, fun ⟨a, b, c, d⟩ => ⟨⟨a, b⟩, c, d⟩⟩

theorem isFree_low (n : Int) (xs : List Int) (h : n < 1 ∨ 8 < n ∨ 4000 < xs.length) : isFree n xs = false := by
  rw [← Bool.not_eq_true, isFree_iff]
  omega

theorem okLetter_iff (s x : Int) : okLetter s x = true ↔ x ≠ 0 ∧ -s < x ∧ x < s := by simp [okLetter]

theorem okFree_letter {n : Int} {xs : List Int} {k : Nat} (h : okFree n xs k = true) : okLetter (n + 1) (xs.getD k 0) = true := by
  simp only [okFree, Bool.and_eq_true] at h
  exact h.1

theorem l01In_yes (n lo hi : Int) (w : World) (b : Bool) (h : inB n lo hi = b) :
    Calls Try.prog 76 #[.int .i64 n, .int .i64 lo, .int .i64 hi] w fun e w' => e = .returned (.bool b) ∧ w' = w :=
  (l01In_any n lo hi w).mono fun _ _ hh => ⟨by rw [hh.1, h], hh.2.symm⟩

end Go.Proofs.Ytehcbamfendbaaa
