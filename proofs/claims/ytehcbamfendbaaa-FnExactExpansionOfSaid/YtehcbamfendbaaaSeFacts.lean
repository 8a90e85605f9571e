/- Closed facts of the program as a whole that its laws' frames ask for: the words at its head are read without reading all of them. -/
import Derived.Test.YtehcbamfendbaaaSeOpen
namespace Go.Proofs.Ytehcbamfendbaaa
open Go.ChangeShapes Go.WideShapes Go.ChangeAt Go.RowKit Go.Joins

/-- A blank. -/
def blank : Char := Char.ofNat 32

theorem words_app (l r : List Char) (h : l.all (fun c => !decide (c = blank)) = true) : wordsSigns (l ++ blank :: r) = l :: wordsSigns r := by
 induction l with
 | nil => rfl
 | cons c l ih =>
  rw [List.all_cons, Bool.and_eq_true] at h
  have hc : c ≠ blank := by simpa using h.1
  rw [List.cons_append, wordsSigns, ih h.2]
  exact fun e => hc e

theorem lit_list {s : String} {l : List Char} (h : s = String.ofList l) : s.toList = l := by subst h; exact String.toList_ofList

set_option maxRecDepth 100000 in
theorem head_list : ∃ l : List Char, Try.prog.initOrder.toList = l ∧ l = l.take 7 ++ blank :: ((l.drop 8).take 64 ++ blank :: ((l.drop 73).take 3 ++ blank :: l.drop 77))
  ∧ (l.take 7).all (fun c => !decide (c = blank)) = true ∧ ((l.drop 8).take 64).all (fun c => !decide (c = blank)) = true ∧ ((l.drop 73).take 3).all (fun c => !decide (c = blank)) = true
  ∧ ∀ r, behindMainWord (l.take 7 :: (l.drop 8).take 64 :: (l.drop 73).take 3 :: r) = "cut".toList :: r :=
 ⟨_, lit_list rfl, by kernel_rfl, by kernel_rfl, by kernel_rfl, by kernel_rfl, fun r => by kernel_rfl⟩

theorem head_words : ∃ r, behindMainWord (wordsSigns Try.prog.initOrder.toList) = "cut".toList :: r := by
 obtain ⟨l, e1, e2, h1, h2, h3, h4⟩ := head_list
 rw [e1, e2, words_app _ _ h1, words_app _ _ h2, words_app _ _ h3]
 exact ⟨_, h4 _⟩

theorem gen_headLifts (P : Program) (r : List (List Char)) (h : behindMainWord (wordsSigns P.initOrder.toList) = "cut".toList :: r) : P.headLifts = [] := by
 unfold Program.headLifts
 rw [h]
 have e : stripLifts liftWords ("cut".toList :: r) = ([], "cut".toList :: r) := by kernel_rfl
 rw [e]
 simp

theorem gen_lifts (P : Program) (r : List (List Char)) (h : behindMainWord (wordsSigns P.initOrder.toList) = "cut".toList :: r) : P.liftsFinal = false := by
 unfold Program.liftsFinal
 rw [h, gen_headLifts P r h]
 simp

theorem gen_make (P : Program) (r : List (List Char)) (h : behindMainWord (wordsSigns P.initOrder.toList) = "cut".toList :: r) : P.make = some .cut := by
 unfold Program.make
 rw [h]
 simp

theorem gen_mayEnter (P : Program) (r : List (List Char)) (h : behindMainWord (wordsSigns P.initOrder.toList) = "cut".toList :: r) (h1 : P.laysLater = false) (h2 : P.bearsReflect = false) (h3 : P.doorFits [] = true) : P.mayEnter = true := by
 have e : stripLifts liftWords ("cut".toList :: r) = ([], "cut".toList :: r) := by kernel_rfl
 unfold Program.mayEnter
 rw [h]
 simp only [e]
 simp [h1, h2, h3]

theorem prog_lifts : Try.prog.liftsFinal = false := by
 obtain ⟨r, hr⟩ := head_words
 exact gen_lifts _ r hr

theorem prog_make : Try.prog.make = some .cut := by
 obtain ⟨r, hr⟩ := head_words
 exact gen_make _ r hr

theorem prog_mayEnter : Try.prog.mayEnter = true := by
 obtain ⟨r, hr⟩ := head_words
 exact gen_mayEnter _ r hr (by kernel_rfl) (by kernel_rfl) (by kernel_rfl)

end Go.Proofs.Ytehcbamfendbaaa

