/- Colours: the codes with colours, the model's and the program's. -/
import Derived.Test.YtelmdfkcclhhjaaColC
namespace Go.Proofs.Ytelmdfkcclhhjaa
open Go.RowKit Go.ChangeShapes

theorem colCode_eq (s : Int) (ls : List Int) (p : Int) (cs : List Int) : mColCode s ls p cs = if mPrmCode s ls p = 0 then (if (cs.length : Int) = s ∧ cs.all (fun c => inB c 0 (p - 1)) = true then 0 else 2) else mPrmCode s ls p := by
  unfold mColCode mPrmCode
  by_cases hb : isBraid s ls = true
  · rw [if_pos hb, if_pos hb]
    by_cases hp : isPrm p = true
    · rw [if_pos hp, if_pos rfl]
      by_cases h : (cs.length : Int) = s ∧ cs.all (fun c => inB c 0 (p - 1)) = true
      · rw [if_pos ⟨hp, h⟩, if_pos h]
      · rw [if_neg (fun e => h e.2), if_neg h]
    · rw [if_neg hp, if_neg (fun e => hp e.1), if_neg (by omega)]
  · rw [if_neg hb, if_neg hb, if_neg (by omega)]

theorem prmCode_cases (s : Int) (ls : List Int) (p : Int) : (mPrmCode s ls p = 0 ∧ isBraid s ls = true ∧ isPrm p = true) ∨ (mPrmCode s ls p = 1 ∧ isBraid s ls = false) ∨ (mPrmCode s ls p = 2 ∧ isBraid s ls = true ∧ isPrm p = false) := by
  unfold mPrmCode
  cases isBraid s ls <;> cases isPrm p <;> simp

/-- No colour. -/
def noCol (p x : Int) : Bool := decide (x < 0) || decide (p ≤ x)

theorem noCol_all (p : Int) (cs : List Int) : cs.any (noCol p) = !cs.all (fun c => inB c 0 (p - 1)) := by
  induction cs with
  | nil => rfl
  | cons c cs ih =>
    rw [List.any_cons, List.all_cons, ih]
    have : noCol p c = !inB c 0 (p - 1) := by
      rw [Bool.eq_iff_iff]
      simp [noCol, inB]
      omega
    rw [this]
    cases inB c 0 (p - 1) <;> simp

end Go.Proofs.Ytelmdfkcclhhjaa
