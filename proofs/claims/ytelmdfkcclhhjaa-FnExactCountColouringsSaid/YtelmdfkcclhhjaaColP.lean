/- Colourings: what the model says. -/
import Derived.Test.YtelmdfkcclhhjaaFw
namespace Go.Proofs.Ytelmdfkcclhhjaa
open Go.RowKit Go.ChangeShapes

/-- A letter makes of colours others. -/
def tintL (p l : Int) (cs : List Int) : List Int :=
  if l < 0 then (cs.set (-l).toNat ((2 * cs.getD (-l).toNat 0 - cs.getD ((-l).toNat - 1) 0 + p).tmod p)).set ((-l).toNat - 1) (cs.getD (-l).toNat 0)
  else (cs.set (l.toNat - 1) ((2 * cs.getD (l.toNat - 1) 0 - cs.getD l.toNat 0 + p).tmod p)).set l.toNat (cs.getD (l.toNat - 1) 0)

/-- Letters make of colours others. -/
def tintF (p : Int) (ls cs : List Int) : List Int := ls.foldl (fun cs l => tintL p l cs) cs

theorem tintL_len (p l : Int) (cs : List Int) : (tintL p l cs).length = cs.length := by
  unfold tintL
  split <;> simp

theorem tintF_len (p : Int) (ls cs : List Int) : (tintF p ls cs).length = cs.length := by
  induction ls generalizing cs with
  | nil => rfl
  | cons l ls ih =>
    show (tintF p ls (tintL p l cs)).length = _
    rw [ih, tintL_len]

theorem tintF_step (p : Int) (ls cs : List Int) (k : Nat) (h : k < ls.length) : tintF p (ls.take (k + 1)) cs = tintL p (ls.getD k 0) (tintF p (ls.take k) cs) := by
  rw [take_snoc ls k h]
  simp [tintF]

/-- All are colours modulo p. -/
def Cols (p : Int) (cs : List Int) : Prop := ∀ c ∈ cs, 0 ≤ c ∧ c < p

theorem Cols.at {p : Int} {cs : List Int} (h : Cols p cs) (k : Nat) (hk : k < cs.length) : 0 ≤ cs.getD k 0 ∧ cs.getD k 0 < p := h _ (getD_mem cs k hk)

theorem Cols.set {p : Int} {cs : List Int} (h : Cols p cs) (k : Nat) (c : Int) (hc : 0 ≤ c ∧ c < p) : Cols p (cs.set k c) := fun x hx => by
  rcases List.mem_or_eq_of_mem_set hx with h1 | h1
  · exact h x h1
  · rw [h1]; exact hc

theorem tmod_col {p x : Int} (hp : 0 < p) (hx : 0 ≤ x) : 0 ≤ x.tmod p ∧ x.tmod p < p := by
  rw [Int.tmod_eq_emod_of_nonneg hx]
  exact ⟨Int.emod_nonneg _ (by omega), Int.emod_lt_of_pos _ hp⟩

theorem tintL_cols {p l : Int} {cs : List Int} (hp : 0 < p) (h : Cols p cs) (h1 : -(cs.length : Int) < l) (h2 : l < cs.length) : Cols p (tintL p l cs) := by
  unfold tintL
  split
  · rename_i hn
    have a := h.at (-l).toNat (by omega)
    have b := h.at ((-l).toNat - 1) (by omega)
    exact (h.set _ _ (tmod_col hp (by omega))).set _ _ a
  · have a := h.at l.toNat (by omega)
    have b := h.at (l.toNat - 1) (by omega)
    exact (h.set _ _ (tmod_col hp (by omega))).set _ _ b

/-- A prime of 3 to 97. -/
def isPrm (p : Int) : Bool := inB p 3 97 && (List.range p.toNat).all (fun k => decide (k < 2) || decide (p.tmod (k : Int) ≠ 0))

theorem isPrm_all (p : Int) (h1 : inB p 3 97 = true) (h : ∀ k : Nat, 2 ≤ k → (k : Int) < p → p.tmod (k : Int) ≠ 0) : isPrm p = true := by
  simp only [isPrm, h1, Bool.true_and, List.all_eq_true, List.mem_range, Bool.or_eq_true, decide_eq_true_eq]
  intro k hk
  by_cases h2 : k < 2
  · exact .inl h2
  · exact .inr (h k (by omega) (by omega))

theorem isPrm_bad (p : Int) (k : Nat) (h2 : 2 ≤ k) (hk : (k : Int) < p) (h : p.tmod (k : Int) = 0) : isPrm p = false := by
  rw [← Bool.not_eq_true]
  intro e
  simp only [isPrm, Bool.and_eq_true, List.all_eq_true, List.mem_range, Bool.or_eq_true, decide_eq_true_eq] at e
  rcases e.2 k (by omega) with h3 | h3
  · omega
  · exact h3 h

theorem isPrm_low (p : Int) (h : inB p 3 97 = false) : isPrm p = false := by simp [isPrm, h]

theorem isPrm_bd {p : Int} (h : isPrm p = true) : 3 ≤ p ∧ p ≤ 97 := by
  simp only [isPrm, Bool.and_eq_true] at h
  exact (inB_iff _ _ _).1 h.1

/-- The code for a braid, a prime and colours. -/
def mColCode (s : Int) (ls : List Int) (p : Int) (cs : List Int) : Int :=
  if isBraid s ls = true then (if isPrm p = true ∧ (cs.length : Int) = s ∧ cs.all (fun c => inB c 0 (p - 1)) = true then 0 else 2) else 1

/-- The colours that come out, and the code. -/
def mColStep (s : Int) (ls : List Int) (p : Int) (cs : List Int) : List Int × Int := if mColCode s ls p cs = 0 then (tintF p ls cs, 0) else ([], mColCode s ls p cs)

def mIsCol (s : Int) (ls : List Int) (p : Int) (cs : List Int) : Bool × Int := if mColCode s ls p cs = 0 then (decide (tintF p ls cs = cs), 0) else (false, mColCode s ls p cs)

theorem mColCode_ok {s : Int} {ls : List Int} {p : Int} {cs : List Int} (h : mColCode s ls p cs = 0) : isBraid s ls = true ∧ isPrm p = true ∧ (cs.length : Int) = s ∧ Cols p cs := by
  unfold mColCode at h
  by_cases hb : isBraid s ls = true
  · rw [if_pos hb] at h
    by_cases hc : isPrm p = true ∧ (cs.length : Int) = s ∧ cs.all (fun c => inB c 0 (p - 1)) = true
    · refine ⟨hb, hc.1, hc.2.1, fun c hm => ?_⟩
      have := (inB_iff _ _ _).1 (List.all_eq_true.1 hc.2.2 c hm)
      omega
    · rw [if_neg hc] at h; omega
  · rw [if_neg hb] at h; omega

end Go.Proofs.Ytelmdfkcclhhjaa
