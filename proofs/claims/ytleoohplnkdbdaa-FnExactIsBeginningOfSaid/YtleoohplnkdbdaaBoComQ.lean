/- The common beginning: what the loop leaves, said by the fraction (plain). -/
import Derived.Test.YtleoohplnkdbdaaBoComP
namespace Go.Proofs.Ytleoohplnkdbdaa

/-- What is left of a behind the common beginning of a and b. -/
def leftC (m : Nat) (a b : Pf) : Pf :=
 ((negK (mulN m (invN m a) b).1 : Int) - endF (mulN m (invN m a) b).1 (mulN m (invN m a) b).2, fracA m (negK (mulN m (invN m a) b).1) (mulN m (invN m a) b).2 (endF (mulN m (invN m a) b).1 (mulN m (invN m a) b).2))

theorem com_all {m : Nat} (m1 : 1 ≤ m) (m8 : m ≤ 8) {a b : Pf} (ha : Nl m a.2) (hb : Nl m b.2) (pa : 0 ≤ a.1) (pb : 0 ≤ b.1) (la : a.1 + (a.2.length : Int) ≤ 400) (lb : b.1 + (b.2.length : Int) ≤ 400) (hm : 1 < m ∨ (a = (0, []) ∧ b = (0, []))) :
  ∃ tr N, CTr m tr N ∧ (tr 0).2.1 = a ∧ (tr 0).2.2 = b ∧ (0 ≤ (mulN m (invN m a) b).1 ↔ (tr N).2.1 = (0, [])) ∧ (tr N).1 = mulN m a (invN m (leftC m a b)) := by
 rcases hm with m2 | ⟨rfl, rfl⟩
 ·obtain ⟨N, hT, hG⟩ := com_ends m2 m8 ha hb pa pb la lb
  have h := frac_first m2 m8 hG.na hG.nb hG.pa hG.pb hT.stop (p := (mulN m (invN m a) b).1) (l := (mulN m (invN m a) b).2) hG.dif
  refine ⟨trC m a b, N, hT, rfl, rfl, h.2, ?_⟩
  have e : leftC m a b = (trC m a b N).2.1 := h.1
  have h9 := mul_assoc m2 m8 hG.no.sims hG.na.sims hG.na.inv.sims
  rw [hG.out, mul_inv_right m2 m8 hG.na.sims, mul_one_right hG.no] at h9
  rw [e]
  exact h9.symm
 ·have hs : comS m ((0 : Int), []) ((0 : Int), []) = sameR m := by
   show meetR m (firstN m 0 []) (firstN m 0 []) = sameR m
   rw [show firstN m 0 [] = sameR m by simp [firstN]]
   exact meet_same1 m1 m8 _
  have e1 : invN m ((0 : Int), []) = (0, []) := by simp [invN, invL, turns]
  have e2 : mulN m ((0 : Int), []) ((0 : Int), []) = (0, []) := mul_one_left Nl.nil
  have e3 : leftC m ((0 : Int), []) ((0 : Int), []) = (0, []) := by
   unfold leftC
   rw [e1, e2]
   simp [negK, endF, fracA, turns, invL]
  refine ⟨fun _ => ((0, []), (0, []), (0, [])), 0, ⟨fun _ _ => ⟨Nl.nil, Nl.nil, Nl.nil⟩, fun _ _ => by simp, fun j hj => by omega, fun j hj => by omega, hs, rfl⟩, rfl, rfl, ?_, ?_⟩
  ·rw [e1, e2]
   simp
  ·rw [e3, e1, e2]

end Go.Proofs.Ytleoohplnkdbdaa

