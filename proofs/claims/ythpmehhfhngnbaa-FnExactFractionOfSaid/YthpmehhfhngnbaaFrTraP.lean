/- Plain: the states of the loop for fractions. -/
import Derived.Test.YthpmehhfhngnbaaFrSCom
namespace Go.Proofs.Ythpmehhfhngnbaa

/-- How many half turns are behind. -/
def negK (p : Int) : Nat := (max (-p) 0).toNat

/-- The states. -/
def traF (m : Nat) (p : Int) (l : List (List Int)) (j : Nat) : Pf × Pf × Pf := ((0, l.take j), ((negK p : Int) - j, fracA m (negK p) l j), (max p 0, l.drop j))

/-- How many steps there are. -/
def endF (p : Int) (l : List (List Int)) : Nat := min l.length (negK p)

theorem traF_ok {m : Nat} (m1 : 1 ≤ m) (m8 : m ≤ 8) {p : Int} {l : List (List Int)} (h : Nl m l) (hp : -200 ≤ p ∧ p ≤ 200) (hl : l.length ≤ 200) : CTr m (traF m p l) (endF p l) := by
 have hk : negK p ≤ 200 := by unfold negK; omega
 have he : endF p l ≤ l.length ∧ endF p l ≤ negK p := by unfold endF; omega
 refine ⟨fun j hj => ⟨nl_take h j, fracA_nl h j, nl_drop h j⟩, fun j hj => ⟨⟨?_, by simp [traF], by simp [traF]⟩, ⟨?_, ?_, ?_⟩, ⟨?_, ?_, ?_⟩⟩, fun j hj => ?_, fun j hj => ?_, ?_, by simp [traF]⟩
 ·show (l.take j).length ≤ 10000
  rw [List.length_take]; omega
 ·show (fracA m (negK p) l j).length ≤ 10000
  rw [fracA_len]; omega
 ·show -10000 ≤ (negK p : Int) - j
  omega
 ·show (negK p : Int) - j ≤ 10000
  omega
 ·show (l.drop j).length ≤ 10000
  rw [List.length_drop]; omega
 ·show -10000 ≤ max p 0
  omega
 ·show max p 0 ≤ 10000
  omega
 ·have h0 : max p 0 = 0 := by unfold negK at he; omega
  show meetR m (firstN m ((negK p : Int) - j) (fracA m (negK p) l j)) (firstN m (max p 0) (l.drop j)) ≠ sameR m
  rw [h0, frac_meet m1 m8 h (by omega) (by omega)]
  exact frac_ne h (by omega)
 ·have h0 : max p 0 = 0 := by unfold negK at he; omega
  have hs : comS m (traF m p l j).2.1 (traF m p l j).2.2 = rowAt l j := by
   show meetR m (firstN m ((negK p : Int) - j) (fracA m (negK p) l j)) (firstN m (max p 0) (l.drop j)) = rowAt l j
   rw [h0, frac_meet m1 m8 h (by omega) (by omega)]
  rw [hs]
  have hm2 : 1 < m := by
   rcases Nat.lt_or_ge 1 m with h2 | h2
   ·exact h2
   ·exfalso
    obtain rfl : m = 1 := by omega
    have hx := rowAt_getElem (l := l) (j := j) (by omega)
    exact h.n1 _ hx (pre_one (h.sims _ hx) fun i j hij hj _ => by omega)
  refine ⟨frac_out h (by omega), frac_less h (by omega), ?_⟩
  show lessN m (max p 0) (l.drop j) (rowAt l j) = (max p 0, l.drop (j + 1))
  rw [h0]
  exact frac_less2 hm2 m8 h (by omega)
 ·show meetR m (firstN m ((negK p : Int) - (endF p l : Nat)) (fracA m (negK p) l (endF p l))) (firstN m (max p 0) (l.drop (endF p l))) = sameR m
  by_cases h0 : 0 < p
  ·have hk0 : negK p = 0 := by unfold negK; omega
   have he0 : endF p l = 0 := by omega
   rw [he0, hk0]
   have e : firstN m (((0 : Nat) : Int) - ((0 : Nat) : Int)) (fracA m 0 l 0) = sameR m := by
    unfold firstN
    rw [if_neg (by simp), if_neg (by rw [fracA_len]; simp)]
   rw [e]
   exact meet_same1 m1 m8 _
  ·have h00 : max p 0 = 0 := by omega
   rw [h00]
   refine frac_end m1 m8 h he.1 he.2 ?_
   unfold endF
   omega

/-- The fraction, and the code. -/
def mFra (s p : Int) (rs : List (List Int)) : (Int × Int × List (List Int)) × (Int × Int × List (List Int)) × Int :=
 if normB s p rs = true then ((s, (negK p : Int) - (endF p rs : Nat), fracA s.toNat (negK p) rs (endF p rs)), (s, max p 0, rs.drop (endF p rs)), 0) else ((0, 0, []), (0, 0, []), 1)

end Go.Proofs.Ythpmehhfhngnbaa

