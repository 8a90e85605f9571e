/- How many crossings: lengths add up (plain). -/
import Derived.Test.YthpmehhfhngnbaaIbGrpP
namespace Go.Proofs.Ythpmehhfhngnbaa

/-- One pair, turned or not. -/
def cr (a b : Int) : Int := if b < a then 1 else 0
/-- All pairs of eight places that stand the wrong way round. -/
def tot (v : List Int) : Int :=
 cr (at8 v 0) (at8 v 1) + cr (at8 v 0) (at8 v 2) + cr (at8 v 0) (at8 v 3) + cr (at8 v 0) (at8 v 4) + cr (at8 v 0) (at8 v 5) + cr (at8 v 0) (at8 v 6) + cr (at8 v 0) (at8 v 7)
 + cr (at8 v 1) (at8 v 2) + cr (at8 v 1) (at8 v 3) + cr (at8 v 1) (at8 v 4) + cr (at8 v 1) (at8 v 5) + cr (at8 v 1) (at8 v 6) + cr (at8 v 1) (at8 v 7)
 + cr (at8 v 2) (at8 v 3) + cr (at8 v 2) (at8 v 4) + cr (at8 v 2) (at8 v 5) + cr (at8 v 2) (at8 v 6) + cr (at8 v 2) (at8 v 7)
 + cr (at8 v 3) (at8 v 4) + cr (at8 v 3) (at8 v 5) + cr (at8 v 3) (at8 v 6) + cr (at8 v 3) (at8 v 7)
 + cr (at8 v 4) (at8 v 5) + cr (at8 v 4) (at8 v 6) + cr (at8 v 4) (at8 v 7)
 + cr (at8 v 5) (at8 v 6) + cr (at8 v 5) (at8 v 7) + cr (at8 v 6) (at8 v 7)

theorem cr_yes {a b : Int} (h : b < a) : cr a b = 1 := if_pos h
theorem cr_no {a b : Int} (h : ¬ b < a) : cr a b = 0 := if_neg h

theorem tot_swap {n k : Nat} {v : List Int} (h : Sim n v) (hk : k + 1 < n) (hd : at8 v (k + 1) < at8 v k) : tot (swapL v (k + 1)) + 1 = tot v := by
 have h8 := h.hi
 have e := fun j => at8_swap v (k + 1) j (by rw [h.len]; omega) (by omega)
 have c1 := cr_yes hd
 have c2 : cr (at8 v (k + 1)) (at8 v k) = 0 := cr_no (by omega)
 have : k = 0 ∨ k = 1 ∨ k = 2 ∨ k = 3 ∨ k = 4 ∨ k = 5 ∨ k = 6 := by omega
 unfold tot
 rcases this with rfl | rfl | rfl | rfl | rfl | rfl | rfl <;> simp [e] <;> simp at c1 c2 <;> omega

theorem tot_ex {n k : Nat} {v : List Int} (h : Sim n v) (hk : k + 1 < n) (hd : at8 v (k + 1) < at8 v k) : tot (thenR n (exR n k) v) + 1 = tot v := by
 rw [strip_swap h hk]
 exact tot_swap h hk hd

theorem asc_all {n : Nat} {v : List Int} (h : ∀ k, k + 1 < n → ¬ at8 v (k + 1) < at8 v k) {i : Nat} : ∀ d, i + d < n → at8 v i ≤ at8 v (i + d)
 | 0, _ => Int.le_refl _
 | d + 1, hd => by
  have h1 := asc_all h (i := i) d (by omega)
  have h2 := h (i + d) (by omega)
  rw [show i + (d + 1) = i + d + 1 by omega]
  omega

theorem asc_same {n : Nat} {v : List Int} (hv : Sim n v) (h : ∀ k, k + 1 < n → ¬ at8 v (k + 1) < at8 v k) : v = sameR n := by
 refine pre_one hv fun i j hij hj hd => ?_
 have := asc_all h (i := i) (j - i) (by omega)
 rw [show i + (j - i) = j by omega] at this
 omega

theorem pre_exR {n k : Nat} {v : List Int} (h8 : n ≤ 8) (hk : k + 1 < n) (hd : at8 v (k + 1) < at8 v k) : Pre n (exR n k) v := by
 intro i j hij hj h
 rw [at8_ex n k j hk hj h8, at8_ex n k i hk (by omega) h8] at h
 have : i = k ∧ j = k + 1 := by
  revert h
  repeat' split
  all_goals (intro h; omega)
 rw [this.1, this.2]
 exact hd

theorem ex_exR {n k : Nat} {v : List Int} (hv : Sim n v) (hk : k + 1 < n) : thenR n (exR n k) (thenR n (exR n k) v) = v := by
 have h8 := hv.hi
 have hs := hv.swap (k + 1) (by omega) hk
 rw [strip_swap hv hk, strip_swap hs hk]
 refine ext8 (by rw [swapL_len, swapL_len]; exact hv.len) hv.len fun j _ => ?_
 rw [at8_swap _ (k + 1) j (by rw [swapL_len, hv.len]; omega) (by omega), at8_swap v (k + 1) (k + 1 - 1) (by rw [hv.len]; omega) (by omega), at8_swap v (k + 1) (k + 1) (by rw [hv.len]; omega) (by omega), at8_swap v (k + 1) j (by rw [hv.len]; omega) (by omega)]
 by_cases e1 : j = k + 1
 ·subst e1
  simp
 ·by_cases e2 : j = k
  ·subst e2
   simp
  ·rw [if_neg e1, if_neg (by omega), if_neg e1, if_neg (by omega)]

theorem has_desc {n : Nat} {v : List Int} (hv : Sim n v) (h : v ≠ sameR n) : ∃ k, k + 1 < n ∧ at8 v (k + 1) < at8 v k := by
 false_or_by_contra
 rename_i hc
 exact h (asc_same hv fun k hk hd => hc ⟨k, hk, hd⟩)

/-- Lengths add up. -/
theorem tot_then {n : Nat} {a b : List Int} (ha : Sim n a) (hb : Sim n b) (hs : Short n a b) : tot (thenR n a b) + tot (sameR n) = tot a + tot b := by
 generalize hf : far a = f
 induction f using Nat.strongRecOn generalizing a with
 | _ f ih =>
  have h8 := ha.hi
  by_cases e : a = sameR n
  ·rw [e, same_then hb]
   omega
  ·obtain ⟨k, hk, hd⟩ := has_desc ha e
   have hx := exR_sim n k h8 hk
   have ha' := thenR_sim hx ha
   have hab := thenR_sim ha hb
   have hl := far_less ha hk hd
   have hd2 : at8 (thenR n a b) (k + 1) < at8 (thenR n a b) k := hs k (k + 1) (by omega) hk hd
   have e1 : thenR n (thenR n (exR n k) a) b = thenR n (exR n k) (thenR n a b) := thenR_then _ _ _ hx
   have hs' : Short n (thenR n (exR n k) a) b := by
    refine pre_cancel hx (x := thenR n (exR n k) a) (y := thenR n (thenR n (exR n k) a) b) ?_ ?_
    ·rw [ex_exR ha hk]
     exact pre_exR h8 hk hd
    ·rw [ex_exR ha hk, e1, ex_exR hab hk]
     exact hs
   have h1 := ih _ (by omega) ha' hs' rfl
   rw [e1] at h1
   have h2 := tot_ex ha hk hd
   have h3 := tot_ex hab hk hd2
   omega

theorem tot_ge {n : Nat} {a : List Int} (ha : Sim n a) : tot (sameR n) ≤ tot a ∧ (a ≠ sameR n → tot (sameR n) < tot a) := by
 generalize hf : far a = f
 induction f using Nat.strongRecOn generalizing a with
 | _ f ih =>
  have h8 := ha.hi
  by_cases e : a = sameR n
  ·rw [e]
   exact ⟨Int.le_refl _, fun h => absurd rfl h⟩
  ·obtain ⟨k, hk, hd⟩ := has_desc ha e
   have hl := far_less ha hk hd
   have h1 := (ih _ (by omega) (thenR_sim (exR_sim n k h8 hk) ha) rfl).1
   have h2 := tot_ex ha hk hd
   exact ⟨by omega, fun _ => by omega⟩

end Go.Proofs.Ythpmehhfhngnbaa

