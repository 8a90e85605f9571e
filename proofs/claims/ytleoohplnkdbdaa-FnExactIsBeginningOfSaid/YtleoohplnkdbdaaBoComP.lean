/- The common beginning of two positive braids: the states of the loop, and that they end (plain). -/
import Derived.Test.YtleoohplnkdbdaaBoTraP
import Derived.Test.YtleoohplnkdbdaaBoGL
namespace Go.Proofs.Ytleoohplnkdbdaa

theorem Nl.inv {n : Nat} {x : Int × List (List Int)} (h : Nl n x.2) : Nl n (invN n x).2 := (invL_nl h).turns _

/-- What multiplies to nothing is the inverse. -/
theorem inv_unique {n : Nat} (n2 : 1 < n) (h8 : n ≤ 8) {x y : Int × List (List Int)} (hx : Nl n x.2) (hy : Nl n y.2) (h : mulN n x y = (0, [])) : x = invN n y := by
 have h1 := mul_assoc n2 h8 hx.sims hy.sims hy.inv.sims
 rw [h, mul_inv_right n2 h8 hy.sims, mul_one_left hy.inv, mul_one_right hx] at h1
 exact h1.symm

theorem inv_inv {n : Nat} (n2 : 1 < n) (h8 : n ≤ 8) {x : Int × List (List Int)} (hx : Nl n x.2) : invN n (invN n x) = x :=
 (inv_unique n2 h8 hx hx.inv (mul_inv_right n2 h8 hx.sims)).symm

def stepT (m : Nat) (t : Pf × Pf × Pf) : Pf × Pf × Pf :=
 (mkN m t.1.1 (t.1.2 ++ [comS m t.2.1 t.2.2]), lessN m t.2.1.1 t.2.1.2 (comS m t.2.1 t.2.2), lessN m t.2.2.1 t.2.2.2 (comS m t.2.1 t.2.2))

/-- The states. -/
def trC (m : Nat) (a b : Pf) : Nat → Pf × Pf × Pf
 | 0 => ((0, []), a, b)
 | j + 1 => stepT m (trC m a b j)

structure Good (m : Nat) (a b : Pf) (t : Pf × Pf × Pf) : Prop where
 no : Nl m t.1.2
 na : Nl m t.2.1.2
 nb : Nl m t.2.2.2
 po : 0 ≤ t.1.1
 pa : 0 ≤ t.2.1.1
 pb : 0 ≤ t.2.2.1
 out : mulN m t.1 t.2.1 = a
 dif : mulN m (invN m t.2.1) t.2.2 = mulN m (invN m a) b
 sa : t.2.1.1 + (t.2.1.2.length : Int) ≤ a.1 + a.2.length
 sb : t.2.2.1 + (t.2.2.2.length : Int) ≤ b.1 + b.2.length

theorem comS_sim {m : Nat} (m1 : 1 ≤ m) (m8 : m ≤ 8) (x y : Pf) : Sim m (comS m x y) := meetR_sim m1 m8 _ _

theorem good_start {m : Nat} {a b : Pf} (ha : Nl m a.2) (hb : Nl m b.2) (pa : 0 ≤ a.1) (pb : 0 ≤ b.1) : Good m a b (trC m a b 0) :=
 ⟨Nl.nil, ha, hb, Int.le_refl _, pa, pb, mul_one_left ha, rfl, Int.le_refl _, Int.le_refl _⟩

theorem less_nl {m : Nat} {p : Int} {l : List (List Int)} {s : List Int} (hl : Sims m l) (hs : Sim m s) : Nl m (lessN m p l s).2 := mkN_nl (Sims.cons (turnK_sim _ (leftR_sim hs)) hl)

theorem less_len (m : Nat) (p : Int) (l : List (List Int)) (s : List Int) : (lessN m p l s).1 + ((lessN m p l s).2.length : Int) ≤ p + l.length := by
 have := (mkN_len m (p - 1) (turnK m p (leftR m s) :: l)).2.2
 unfold lessN
 rw [List.length_cons] at this
 omega

theorem good_step {m : Nat} (m2 : 1 < m) (m8 : m ≤ 8) {a b : Pf} {t : Pf × Pf × Pf} (h : Good m a b t) : Good m a b (stepT m t) := by
 have hs := comS_sim (by omega) m8 t.2.1 t.2.2
 have h1 : Pre m (comS m t.2.1 t.2.2) (firstN m t.2.1.1 t.2.1.2) := meet_pre1 (by omega) m8 _ _
 have h2 : Pre m (comS m t.2.1 t.2.2) (firstN m t.2.2.1 t.2.2.2) := meet_pre2 (by omega) m8 _ _
 unfold stepT
 generalize comS m t.2.1 t.2.2 = s at hs h1 h2
 have hS : Sims m ((0 : Int), [s]).2 := Sims.cons hs Sims.nil
 have e0 : mkN m t.1.1 (t.1.2 ++ [s]) = mulN m t.1 (0, [s]) := by
  unfold mulN
  show _ = mkN m (t.1.1 + 0) (turns m 0 t.1.2 ++ [s])
  rw [turns_even _ rfl, Int.add_zero]
 have ea := less_mul m t.2.1.1 t.2.1.2 s
 have eb := less_mul m t.2.2.1 t.2.2.2 s
 have na := less_nl (p := t.2.1.1) h.na.sims hs
 have nb := less_nl (p := t.2.2.1) h.nb.sims hs
 have key : mulN m (0, [s]) (lessN m t.2.1.1 t.2.1.2 s) = t.2.1 := by
  rw [ea, ← mul_assoc m2 m8 hS (inv_sims hS) h.na.sims, mul_inv_right m2 m8 hS]
  exact mul_one_left h.na
 refine ⟨mkN_nl (Sims.app h.no.sims hS), na, nb, Int.le_trans h.po (mkN_len m _ _).2.1, less_pos m2 m8 h.pa h.na hs h1, less_pos m2 m8 h.pb h.nb hs h2, ?_, ?_, Int.le_trans (less_len _ _ _ _) h.sa, Int.le_trans (less_len _ _ _ _) h.sb⟩
 ·show mulN m (mkN m t.1.1 (t.1.2 ++ [s])) (lessN m t.2.1.1 t.2.1.2 s) = a
  rw [e0, mul_assoc m2 m8 h.no.sims hS na.sims, key]
  exact h.out
 ·show mulN m (invN m (lessN m t.2.1.1 t.2.1.2 s)) (lessN m t.2.2.1 t.2.2.2 s) = _
  have e1 : mulN m (invN m (lessN m t.2.1.1 t.2.1.2 s)) (invN m (0, [s])) = invN m t.2.1 := by
   refine inv_unique m2 m8 (mul_sims na.inv.sims (inv_sims hS)) h.na ?_
   rw [mul_assoc m2 m8 na.inv.sims (inv_sims hS) h.na.sims, show mulN m (invN m (0, [s])) t.2.1 = lessN m t.2.1.1 t.2.1.2 s from ea.symm, mul_inv_left m2 m8 na.sims]
  rw [eb, ← mul_assoc m2 m8 na.inv.sims (inv_sims hS) h.nb.sims, e1]
  exact h.dif

theorem good_all {m : Nat} (m2 : 1 < m) (m8 : m ≤ 8) {a b : Pf} (h : Good m a b (trC m a b 0)) : ∀ j, Good m a b (trC m a b j)
 | 0 => h
 | j + 1 => good_step m2 m8 (good_all m2 m8 h j)

theorem tot_nonneg {m : Nat} (m1 : 1 ≤ m) (m8 : m ≤ 8) {x : Pf} (hx : Sims m x.2) (hp : 0 ≤ x.1) : 0 ≤ totN m x := by
 have h1 := tls_ge hx
 have h2 := Int.mul_nonneg hp (tl_ge (halfR_sim m m1 m8))
 unfold totN
 omega

theorem com_ends0 {m : Nat} (m2 : 1 < m) (m8 : m ≤ 8) {a b : Pf} (h : ∀ j, Good m a b (trC m a b j)) : ∀ (f j : Nat), totN m (trC m a b j).2.1 ≤ f → (∀ i, i < j → comS m (trC m a b i).2.1 (trC m a b i).2.2 ≠ sameR m) →
  ∃ N, comS m (trC m a b N).2.1 (trC m a b N).2.2 = sameR m ∧ ∀ i, i < N → comS m (trC m a b i).2.1 (trC m a b i).2.2 ≠ sameR m := by
 intro f
 induction f with
 | zero =>
  intro j hf hi
  refine ⟨j, ?_, hi⟩
  false_or_by_contra
  rename_i hc
  have hg := h (j + 1)
  have hs := comS_sim (by omega) m8 (trC m a b j).2.1 (trC m a b j).2.2
  have h1 : totN m (trC m a b (j + 1)).2.1 = totN m (trC m a b j).2.1 - tl m (comS m (trC m a b j).2.1 (trC m a b j).2.2) := less_tot m2 m8 (h j).na.sims hs
  have h2 := tl_pos hs hc
  have h3 := tot_nonneg (by omega) m8 hg.na.sims hg.pa
  omega
 | succ f ih =>
  intro j hf hi
  by_cases hc : comS m (trC m a b j).2.1 (trC m a b j).2.2 = sameR m
  ·exact ⟨j, hc, hi⟩
  ·have hs := comS_sim (by omega) m8 (trC m a b j).2.1 (trC m a b j).2.2
   have h1 : totN m (trC m a b (j + 1)).2.1 = totN m (trC m a b j).2.1 - tl m (comS m (trC m a b j).2.1 (trC m a b j).2.2) := less_tot m2 m8 (h j).na.sims hs
   have h2 := tl_pos hs hc
   refine ih (j + 1) (by omega) fun i hij => ?_
   by_cases he : i = j
   ·rw [he]; exact hc
   ·exact hi i (by omega)

/-- The loop ends. -/
theorem com_ends {m : Nat} (m2 : 1 < m) (m8 : m ≤ 8) {a b : Pf} (ha : Nl m a.2) (hb : Nl m b.2) (pa : 0 ≤ a.1) (pb : 0 ≤ b.1) (la : a.1 + (a.2.length : Int) ≤ 400) (lb : b.1 + (b.2.length : Int) ≤ 400) :
  ∃ N, CTr m (trC m a b) N ∧ Good m a b (trC m a b N) := by
 have hg := good_all m2 m8 (good_start ha hb pa pb)
 obtain ⟨N, hN, hi⟩ := com_ends0 m2 m8 hg (totN m a).toNat 0 (by have := tot_nonneg (by omega) m8 ha.sims pa; show totN m a ≤ _; omega) (fun i hi => by omega)
 refine ⟨N, ⟨fun j _ => ⟨(hg j).no, (hg j).na, (hg j).nb⟩, fun j _ => ?_, hi, fun j _ => ⟨rfl, rfl, rfl⟩, hN, rfl⟩, hg N⟩
 have h := hg j
 have e : (trC m a b j).1 = mulN m a (invN m (trC m a b j).2.1) := by
  have h9 := mul_assoc m2 m8 h.no.sims h.na.sims h.na.inv.sims
  rw [h.out, mul_inv_right m2 m8 h.na.sims, mul_one_right h.no] at h9
  exact h9.symm
 have hl := (mkN_len m (a.1 + (invN m (trC m a b j).2.1).1) (turns m (invN m (trC m a b j).2.1).1 a.2 ++ (invN m (trC m a b j).2.1).2)).2.2
 have hl2 : (trC m a b j).1.1 + ((trC m a b j).1.2.length : Int) ≤ a.1 + (invN m (trC m a b j).2.1).1 + ((turns m (invN m (trC m a b j).2.1).1 a.2 ++ (invN m (trC m a b j).2.1).2).length : Int) := by
  rw [e]
  exact hl
 have hl3 : (invN m (trC m a b j).2.1).2.length = (trC m a b j).2.1.2.length := by
  show (turns m _ (invL m _)).length = _
  rw [turns_len, invL_len]
 have hl4 : (invN m (trC m a b j).2.1).1 = -((trC m a b j).2.1.2.length : Int) - (trC m a b j).2.1.1 := rfl
 rw [List.length_append, turns_len, hl3, hl4] at hl2
 have h1 := h.po
 have h2 := h.pa
 have h3 := h.pb
 have h4 := h.sa
 have h5 := h.sb
 refine ⟨⟨?_, ?_, ?_⟩, ⟨?_, ?_, ?_⟩, ⟨?_, ?_, ?_⟩⟩ <;> omega

theorem wl_app {n : Nat} {y : List Int} {l2 : List (List Int)} : ∀ {l1 : List (List Int)}, Wl n (l1 ++ [y]) → Wl n (y :: l2) → Wl n (l1 ++ y :: l2)
 | [], _, h => h
 | [_], h1, h2 => ⟨h1.1, h2⟩
 | _ :: b :: l1, h1, h2 => ⟨h1.1, wl_app (l1 := b :: l1) h1.2 h2⟩

theorem com_left {n : Nat} {f : List Int} (hf : Sim n f) : comR n (leftR n f) = f := by
 rw [left_turn hf, ← turn_com (comR_sim hf), com_com hf, turn_turn hf]

theorem meet_half2 {n : Nat} {x : List Int} (hx : Sim n x) : meetR n x (halfR n) = x := by
 have h : mt n (leftR n x) (halfR n) = x := mt_eq (leftR_sim hx) (halfR_sim n hx.lo hx.hi) hx (by rw [com_left hx]; exact Pre.refl _ _) (pre_halfR _) fun q _ h1 _ => by rw [com_left hx] at h1; exact h1
 unfold mt at h
 rw [com_left hx] at h
 exact h

theorem wgt_left {n : Nat} {f g : List Int} (hf : Sim n f) (hg : Sim n g) (h : meetR n f g = sameR n) : Wgt n (leftR n f) g := by
 refine wgt_of_both (leftR_sim hf) hg ?_
 rw [both_mt]
 show thenR n (leftR n f) (mt n (leftR n f) g) = leftR n f
 have e : mt n (leftR n f) g = sameR n := by
  unfold mt
  rw [com_left hf, h]
 rw [e, then_same (leftR_sim hf)]

/-- The inverse of the factors of a braid without half turns, followed by another without a common beginning, is weighed. -/
theorem join_nl {n : Nat} {f g : List Int} {l k : List (List Int)} (hl : Nl n (f :: l)) (hk : Nl n (g :: k)) (h : meetR n f g = sameR n) : Nl n (invL n (f :: l) ++ g :: k) := by
 have hi := invL_nl hl
 refine ⟨Sims.app hi.sims hk.sims, ?_, fun x hx => ?_, fun x hx => ?_⟩
 ·have h1 := hi.wl
  have e : invL n (f :: l) = turns n 1 (invL n l) ++ [leftR n f] := rfl
  rw [e] at h1 ⊢
  rw [List.append_assoc, List.singleton_append]
  exact wl_app h1 ⟨wgt_left hl.sims.head hk.sims.head h, hk.wl⟩
 ·exact (List.mem_append.1 hx).elim (hi.n1 x) (hk.n1 x)
 ·exact (List.mem_append.1 hx).elim (hi.nh x) (hk.nh x)

theorem invL_len2 (n : Nat) (q : Int) (l : List (List Int)) : (turns n q (invL n l)).length = l.length := by rw [turns_len, invL_len]

theorem inv_first {m : Nat} (m2 : 1 < m) (m8 : m ≤ 8) {a : Pf} (ha : Nl m a.2) : turns m (-((a.2.length : Int) + a.1)) (invL m (turns m a.1 (invL m a.2))) = a.2 := by
 have h := congrArg Prod.snd (inv_inv m2 m8 ha)
 have e : -((a.2.length : Int) + a.1) = (invN m a).1 := by
  show _ = -(a.2.length : Int) - a.1
  omega
 rw [e]
 exact h

theorem firstN_none {m : Nat} (m2 : 1 < m) {x : Pf} (hx : Nl m x.2) (hp : 0 ≤ x.1) (h : firstN m x.1 x.2 = sameR m) : x = (0, []) := by
 obtain ⟨p, l⟩ := x
 unfold firstN at h
 by_cases h0 : 0 < p
 ·rw [if_pos h0] at h
  exact absurd h (half_ne m2)
 ·rw [if_neg h0] at h
  have hp0 : p = 0 := by
   have : 0 ≤ p := hp
   omega
  cases l with
  | nil => rw [hp0]
  | cons f l =>
   rw [if_pos (by simp)] at h
   exact absurd h (hx.n1 f (by simp))

/-- The fraction of the inverse of a, followed by b, gives a back, if they have no common beginning. -/
theorem frac_first {m : Nat} (m2 : 1 < m) (m8 : m ≤ 8) {a b : Pf} (ha : Nl m a.2) (hb : Nl m b.2) (pa : 0 ≤ a.1) (pb : 0 ≤ b.1) (h : comS m a b = sameR m) {p : Int} {l : List (List Int)} (hd : mulN m (invN m a) b = (p, l)) :
  ((negK p : Int) - endF p l, fracA m (negK p) l (endF p l)) = a ∧ (0 ≤ p ↔ a = (0, [])) := by
 by_cases ea : a = (0, [])
 ·subst ea
  have e1 : invN m ((0 : Int), []) = (0, []) := by simp [invN, invL, turns]
  rw [e1, mul_one_left hb] at hd
  subst hd
  have hp : 0 ≤ p := pb
  have k0 : negK p = 0 := by unfold negK; omega
  refine ⟨?_, fun _ => rfl, fun _ => hp⟩
  rw [k0, show endF p l = 0 by unfold endF; omega]
  simp [fracA, invL, turns]
 ·by_cases eb : b = (0, [])
  ·subst eb
   rw [mul_one_right ha.inv] at hd
   have hp : p = -(a.2.length : Int) - a.1 := (congrArg Prod.fst hd).symm
   have hl : l = turns m a.1 (invL m a.2) := (congrArg Prod.snd hd).symm
   have hll : l.length = a.2.length := by rw [hl, invL_len2]
   have k0 : (negK p : Int) = a.2.length + a.1 := by unfold negK; omega
   have e0 : endF p l = a.2.length := by unfold endF; omega
   refine ⟨?_, fun h0 => ?_, fun h0 => absurd h0 ea⟩
   ·rw [e0]
    unfold fracA
    rw [k0, List.take_of_length_le (by omega), hl, inv_first m2 m8 ha]
    exact Prod.ext (by show (a.2.length : Int) + a.1 - a.2.length = a.1; omega) rfl
   ·exfalso
    apply ea
    exact Prod.ext (by show a.1 = 0; omega) (List.length_eq_zero_iff.1 (by omega))
  ·-- neither is empty: no half turns on either side
   have hh := halfR_sim m (by omega) m8
   have fa := firstN_sim (by omega) m8 a.1 ha.sims
   have fb := firstN_sim (by omega) m8 b.1 hb.sims
   have a0 : a.1 = 0 := by
    false_or_by_contra
    rename_i hc
    have e : firstN m a.1 a.2 = halfR m := by unfold firstN; rw [if_pos (by omega)]
    have h2 : meetR m (firstN m a.1 a.2) (firstN m b.1 b.2) = sameR m := h
    rw [e, meet_half1 (by omega) m8 fb] at h2
    exact eb (firstN_none m2 hb pb h2)
   have b0 : b.1 = 0 := by
    false_or_by_contra
    rename_i hc
    have e : firstN m b.1 b.2 = halfR m := by unfold firstN; rw [if_pos (by omega)]
    have h2 : meetR m (firstN m a.1 a.2) (firstN m b.1 b.2) = sameR m := h
    rw [e] at h2
    have h3 : Pre m (firstN m a.1 a.2) (meetR m (firstN m a.1 a.2) (halfR m)) := by
     rw [meet_half2 fa]
     exact Pre.refl _ _
    rw [h2] at h3
    exact ea (firstN_none m2 ha pa (pre_one fa h3))
   obtain ⟨x, la⟩ := a
   obtain ⟨y, lb⟩ := b
   have a0' : x = 0 := a0
   have b0' : y = 0 := b0
   subst a0' b0'
   cases la with
   | nil => exact absurd rfl ea
   | cons f la =>
    cases lb with
    | nil => exact absurd rfl eb
    | cons g lb =>
     have h2 : meetR m f g = sameR m := by
      have : meetR m (firstN m 0 (f :: la)) (firstN m 0 (g :: lb)) = sameR m := h
      simpa [firstN, rowAt] using this
     have hj := join_nl ha hb h2
     have e1 : mulN m (invN m (0, f :: la)) (0, g :: lb) = (-((f :: la).length : Int), invL m (f :: la) ++ g :: lb) := by
      unfold mulN invN
      show mkN m (-((f :: la).length : Int) - 0 + 0) (turns m 0 (turns m 0 (invL m (f :: la))) ++ g :: lb) = _
      rw [turns_even (k := 0) _ rfl, turns_even (k := 0) _ rfl, mkN_id _ hj]
      congr 1
     rw [e1] at hd
     have hp : p = -((f :: la).length : Int) := (congrArg Prod.fst hd).symm
     have hl : l = invL m (f :: la) ++ g :: lb := (congrArg Prod.snd hd).symm
     have hi := invL_len m (f :: la)
     have hll : l.length = (f :: la).length + (g :: lb).length := by rw [hl, List.length_append, hi]
     have k0 : (negK p : Int) = (f :: la).length := by unfold negK; omega
     have e0 : endF p l = (f :: la).length := by unfold endF; omega
     refine ⟨?_, fun h0 => ?_, fun h0 => absurd h0 ea⟩
     ·rw [e0]
      unfold fracA
      rw [k0, hl, List.take_left' hi]
      have h3 := inv_first m2 m8 (a := ((0 : Int), f :: la)) ha
      have h4 : turns m (-((f :: la).length : Int)) (invL m (invL m (f :: la))) = f :: la := by
       have e5 : -(((0 : Int), f :: la).2.length + ((0 : Int), f :: la).1 : Int) = -((f :: la).length : Int) := by
        show -(((f :: la).length : Int) + 0) = _
        omega
       rw [e5, show turns m ((0 : Int), f :: la).1 (invL m ((0 : Int), f :: la).2) = invL m (f :: la) from turns_even _ rfl] at h3
       exact h3
      rw [h4]
      exact Prod.ext (by show ((f :: la).length : Int) - (f :: la).length = 0; omega) rfl
     ·exfalso
      rw [List.length_cons] at hp
      omega

end Go.Proofs.Ytleoohplnkdbdaa

