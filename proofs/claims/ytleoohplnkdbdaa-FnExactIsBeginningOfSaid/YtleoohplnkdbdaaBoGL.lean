/- Merged texts. -/
import Derived.Test.YtleoohplnkdbdaaBoPQ

/- Normal forms multiply: products of weighed pairs, and their inverses (plain). -/
namespace Go.Proofs.Ytleoohplnkdbdaa

/-- The product of two pairs: a power and factors. -/
def mulN (n : Nat) (x y : Int × List (List Int)) : Int × List (List Int) := mkN n (x.1 + y.1) (turns n y.1 x.2 ++ y.2)
/-- The inverse of a pair. -/
def invN (n : Nat) (x : Int × List (List Int)) : Int × List (List Int) := (-(x.2.length : Int) - x.1, turns n x.1 (invL n x.2))

theorem both_to_half {n : Nat} {x : List Int} (hx : Sim n x) : both n x (halfR n) = (halfR n, turnR n x) := by
 have hh := halfR_sim n hx.lo hx.hi
 have hc := comR_sim hx
 have e : mt n x (halfR n) = comR n x := mt_eq hx hh hc (Pre.refl _ _) (pre_halfR _) fun q _ h _ => h
 rw [both_mt, e]
 congr 1
 ·unfold comR
  exact back_then_then hx hh
 ·rw [← com_com hx]
  rfl

theorem act_to_half {n : Nat} {x : List Int} (hx : Sim n x) {l : List (List Int)} : act n x (halfR n :: l) = halfR n :: act n (turnR n x) l := by
 simp only [act]
 rw [both_to_half hx]

theorem nf_half {n : Nat} (n2 : 1 < n) (h8 : n ≤ 8) {l : List (List Int)} (hl : Sims n l) : nf n (halfR n :: l) = halfR n :: nf n l := nf_reps n2 h8 1 hl

theorem nf_push {n : Nat} (n2 : 1 < n) (h8 : n ≤ 8) {x : List Int} {l : List (List Int)} (hx : Sim n x) (hl : Sims n l) : nf n (x :: halfR n :: l) = nf n (halfR n :: turnR n x :: l) := by
 rw [nf_cons, nf_half n2 h8 hl, act_to_half hx, nf_half n2 h8 (Sims.cons (turnR_sim hx) hl), nf_cons]

theorem nf_pushL {n : Nat} (n2 : 1 < n) (h8 : n ≤ 8) {m : List (List Int)} (hm : Sims n m) : ∀ {l : List (List Int)}, Sims n l → nf n (l ++ halfR n :: m) = nf n (halfR n :: (turns n 1 l ++ m))
 | [], _ => rfl
 | x :: l, hl => by
  have hh := halfR_sim n (by omega) h8
  have ht : Sims n (turns n 1 l ++ m) := Sims.app (turnsK_sims hl.tail) hm
  rw [List.cons_append, nf_cons, nf_pushL n2 h8 hm hl.tail, ← nf_cons, nf_push n2 h8 hl.head ht]
  rfl

theorem nf_pushK {n : Nat} (n2 : 1 < n) (h8 : n ≤ 8) {m : List (List Int)} (hm : Sims n m) : ∀ (d : Nat) {l : List (List Int)}, Sims n l → nf n (l ++ (List.replicate d (halfR n) ++ m)) = nf n (List.replicate d (halfR n) ++ (turns n d l ++ m))
 | 0, l, hl => by
  rw [show turns n ((0 : Nat) : Int) l = l from turns_even l rfl]
  rfl
 | d + 1, l, hl => by
  have hh := halfR_sim n (by omega) h8
  have hd : Sims n (List.replicate d (halfR n) ++ m) := Sims.app (fun x hx => by rw [List.eq_of_mem_replicate hx]; exact hh) hm
  have ht : Sims n (turns n 1 l) := turnsK_sims hl
  have hr : Sims n (List.replicate d (halfR n) ++ (turns n d (turns n 1 l) ++ m)) := Sims.app (fun x hx => by rw [List.eq_of_mem_replicate hx]; exact hh) (Sims.app (turnsK_sims ht) hm)
  rw [List.replicate_succ, List.cons_append, nf_pushL n2 h8 hd hl, nf_half n2 h8 (Sims.app ht hd), nf_pushK n2 h8 hm d ht, ← nf_half n2 h8 hr, turns_add _ _ hl]
  rfl

theorem mkN_congr {n : Nat} (p : Int) {l l' : List (List Int)} (h : nf n l = nf n l') : mkN n p l = mkN n p l' := by
 unfold mkN
 rw [h]

theorem mkN_shift (n : Nat) (p q : Int) (l : List (List Int)) : mkN n (p + q) l = ((mkN n p l).1 + q, (mkN n p l).2) := by
 unfold mkN
 congr 1
 omega

theorem mul_right {n : Nat} (n2 : 1 < n) (h8 : n ≤ 8) {x y : Int × List (List Int)} (hx : Sims n x.2) (hy : Sims n y.2) : mulN n x (mkN n y.1 y.2) = mulN n x y := by
 have hs := nf_sims hy
 have hd : Sims n ((nf n y.2).drop (lead (halfR n) (nf n y.2))) := fun z hz => hs z (List.mem_of_mem_drop hz)
 have ht : Sims n (turns n y.1 x.2) := turnsK_sims hx
 unfold mulN
 rw [mkN_congr (x.1 + y.1) (show nf n (turns n y.1 x.2 ++ y.2) = nf n (List.replicate (lead (halfR n) (nf n y.2)) (halfR n) ++ (turns n (lead (halfR n) (nf n y.2) : Nat) (turns n y.1 x.2) ++ (nf n y.2).drop (lead (halfR n) (nf n y.2)))) by
  rw [← nf_pushK n2 h8 hd _ ht, ← lead_split, nf_right hy])]
 rw [mkN_reps n2 h8 _ _ (Sims.app (turnsK_sims ht) hd), turns_add _ _ hx]
 show mkN n (x.1 + (y.1 + (lead (halfR n) (nf n y.2) : Nat))) (turns n (y.1 + (lead (halfR n) (nf n y.2) : Nat)) x.2 ++ (nf n y.2).drop (lead (halfR n) (nf n y.2))) = _
 rw [Int.add_assoc, Int.add_comm y.1]

theorem mul_left {n : Nat} (n2 : 1 < n) (h8 : n ≤ 8) {x y : Int × List (List Int)} (hx : Sims n x.2) (hy : Sims n y.2) : mulN n (mkN n x.1 x.2) y = mulN n x y := by
 unfold mulN
 have e := mkN_turns (by omega) h8 (x.1 + y.1) y.1 hx
 have e2 := mkN_app n2 h8 (x.1 + y.1) (turnsK_sims (k := y.1) hx) hy
 rw [e] at e2
 rw [← e2, mkN_shift n x.1 y.1 x.2]

theorem mul_sims {n : Nat} {x y : Int × List (List Int)} (hx : Sims n x.2) (hy : Sims n y.2) : Nl n (mulN n x y).2 := mkN_nl (Sims.app (turnsK_sims hx) hy)

theorem mul_assoc {n : Nat} (n2 : 1 < n) (h8 : n ≤ 8) {x y z : Int × List (List Int)} (hx : Sims n x.2) (hy : Sims n y.2) (hz : Sims n z.2) : mulN n (mulN n x y) z = mulN n x (mulN n y z) := by
 have h1 : mulN n (mulN n x y) z = mulN n (x.1 + y.1, turns n y.1 x.2 ++ y.2) z := mul_left n2 h8 (x := (x.1 + y.1, turns n y.1 x.2 ++ y.2)) (Sims.app (turnsK_sims hx) hy) hz
 have h2 : mulN n x (mulN n y z) = mulN n x (y.1 + z.1, turns n z.1 y.2 ++ z.2) := mul_right n2 h8 (y := (y.1 + z.1, turns n z.1 y.2 ++ z.2)) hx (Sims.app (turnsK_sims hy) hz)
 rw [h1, h2]
 unfold mulN
 show mkN n (x.1 + y.1 + z.1) (turns n z.1 (turns n y.1 x.2 ++ y.2) ++ z.2) = mkN n (x.1 + (y.1 + z.1)) (turns n (y.1 + z.1) x.2 ++ (turns n z.1 y.2 ++ z.2))
 rw [show turns n z.1 (turns n y.1 x.2 ++ y.2) = turns n z.1 (turns n y.1 x.2) ++ turns n z.1 y.2 by simp [turns], turns_add _ _ hx, Int.add_assoc, Int.add_comm z.1, List.append_assoc]

theorem mul_one_left {n : Nat} {y : Int × List (List Int)} (hy : Nl n y.2) : mulN n (0, []) y = y := by
 unfold mulN
 show mkN n (0 + y.1) (turns n y.1 [] ++ y.2) = y
 rw [show turns n y.1 [] = [] from rfl, List.nil_append, mkN_id _ hy, Int.zero_add]

theorem mul_one_right {n : Nat} {x : Int × List (List Int)} (hx : Nl n x.2) : mulN n x (0, []) = x := by
 unfold mulN
 show mkN n (x.1 + 0) (turns n 0 x.2 ++ []) = x
 rw [turns_even _ rfl, List.append_nil, mkN_id _ hx, Int.add_zero]

theorem both_whole {n : Nat} {a b : List Int} (ha : Sim n a) (hb : Sim n b) (h : thenR n a b = halfR n) : both n a b = (halfR n, sameR n) := by
 have e := both_of_short ha hb (show Pre n a (thenR n a b) by rw [h]; exact pre_halfR _)
 rw [e, h]

theorem nf_whole {n : Nat} {a b : List Int} (ha : Sim n a) (hb : Sim n b) (h : thenR n a b = halfR n) (l : List (List Int)) {m : List (List Int)} (hm : Sims n m) : nf n (l ++ a :: b :: m) = nf n (l ++ halfR n :: m) := by
 have e := both_whole ha hb h
 rw [← nf_move ha hb hm, e]
 show nf n (l ++ halfR n :: sameR n :: m) = _
 rw [nf_app, nf_app, nf_cons, nf_cons, act_one ha.lo ha.hi (nf_sims hm), nf_cons]

theorem invL_sims {n : Nat} : ∀ {l : List (List Int)}, Sims n l → Sims n (invL n l)
 | [], _ => Sims.nil
 | _ :: _, h => Sims.app (turnsK_sims (invL_sims h.tail)) (Sims.cons (leftR_sim h.head) Sims.nil)

theorem inv_left {n : Nat} (n2 : 1 < n) (h8 : n ≤ 8) : ∀ {l : List (List Int)}, Sims n l → nf n (invL n l ++ l) = List.replicate l.length (halfR n)
 | [], _ => rfl
 | f :: l, h => by
  have hi := invL_sims h.tail
  rw [show invL n (f :: l) ++ f :: l = turns n 1 (invL n l) ++ (leftR n f) :: f :: l by simp [invL],
   nf_whole (leftR_sim h.head) h.head (left_then h.head) _ h.tail, nf_pushL n2 h8 h.tail (turnsK_sims hi), nf_half n2 h8 (Sims.app (turnsK_sims (turnsK_sims hi)) h.tail),
   turns_add _ _ hi, turns_even _ rfl, inv_left n2 h8 h.tail]
  rfl

theorem nf_all {n : Nat} (n2 : 1 < n) (h8 : n ≤ 8) (d : Nat) : nf n (List.replicate d (halfR n)) = List.replicate d (halfR n) := by
 have := nf_reps n2 h8 d (l := []) Sims.nil
 simpa [nf_nil] using this

theorem mkN_all {n : Nat} (n2 : 1 < n) (h8 : n ≤ 8) (p : Int) {l : List (List Int)} {d : Nat} (h : nf n l = List.replicate d (halfR n)) : mkN n p l = (p + d, []) := by
 rw [mkN_congr p (l' := List.replicate d (halfR n)) (by rw [h, nf_all n2 h8])]
 have := mkN_reps n2 h8 p d (l := []) Sims.nil
 rw [List.append_nil] at this
 rw [this, mkN_id _ Nl.nil]

theorem mul_inv_left {n : Nat} (n2 : 1 < n) (h8 : n ≤ 8) {x : Int × List (List Int)} (hx : Sims n x.2) : mulN n (invN n x) x = (0, []) := by
 have hi := invL_sims hx
 unfold mulN invN
 show mkN n (-(x.2.length : Int) - x.1 + x.1) (turns n x.1 (turns n x.1 (invL n x.2)) ++ x.2) = _
 rw [turns_add _ _ hi, turns_even _ (by omega), mkN_all n2 h8 _ (inv_left n2 h8 hx)]
 congr 1
 omega

theorem inv_right {n : Nat} (n2 : 1 < n) (h8 : n ≤ 8) : ∀ {l : List (List Int)}, Sims n l → nf n (turns n l.length l ++ invL n l) = List.replicate l.length (halfR n)
 | [], _ => rfl
 | f :: l, h => by
  have hi := invL_sims h.tail
  have hh := halfR_sim n (by omega) h8
  have hq := turnsK_sims (k := (l.length : Int)) h.tail
  have hf := turnK_sim ((l.length : Int) + 1) h.head
  have hz : Sims n (turns n 1 (turns n l.length l ++ invL n l)) := turnsK_sims (Sims.app hq hi)
  have hl : Sims n [leftR n f] := Sims.cons (leftR_sim h.head) Sims.nil
  have e1 : turns n ((f :: l).length : Int) (f :: l) ++ invL n (f :: l) = turnK n ((l.length : Int) + 1) f :: (turns n 1 (turns n l.length l ++ invL n l) ++ [leftR n f]) := by
   rw [show turns n ((f :: l).length : Int) (f :: l) = turnK n ((l.length : Int) + 1) f :: turns n ((l.length : Int) + 1) l by simp [turns]]
   rw [show turns n 1 (turns n l.length l ++ invL n l) = turns n 1 (turns n l.length l) ++ turns n 1 (invL n l) by simp [turns], turns_add _ _ h.tail, Int.add_comm 1]
   simp [invL]
  have e2 : nf n (turns n 1 (turns n l.length l ++ invL n l)) = List.replicate l.length (halfR n) := by
   rw [turns_nf _ (Sims.app hq hi), inv_right n2 h8 h.tail, turns_reps (by omega) h8]
  rw [e1, nf_cons, ← nf_left hz hl, e2, ← nf_cons]
  have e3 := nf_pushK n2 h8 hl l.length (l := [turnK n ((l.length : Int) + 1) f]) (Sims.cons hf Sims.nil)
  rw [List.singleton_append] at e3
  rw [e3, nf_reps n2 h8 _ (Sims.app (turnsK_sims (Sims.cons hf Sims.nil)) hl)]
  have e4 : turns n (l.length : Int) [turnK n ((l.length : Int) + 1) f] = [turnR n f] := by
   show [turnK n (l.length : Int) (turnK n ((l.length : Int) + 1) f)] = _
   rw [turnK_add _ _ h.head, turnK_congr (k := 1) _ (by omega)]
   rfl
  have e5 : thenR n (turnR n f) (leftR n f) = halfR n := by
   rw [left_turn h.head, ← turn_then h.head (comR_sim h.head), show thenR n f (comR n f) = halfR n from back_then_then h.head hh, turn_half n (by omega) h8]
  rw [e4, List.singleton_append]
  have e6 := nf_whole (turnR_sim h.head) (leftR_sim h.head) e5 [] Sims.nil
  rw [List.nil_append, List.nil_append] at e6
  rw [e6, show nf n [halfR n] = [halfR n] from nf_all n2 h8 1, List.length_cons, List.replicate_succ']

theorem mul_inv_right {n : Nat} (n2 : 1 < n) (h8 : n ≤ 8) {x : Int × List (List Int)} (hx : Sims n x.2) : mulN n x (invN n x) = (0, []) := by
 have hi := invL_sims hx
 have hq := turnsK_sims (k := (x.2.length : Int)) hx
 unfold mulN invN
 show mkN n (x.1 + (-(x.2.length : Int) - x.1)) (turns n (-(x.2.length : Int) - x.1) x.2 ++ turns n x.1 (invL n x.2)) = _
 have e : nf n (turns n (-(x.2.length : Int) - x.1) x.2 ++ turns n x.1 (invL n x.2)) = List.replicate x.2.length (halfR n) := by
  rw [show turns n (-(x.2.length : Int) - x.1) x.2 = turns n x.1 (turns n x.2.length x.2) by
   rw [turns_add _ _ hx]
   unfold turns
   exact List.map_congr_left fun s _ => turnK_congr s (by omega)]
  rw [show turns n x.1 (turns n x.2.length x.2) ++ turns n x.1 (invL n x.2) = turns n x.1 (turns n x.2.length x.2 ++ invL n x.2) by simp [turns], turns_nf _ (Sims.app hq hi), inv_right n2 h8 hx, turns_reps (by omega) h8]
 rw [mkN_all n2 h8 _ e]
 congr 1
 omega

theorem less_mul (n : Nat) (p : Int) (l : List (List Int)) (s : List Int) : lessN n p l s = mulN n (invN n (0, [s])) (p, l) := by
 unfold lessN mulN invN
 show mkN n (p - 1) (turnK n p (leftR n s) :: l) = mkN n (-(1 : Int) - 0 + p) (turns n p (turns n 0 (turns n 1 [] ++ [leftR n s])) ++ l)
 rw [turns_even (k := 0) _ rfl, show -(1 : Int) - 0 + p = p - 1 by omega]
 rfl

end Go.Proofs.Ytleoohplnkdbdaa

/- How many crossings: lengths add up (plain). -/
namespace Go.Proofs.Ytleoohplnkdbdaa

/-- One pair, turned or not. -/
def cr (a b : Int) : Int := if b < a then 1 else 0
/-- All pairs of eight places that stand the wrong way round. -/
def tot (v : List Int) : Int :=
 cr (at8 v 0) (at8 v 1) + cr (at8 v 0) (at8 v 2) + cr (at8 v 0) (at8 v 3) + cr (at8 v 0) (at8 v 4) + cr (at8 v 0) (at8 v 5) + cr (at8 v 0) (at8 v 6) + cr (at8 v 0) (at8 v 7)
 + cr (at8 v 1) (at8 v 2) + cr (at8 v 1) (at8 v 3) + cr (at8 v 1) (at8 v 4) + cr (at8 v 1) (at8 v 5) + cr (at8 v 1) (at8 v 6) + cr (at8 v 1) (at8 v 7)
 + cr (at8 v 2) (at8 v 3) + cr (at8 v 2) (at8 v 4) + cr (at8 v 2) (at8 v 5) + cr (at8 v 2) (at8 v 6) + cr (at8 v 2) (at8 v 7)
 + cr (at8 v 3) (at8 v 4) + cr (at8 v 3) (at8 v 5) + cr (at8 v 3) (at8 v 6) + cr (at8 v 3) (at8 v 7)
 + cr (at8 v 4) (at8 v 5) + cr (at8 v 4) (at8 v 6) + cr (at8 v 4) (at8 v 7)
 + cr (at8 v 5) (at8 v 6) + cr (at8 v 5) (at8 v 7) + cr (at8 v 6) (at8 v 7)

theorem cr_yes {a b : Int} (h : b < a) : cr a b = 1 := if_pos h
theorem cr_no {a b : Int} (h : ¬ b < a) : cr a b = 0 := if_neg h

theorem tot_swap {n k : Nat} {v : List Int} (h : Sim n v) (hk : k + 1 < n) (hd : at8 v (k + 1) < at8 v k) : tot (swapL v (k + 1)) + 1 = tot v := by
 have h8 := h.hi
 have e := fun j => at8_swap v (k + 1) j (by rw [h.len]; omega) (by omega)
 have c1 := cr_yes hd
 have c2 : cr (at8 v (k + 1)) (at8 v k) = 0 := cr_no (by omega)
 have : k = 0 ∨ k = 1 ∨ k = 2 ∨ k = 3 ∨ k = 4 ∨ k = 5 ∨ k = 6 := by omega
 unfold tot
 rcases this with rfl | rfl | rfl | rfl | rfl | rfl | rfl <;> simp [e] <;> simp at c1 c2 <;> omega

theorem tot_ex {n k : Nat} {v : List Int} (h : Sim n v) (hk : k + 1 < n) (hd : at8 v (k + 1) < at8 v k) : tot (thenR n (exR n k) v) + 1 = tot v := by
 rw [strip_swap h hk]
 exact tot_swap h hk hd

theorem asc_all {n : Nat} {v : List Int} (h : ∀ k, k + 1 < n → ¬ at8 v (k + 1) < at8 v k) {i : Nat} : ∀ d, i + d < n → at8 v i ≤ at8 v (i + d)
 | 0, _ => Int.le_refl _
 | d + 1, hd => by
  have h1 := asc_all h (i := i) d (by omega)
  have h2 := h (i + d) (by omega)
  rw [show i + (d + 1) = i + d + 1 by omega]
  omega

theorem asc_same {n : Nat} {v : List Int} (hv : Sim n v) (h : ∀ k, k + 1 < n → ¬ at8 v (k + 1) < at8 v k) : v = sameR n := by
 refine pre_one hv fun i j hij hj hd => ?_
 have := asc_all h (i := i) (j - i) (by omega)
 rw [show i + (j - i) = j by omega] at this
 omega

theorem pre_exR {n k : Nat} {v : List Int} (h8 : n ≤ 8) (hk : k + 1 < n) (hd : at8 v (k + 1) < at8 v k) : Pre n (exR n k) v := by
 intro i j hij hj h
 rw [at8_ex n k j hk hj h8, at8_ex n k i hk (by omega) h8] at h
 have : i = k ∧ j = k + 1 := by
  revert h
  repeat' split
  all_goals (intro h; omega)
 rw [this.1, this.2]
 exact hd

theorem ex_exR {n k : Nat} {v : List Int} (hv : Sim n v) (hk : k + 1 < n) : thenR n (exR n k) (thenR n (exR n k) v) = v := by
 have h8 := hv.hi
 have hs := hv.swap (k + 1) (by omega) hk
 rw [strip_swap hv hk, strip_swap hs hk]
 refine ext8 (by rw [swapL_len, swapL_len]; exact hv.len) hv.len fun j _ => ?_
 rw [at8_swap _ (k + 1) j (by rw [swapL_len, hv.len]; omega) (by omega), at8_swap v (k + 1) (k + 1 - 1) (by rw [hv.len]; omega) (by omega), at8_swap v (k + 1) (k + 1) (by rw [hv.len]; omega) (by omega), at8_swap v (k + 1) j (by rw [hv.len]; omega) (by omega)]
 by_cases e1 : j = k + 1
 ·subst e1
  simp
 ·by_cases e2 : j = k
  ·subst e2
   simp
  ·rw [if_neg e1, if_neg (by omega), if_neg e1, if_neg (by omega)]

theorem has_desc {n : Nat} {v : List Int} (hv : Sim n v) (h : v ≠ sameR n) : ∃ k, k + 1 < n ∧ at8 v (k + 1) < at8 v k := by
 false_or_by_contra
 rename_i hc
 exact h (asc_same hv fun k hk hd => hc ⟨k, hk, hd⟩)

/-- Lengths add up. -/
theorem tot_then {n : Nat} {a b : List Int} (ha : Sim n a) (hb : Sim n b) (hs : Short n a b) : tot (thenR n a b) + tot (sameR n) = tot a + tot b := by
 generalize hf : far a = f
 induction f using Nat.strongRecOn generalizing a with
 | _ f ih =>
  have h8 := ha.hi
  by_cases e : a = sameR n
  ·rw [e, same_then hb]
   omega
  ·obtain ⟨k, hk, hd⟩ := has_desc ha e
   have hx := exR_sim n k h8 hk
   have ha' := thenR_sim hx ha
   have hab := thenR_sim ha hb
   have hl := far_less ha hk hd
   have hd2 : at8 (thenR n a b) (k + 1) < at8 (thenR n a b) k := hs k (k + 1) (by omega) hk hd
   have e1 : thenR n (thenR n (exR n k) a) b = thenR n (exR n k) (thenR n a b) := thenR_then _ _ _ hx
   have hs' : Short n (thenR n (exR n k) a) b := by
    refine pre_cancel hx (x := thenR n (exR n k) a) (y := thenR n (thenR n (exR n k) a) b) ?_ ?_
    ·rw [ex_exR ha hk]
     exact pre_exR h8 hk hd
    ·rw [ex_exR ha hk, e1, ex_exR hab hk]
     exact hs
   have h1 := ih _ (by omega) ha' hs' rfl
   rw [e1] at h1
   have h2 := tot_ex ha hk hd
   have h3 := tot_ex hab hk hd2
   omega

theorem tot_ge {n : Nat} {a : List Int} (ha : Sim n a) : tot (sameR n) ≤ tot a ∧ (a ≠ sameR n → tot (sameR n) < tot a) := by
 generalize hf : far a = f
 induction f using Nat.strongRecOn generalizing a with
 | _ f ih =>
  have h8 := ha.hi
  by_cases e : a = sameR n
  ·rw [e]
   exact ⟨Int.le_refl _, fun h => absurd rfl h⟩
  ·obtain ⟨k, hk, hd⟩ := has_desc ha e
   have hl := far_less ha hk hd
   have h1 := (ih _ (by omega) (thenR_sim (exR_sim n k h8 hk) ha) rfl).1
   have h2 := tot_ex ha hk hd
   exact ⟨by omega, fun _ => by omega⟩

end Go.Proofs.Ytleoohplnkdbdaa

/- The length of a pair: it adds up, and what is left behind a beginning is positive (plain). -/
namespace Go.Proofs.Ytleoohplnkdbdaa

def tl (n : Nat) (x : List Int) : Int := tot x - tot (sameR n)
def tls (n : Nat) : List (List Int) → Int
 | [] => 0
 | x :: l => tl n x + tls n l
/-- The length of a power of the half turn and factors. -/
def totN (n : Nat) (x : Int × List (List Int)) : Int := x.1 * tl n (halfR n) + tls n x.2

theorem tl_same (n : Nat) : tl n (sameR n) = 0 := by unfold tl; omega
theorem tl_ge {n : Nat} {a : List Int} (ha : Sim n a) : 0 ≤ tl n a := by have := (tot_ge ha).1; unfold tl; omega
theorem tl_pos {n : Nat} {a : List Int} (ha : Sim n a) (h : a ≠ sameR n) : 0 < tl n a := by have := (tot_ge ha).2 h; unfold tl; omega

theorem both_tl {n : Nat} {a x : List Int} (ha : Sim n a) (hx : Sim n x) : tl n (both n a x).1 + tl n (both n a x).2 = tl n a + tl n x := by
 have hm := mt_sim ha x
 have hy := thenR_sim (backR_sim hm) hx
 have h1 := tot_then ha hm (both_short ha hx)
 have h2 := tot_then hm hy (both_short2 ha hx)
 rw [back_then_then hm hx] at h2
 rw [both_mt]
 unfold tl
 show tot (thenR n a (mt n a x)) - tot (sameR n) + (tot (thenR n (backR n (mt n a x)) x) - tot (sameR n)) = _
 omega

theorem act_tls {n : Nat} {s : List Int} {l : List (List Int)} (hs : Sim n s) (hl : Sims n l) : tls n (act n s l) = tl n s + tls n l := by
 induction l generalizing s with
 | nil =>
  unfold act
  split
  ·rename_i h
   rw [h, tl_same]
   rfl
  ·rfl
 | cons f l ih =>
  have hb := both_sim hs hl.head
  have h1 := both_tl hs hl.head
  have h2 := ih hb.2 hl.tail
  show tl n (both n s f).1 + tls n (act n (both n s f).2 l) = tl n s + (tl n f + tls n l)
  omega

theorem nf_tls {n : Nat} {l : List (List Int)} (hl : Sims n l) : tls n (nf n l) = tls n l := by
 induction l with
 | nil => rfl
 | cons f l ih =>
  rw [nf_cons, act_tls hl.head (nf_sims hl.tail), ih hl.tail]
  rfl

theorem tls_app (n : Nat) (l m : List (List Int)) : tls n (l ++ m) = tls n l + tls n m := by
 induction l with
 | nil => simp [tls]
 | cons f l ih =>
  show tl n f + tls n (l ++ m) = tl n f + tls n l + tls n m
  omega

theorem tls_rep (n : Nat) (d : Nat) (x : List Int) : tls n (List.replicate d x) = (d : Int) * tl n x := by
 induction d with
 | zero => simp [tls]
 | succ d ih =>
  show tl n x + tls n (List.replicate d x) = _
  rw [ih, show ((d + 1 : Nat) : Int) = (d : Int) + 1 by omega, Int.add_mul, Int.one_mul, Int.add_comm]

theorem tls_ge {n : Nat} {l : List (List Int)} (hl : Sims n l) : 0 ≤ tls n l := by
 induction l with
 | nil => exact Int.le_refl _
 | cons f l ih =>
  have h1 := tl_ge hl.head
  have h2 := ih hl.tail
  show 0 ≤ tl n f + tls n l
  omega

theorem turn_tl {n : Nat} {x : List Int} (hx : Sim n x) : tl n (turnR n x) = tl n x := by
 have h := both_tl hx (halfR_sim n hx.lo hx.hi)
 rw [both_to_half hx] at h
 have h2 : tl n (halfR n) + tl n (turnR n x) = tl n x + tl n (halfR n) := h
 omega

theorem turns_tls {n : Nat} (k : Int) {l : List (List Int)} (hl : Sims n l) : tls n (turns n k l) = tls n l := by
 induction l with
 | nil => rfl
 | cons f l ih =>
  show tl n (turnK n k f) + tls n (turns n k l) = tl n f + tls n l
  rw [ih hl.tail]
  unfold turnK
  split
  ·rfl
  ·rw [turn_tl hl.head]

theorem mkN_tot {n : Nat} (p : Int) {l : List (List Int)} (hl : Sims n l) : totN n (mkN n p l) = totN n (p, l) := by
 have h := nf_tls hl
 rw [lead_split (halfR n) (nf n l), tls_app, tls_rep] at h
 unfold totN mkN
 show (p + (lead (halfR n) (nf n l) : Nat)) * tl n (halfR n) + tls n ((nf n l).drop (lead (halfR n) (nf n l))) = p * tl n (halfR n) + tls n l
 rw [Int.add_mul]
 omega

theorem mul_tot {n : Nat} {x y : Int × List (List Int)} (hx : Sims n x.2) (hy : Sims n y.2) : totN n (mulN n x y) = totN n x + totN n y := by
 unfold mulN
 rw [mkN_tot _ (Sims.app (turnsK_sims hx) hy)]
 unfold totN
 show (x.1 + y.1) * tl n (halfR n) + tls n (turns n y.1 x.2 ++ y.2) = _
 rw [tls_app, turns_tls _ hx, Int.add_mul]
 omega

theorem inv_sims {n : Nat} {x : Int × List (List Int)} (hx : Sims n x.2) : Sims n (invN n x).2 := turnsK_sims (invL_sims hx)

theorem inv_tot {n : Nat} (n2 : 1 < n) (h8 : n ≤ 8) {x : Int × List (List Int)} (hx : Sims n x.2) : totN n (invN n x) = -totN n x := by
 have h := mul_tot (inv_sims hx) hx
 rw [mul_inv_left n2 h8 hx] at h
 have h0 : totN n (0, []) = 0 := by simp [totN, tls]
 omega

theorem one_tot (n : Nat) (s : List Int) : totN n (0, [s]) = tl n s := by simp [totN, tls]

theorem less_tot {n : Nat} (n2 : 1 < n) (h8 : n ≤ 8) {p : Int} {l : List (List Int)} {s : List Int} (hl : Sims n l) (hs : Sim n s) : totN n (lessN n p l s) = totN n (p, l) - tl n s := by
 have h1 : Sims n ((0 : Int), [s]).2 := Sims.cons hs Sims.nil
 rw [less_mul, mul_tot (inv_sims h1) hl, inv_tot n2 h8 h1, one_tot]
 omega

/-- What is left of a positive braid behind a simple braid that begins it is positive. -/
theorem less_pos {n : Nat} (n2 : 1 < n) (h8 : n ≤ 8) {p : Int} {l : List (List Int)} {s : List Int} (hp : 0 ≤ p) (hl : Nl n l) (hs : Sim n s) (hb : Pre n s (firstN n p l)) : 0 ≤ (lessN n p l s).1 := by
 by_cases h0 : 0 < p
 ·have := (mkN_len n (p - 1) (turnK n p (leftR n s) :: l)).2.1
  unfold lessN
  omega
 ·have hp0 : p = 0 := by omega
  subst hp0
  cases l with
  | nil =>
   have e : firstN n 0 [] = sameR n := by simp [firstN]
   rw [e] at hb
   have := pre_one hs hb
   subst this
   have e2 : lessN n 0 [] (sameR n) = (0, []) := by
    rw [less_mul]
    have h1 := mul_inv_left n2 h8 (x := ((0 : Int), [sameR n])) (Sims.cons hs Sims.nil)
    have h2 := mul_left n2 h8 (x := ((0 : Int), [sameR n])) (y := ((0 : Int), [])) (Sims.cons hs Sims.nil) Sims.nil
    have e3 : mkN n 0 [sameR n] = (0, []) := by
     rw [mkN_congr 0 (l' := []) (by rw [nf_cons, nf_nil]; simp [act])]
     exact mkN_id 0 Nl.nil
    have e4 : mulN n (0, []) ((0 : Int), []) = (0, []) := mul_one_left Nl.nil
    have e5 : mulN n (0, [sameR n]) (0, []) = (0, []) := by
     rw [← h2, e3, e4]
    have h3 := mul_assoc n2 h8 (x := invN n (0, [sameR n])) (y := ((0 : Int), [sameR n])) (z := ((0 : Int), [])) (inv_sims (x := ((0 : Int), [sameR n])) (Sims.cons hs Sims.nil)) (Sims.cons hs Sims.nil) Sims.nil
    rw [e5, h1, e4] at h3
    exact h3.symm
   rw [e2]
   exact Int.le_refl _
  | cons f l =>
   have e : firstN n 0 (f :: l) = f := by simp [firstN, rowAt]
   rw [e] at hb
   have hf := hl.sims.head
   have hr := thenR_sim (backR_sim hs) hf
   have e1 : thenR n s (thenR n (backR n s) f) = f := back_then_then hs hf
   have hsh : Short n s (thenR n (backR n s) f) := by unfold Short; rw [e1]; exact hb
   have e2 : mulN n (0, [s]) (0, thenR n (backR n s) f :: l) = (0, f :: l) := by
    unfold mulN
    show mkN n 0 (turns n 0 [s] ++ thenR n (backR n s) f :: l) = _
    have e3 := nf_move (l := []) hs hr hl.sims.tail
    rw [both_of_short hs hr hsh, e1, List.nil_append, List.nil_append] at e3
    have e4 : nf n (s :: thenR n (backR n s) f :: l) = nf n (f :: l) := by
     rw [← e3]
     show nf n (f :: sameR n :: l) = _
     rw [nf_cons, nf_cons, act_one hs.lo hs.hi (nf_sims hl.sims.tail), nf_cons]
    rw [turns_even _ rfl, List.singleton_append, mkN_congr 0 e4, mkN_id _ hl]
   have h1 : Sims n ((0 : Int), [s]).2 := Sims.cons hs Sims.nil
   have h2 : Sims n ((0 : Int), thenR n (backR n s) f :: l).2 := Sims.cons hr hl.sims.tail
   have e5 : lessN n 0 (f :: l) s = mkN n 0 (thenR n (backR n s) f :: l) := by
    rw [less_mul, ← e2, ← mul_assoc n2 h8 (inv_sims h1) h1 h2, mul_inv_left n2 h8 h1]
    unfold mulN
    show mkN n (0 + 0) (turns n 0 [] ++ _) = _
    rfl
   rw [e5]
   exact (mkN_len n 0 _).2.1

end Go.Proofs.Ytleoohplnkdbdaa
