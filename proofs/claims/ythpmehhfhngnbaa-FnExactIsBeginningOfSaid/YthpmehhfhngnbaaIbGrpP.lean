/- Normal forms multiply: products of weighed pairs, and their inverses (plain). -/
import Derived.Test.YthpmehhfhngnbaaIbFraP
namespace Go.Proofs.Ythpmehhfhngnbaa

/-- The product of two pairs: a power and factors. -/
def mulN (n : Nat) (x y : Int × List (List Int)) : Int × List (List Int) := mkN n (x.1 + y.1) (turns n y.1 x.2 ++ y.2)
/-- The inverse of a pair. -/
def invN (n : Nat) (x : Int × List (List Int)) : Int × List (List Int) := (-(x.2.length : Int) - x.1, turns n x.1 (invL n x.2))

theorem both_to_half {n : Nat} {x : List Int} (hx : Sim n x) : both n x (halfR n) = (halfR n, turnR n x) := by
 have hh := halfR_sim n hx.lo hx.hi
 have hc := comR_sim hx
 have e : mt n x (halfR n) = comR n x := mt_eq hx hh hc (Pre.refl _ _) (pre_halfR _) fun q _ h _ => h
 rw [both_mt, e]
 congr 1
 ·unfold comR
  exact back_then_then hx hh
 ·rw [← com_com hx]
  rfl

theorem act_to_half {n : Nat} {x : List Int} (hx : Sim n x) {l : List (List Int)} : act n x (halfR n :: l) = halfR n :: act n (turnR n x) l := by
 simp only [act]
 rw [both_to_half hx]

theorem nf_half {n : Nat} (n2 : 1 < n) (h8 : n ≤ 8) {l : List (List Int)} (hl : Sims n l) : nf n (halfR n :: l) = halfR n :: nf n l := nf_reps n2 h8 1 hl

theorem nf_push {n : Nat} (n2 : 1 < n) (h8 : n ≤ 8) {x : List Int} {l : List (List Int)} (hx : Sim n x) (hl : Sims n l) : nf n (x :: halfR n :: l) = nf n (halfR n :: turnR n x :: l) := by
 rw [nf_cons, nf_half n2 h8 hl, act_to_half hx, nf_half n2 h8 (Sims.cons (turnR_sim hx) hl), nf_cons]

theorem nf_pushL {n : Nat} (n2 : 1 < n) (h8 : n ≤ 8) {m : List (List Int)} (hm : Sims n m) : ∀ {l : List (List Int)}, Sims n l → nf n (l ++ halfR n :: m) = nf n (halfR n :: (turns n 1 l ++ m))
 | [], _ => rfl
 | x :: l, hl => by
  have hh := halfR_sim n (by omega) h8
  have ht : Sims n (turns n 1 l ++ m) := Sims.app (turnsK_sims hl.tail) hm
  rw [List.cons_append, nf_cons, nf_pushL n2 h8 hm hl.tail, ← nf_cons, nf_push n2 h8 hl.head ht]
  rfl

theorem nf_pushK {n : Nat} (n2 : 1 < n) (h8 : n ≤ 8) {m : List (List Int)} (hm : Sims n m) : ∀ (d : Nat) {l : List (List Int)}, Sims n l → nf n (l ++ (List.replicate d (halfR n) ++ m)) = nf n (List.replicate d (halfR n) ++ (turns n d l ++ m))
 | 0, l, hl => by
  rw [show turns n ((0 : Nat) : Int) l = l from turns_even l rfl]
  rfl
 | d + 1, l, hl => by
  have hh := halfR_sim n (by omega) h8
  have hd : Sims n (List.replicate d (halfR n) ++ m) := Sims.app (fun x hx => by rw [List.eq_of_mem_replicate hx]; exact hh) hm
  have ht : Sims n (turns n 1 l) := turnsK_sims hl
  have hr : Sims n (List.replicate d (halfR n) ++ (turns n d (turns n 1 l) ++ m)) := Sims.app (fun x hx => by rw [List.eq_of_mem_replicate hx]; exact hh) (Sims.app (turnsK_sims ht) hm)
  rw [List.replicate_succ, List.cons_append, nf_pushL n2 h8 hd hl, nf_half n2 h8 (Sims.app ht hd), nf_pushK n2 h8 hm d ht, ← nf_half n2 h8 hr, turns_add _ _ hl]
  rfl

theorem mkN_congr {n : Nat} (p : Int) {l l' : List (List Int)} (h : nf n l = nf n l') : mkN n p l = mkN n p l' := by
 unfold mkN
 rw [h]

theorem mkN_shift (n : Nat) (p q : Int) (l : List (List Int)) : mkN n (p + q) l = ((mkN n p l).1 + q, (mkN n p l).2) := by
 unfold mkN
 congr 1
 omega

theorem mul_right {n : Nat} (n2 : 1 < n) (h8 : n ≤ 8) {x y : Int × List (List Int)} (hx : Sims n x.2) (hy : Sims n y.2) : mulN n x (mkN n y.1 y.2) = mulN n x y := by
 have hs := nf_sims hy
 have hd : Sims n ((nf n y.2).drop (lead (halfR n) (nf n y.2))) := fun z hz => hs z (List.mem_of_mem_drop hz)
 have ht : Sims n (turns n y.1 x.2) := turnsK_sims hx
 unfold mulN
 rw [mkN_congr (x.1 + y.1) (show nf n (turns n y.1 x.2 ++ y.2) = nf n (List.replicate (lead (halfR n) (nf n y.2)) (halfR n) ++ (turns n (lead (halfR n) (nf n y.2) : Nat) (turns n y.1 x.2) ++ (nf n y.2).drop (lead (halfR n) (nf n y.2)))) by
  rw [← nf_pushK n2 h8 hd _ ht, ← lead_split, nf_right hy])]
 rw [mkN_reps n2 h8 _ _ (Sims.app (turnsK_sims ht) hd), turns_add _ _ hx]
 show mkN n (x.1 + (y.1 + (lead (halfR n) (nf n y.2) : Nat))) (turns n (y.1 + (lead (halfR n) (nf n y.2) : Nat)) x.2 ++ (nf n y.2).drop (lead (halfR n) (nf n y.2))) = _
 rw [Int.add_assoc, Int.add_comm y.1]

theorem mul_left {n : Nat} (n2 : 1 < n) (h8 : n ≤ 8) {x y : Int × List (List Int)} (hx : Sims n x.2) (hy : Sims n y.2) : mulN n (mkN n x.1 x.2) y = mulN n x y := by
 unfold mulN
 have e := mkN_turns (by omega) h8 (x.1 + y.1) y.1 hx
 have e2 := mkN_app n2 h8 (x.1 + y.1) (turnsK_sims (k := y.1) hx) hy
 rw [e] at e2
 rw [← e2, mkN_shift n x.1 y.1 x.2]

theorem mul_sims {n : Nat} {x y : Int × List (List Int)} (hx : Sims n x.2) (hy : Sims n y.2) : Nl n (mulN n x y).2 := mkN_nl (Sims.app (turnsK_sims hx) hy)

theorem mul_assoc {n : Nat} (n2 : 1 < n) (h8 : n ≤ 8) {x y z : Int × List (List Int)} (hx : Sims n x.2) (hy : Sims n y.2) (hz : Sims n z.2) : mulN n (mulN n x y) z = mulN n x (mulN n y z) := by
 have h1 : mulN n (mulN n x y) z = mulN n (x.1 + y.1, turns n y.1 x.2 ++ y.2) z := mul_left n2 h8 (x := (x.1 + y.1, turns n y.1 x.2 ++ y.2)) (Sims.app (turnsK_sims hx) hy) hz
 have h2 : mulN n x (mulN n y z) = mulN n x (y.1 + z.1, turns n z.1 y.2 ++ z.2) := mul_right n2 h8 (y := (y.1 + z.1, turns n z.1 y.2 ++ z.2)) hx (Sims.app (turnsK_sims hy) hz)
 rw [h1, h2]
 unfold mulN
 show mkN n (x.1 + y.1 + z.1) (turns n z.1 (turns n y.1 x.2 ++ y.2) ++ z.2) = mkN n (x.1 + (y.1 + z.1)) (turns n (y.1 + z.1) x.2 ++ (turns n z.1 y.2 ++ z.2))
 rw [show turns n z.1 (turns n y.1 x.2 ++ y.2) = turns n z.1 (turns n y.1 x.2) ++ turns n z.1 y.2 by simp [turns], turns_add _ _ hx, Int.add_assoc, Int.add_comm z.1, List.append_assoc]

theorem mul_one_left {n : Nat} {y : Int × List (List Int)} (hy : Nl n y.2) : mulN n (0, []) y = y := by
 unfold mulN
 show mkN n (0 + y.1) (turns n y.1 [] ++ y.2) = y
 rw [show turns n y.1 [] = [] from rfl, List.nil_append, mkN_id _ hy, Int.zero_add]

theorem mul_one_right {n : Nat} {x : Int × List (List Int)} (hx : Nl n x.2) : mulN n x (0, []) = x := by
 unfold mulN
 show mkN n (x.1 + 0) (turns n 0 x.2 ++ []) = x
 rw [turns_even _ rfl, List.append_nil, mkN_id _ hx, Int.add_zero]

theorem both_whole {n : Nat} {a b : List Int} (ha : Sim n a) (hb : Sim n b) (h : thenR n a b = halfR n) : both n a b = (halfR n, sameR n) := by
 have e := both_of_short ha hb (show Pre n a (thenR n a b) by rw [h]; exact pre_halfR _)
 rw [e, h]

theorem nf_whole {n : Nat} {a b : List Int} (ha : Sim n a) (hb : Sim n b) (h : thenR n a b = halfR n) (l : List (List Int)) {m : List (List Int)} (hm : Sims n m) : nf n (l ++ a :: b :: m) = nf n (l ++ halfR n :: m) := by
 have e := both_whole ha hb h
 rw [← nf_move ha hb hm, e]
 show nf n (l ++ halfR n :: sameR n :: m) = _
 rw [nf_app, nf_app, nf_cons, nf_cons, act_one ha.lo ha.hi (nf_sims hm), nf_cons]

theorem invL_sims {n : Nat} : ∀ {l : List (List Int)}, Sims n l → Sims n (invL n l)
 | [], _ => Sims.nil
 | _ :: _, h => Sims.app (turnsK_sims (invL_sims h.tail)) (Sims.cons (leftR_sim h.head) Sims.nil)

theorem inv_left {n : Nat} (n2 : 1 < n) (h8 : n ≤ 8) : ∀ {l : List (List Int)}, Sims n l → nf n (invL n l ++ l) = List.replicate l.length (halfR n)
 | [], _ => rfl
 | f :: l, h => by
  have hi := invL_sims h.tail
  rw [show invL n (f :: l) ++ f :: l = turns n 1 (invL n l) ++ (leftR n f) :: f :: l by simp [invL],
   nf_whole (leftR_sim h.head) h.head (left_then h.head) _ h.tail, nf_pushL n2 h8 h.tail (turnsK_sims hi), nf_half n2 h8 (Sims.app (turnsK_sims (turnsK_sims hi)) h.tail),
   turns_add _ _ hi, turns_even _ rfl, inv_left n2 h8 h.tail]
  rfl

theorem nf_all {n : Nat} (n2 : 1 < n) (h8 : n ≤ 8) (d : Nat) : nf n (List.replicate d (halfR n)) = List.replicate d (halfR n) := by
 have := nf_reps n2 h8 d (l := []) Sims.nil
 simpa [nf_nil] using this

theorem mkN_all {n : Nat} (n2 : 1 < n) (h8 : n ≤ 8) (p : Int) {l : List (List Int)} {d : Nat} (h : nf n l = List.replicate d (halfR n)) : mkN n p l = (p + d, []) := by
 rw [mkN_congr p (l' := List.replicate d (halfR n)) (by rw [h, nf_all n2 h8])]
 have := mkN_reps n2 h8 p d (l := []) Sims.nil
 rw [List.append_nil] at this
 rw [this, mkN_id _ Nl.nil]

theorem mul_inv_left {n : Nat} (n2 : 1 < n) (h8 : n ≤ 8) {x : Int × List (List Int)} (hx : Sims n x.2) : mulN n (invN n x) x = (0, []) := by
 have hi := invL_sims hx
 unfold mulN invN
 show mkN n (-(x.2.length : Int) - x.1 + x.1) (turns n x.1 (turns n x.1 (invL n x.2)) ++ x.2) = _
 rw [turns_add _ _ hi, turns_even _ (by omega), mkN_all n2 h8 _ (inv_left n2 h8 hx)]
 congr 1
 omega

theorem inv_right {n : Nat} (n2 : 1 < n) (h8 : n ≤ 8) : ∀ {l : List (List Int)}, Sims n l → nf n (turns n l.length l ++ invL n l) = List.replicate l.length (halfR n)
 | [], _ => rfl
 | f :: l, h => by
  have hi := invL_sims h.tail
  have hh := halfR_sim n (by omega) h8
  have hq := turnsK_sims (k := (l.length : Int)) h.tail
  have hf := turnK_sim ((l.length : Int) + 1) h.head
  have hz : Sims n (turns n 1 (turns n l.length l ++ invL n l)) := turnsK_sims (Sims.app hq hi)
  have hl : Sims n [leftR n f] := Sims.cons (leftR_sim h.head) Sims.nil
  have e1 : turns n ((f :: l).length : Int) (f :: l) ++ invL n (f :: l) = turnK n ((l.length : Int) + 1) f :: (turns n 1 (turns n l.length l ++ invL n l) ++ [leftR n f]) := by
   rw [show turns n ((f :: l).length : Int) (f :: l) = turnK n ((l.length : Int) + 1) f :: turns n ((l.length : Int) + 1) l by simp [turns]]
   rw [show turns n 1 (turns n l.length l ++ invL n l) = turns n 1 (turns n l.length l) ++ turns n 1 (invL n l) by simp [turns], turns_add _ _ h.tail, Int.add_comm 1]
   simp [invL]
  have e2 : nf n (turns n 1 (turns n l.length l ++ invL n l)) = List.replicate l.length (halfR n) := by
   rw [turns_nf _ (Sims.app hq hi), inv_right n2 h8 h.tail, turns_reps (by omega) h8]
  rw [e1, nf_cons, ← nf_left hz hl, e2, ← nf_cons]
  have e3 := nf_pushK n2 h8 hl l.length (l := [turnK n ((l.length : Int) + 1) f]) (Sims.cons hf Sims.nil)
  rw [List.singleton_append] at e3
  rw [e3, nf_reps n2 h8 _ (Sims.app (turnsK_sims (Sims.cons hf Sims.nil)) hl)]
  have e4 : turns n (l.length : Int) [turnK n ((l.length : Int) + 1) f] = [turnR n f] := by
   show [turnK n (l.length : Int) (turnK n ((l.length : Int) + 1) f)] = _
   rw [turnK_add _ _ h.head, turnK_congr (k := 1) _ (by omega)]
   rfl
  have e5 : thenR n (turnR n f) (leftR n f) = halfR n := by
   rw [left_turn h.head, ← turn_then h.head (comR_sim h.head), show thenR n f (comR n f) = halfR n from back_then_then h.head hh, turn_half n (by omega) h8]
  rw [e4, List.singleton_append]
  have e6 := nf_whole (turnR_sim h.head) (leftR_sim h.head) e5 [] Sims.nil
  rw [List.nil_append, List.nil_append] at e6
  rw [e6, show nf n [halfR n] = [halfR n] from nf_all n2 h8 1, List.length_cons, List.replicate_succ']

theorem mul_inv_right {n : Nat} (n2 : 1 < n) (h8 : n ≤ 8) {x : Int × List (List Int)} (hx : Sims n x.2) : mulN n x (invN n x) = (0, []) := by
 have hi := invL_sims hx
 have hq := turnsK_sims (k := (x.2.length : Int)) hx
 unfold mulN invN
 show mkN n (x.1 + (-(x.2.length : Int) - x.1)) (turns n (-(x.2.length : Int) - x.1) x.2 ++ turns n x.1 (invL n x.2)) = _
 have e : nf n (turns n (-(x.2.length : Int) - x.1) x.2 ++ turns n x.1 (invL n x.2)) = List.replicate x.2.length (halfR n) := by
  rw [show turns n (-(x.2.length : Int) - x.1) x.2 = turns n x.1 (turns n x.2.length x.2) by
   rw [turns_add _ _ hx]
   unfold turns
   exact List.map_congr_left fun s _ => turnK_congr s (by omega)]
  rw [show turns n x.1 (turns n x.2.length x.2) ++ turns n x.1 (invL n x.2) = turns n x.1 (turns n x.2.length x.2 ++ invL n x.2) by simp [turns], turns_nf _ (Sims.app hq hi), inv_right n2 h8 hx, turns_reps (by omega) h8]
 rw [mkN_all n2 h8 _ e]
 congr 1
 omega

theorem less_mul (n : Nat) (p : Int) (l : List (List Int)) (s : List Int) : lessN n p l s = mulN n (invN n (0, [s])) (p, l) := by
 unfold lessN mulN invN
 show mkN n (p - 1) (turnK n p (leftR n s) :: l) = mkN n (-(1 : Int) - 0 + p) (turns n p (turns n 0 (turns n 1 [] ++ [leftR n s])) ++ l)
 rw [turns_even (k := 0) _ rfl, show -(1 : Int) - 0 + p = p - 1 by omega]
 rfl

end Go.Proofs.Ythpmehhfhngnbaa

