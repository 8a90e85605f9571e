/- The length of a pair: it adds up, and what is left behind a beginning is positive (plain). -/
import Derived.Test.YthpmehhfhngnbaaIbLenP
namespace Go.Proofs.Ythpmehhfhngnbaa

def tl (n : Nat) (x : List Int) : Int := tot x - tot (sameR n)
def tls (n : Nat) : List (List Int) → Int
 | [] => 0
 | x :: l => tl n x + tls n l
/-- The length of a power of the half turn and factors. -/
def totN (n : Nat) (x : Int × List (List Int)) : Int := x.1 * tl n (halfR n) + tls n x.2

theorem tl_same (n : Nat) : tl n (sameR n) = 0 := by unfold tl; omega
theorem tl_ge {n : Nat} {a : List Int} (ha : Sim n a) : 0 ≤ tl n a := by have := (tot_ge ha).1; unfold tl; omega
theorem tl_pos {n : Nat} {a : List Int} (ha : Sim n a) (h : a ≠ sameR n) : 0 < tl n a := by have := (tot_ge ha).2 h; unfold tl; omega

theorem both_tl {n : Nat} {a x : List Int} (ha : Sim n a) (hx : Sim n x) : tl n (both n a x).1 + tl n (both n a x).2 = tl n a + tl n x := by
 have hm := mt_sim ha x
 have hy := thenR_sim (backR_sim hm) hx
 have h1 := tot_then ha hm (both_short ha hx)
 have h2 := tot_then hm hy (both_short2 ha hx)
 rw [back_then_then hm hx] at h2
 rw [both_mt]
 unfold tl
 show tot (thenR n a (mt n a x)) - tot (sameR n) + (tot (thenR n (backR n (mt n a x)) x) - tot (sameR n)) = _
 omega

theorem act_tls {n : Nat} {s : List Int} {l : List (List Int)} (hs : Sim n s) (hl : Sims n l) : tls n (act n s l) = tl n s + tls n l := by
 induction l generalizing s with
 | nil =>
  unfold act
  split
  ·rename_i h
   rw [h, tl_same]
   rfl
  ·rfl
 | cons f l ih =>
  have hb := both_sim hs hl.head
  have h1 := both_tl hs hl.head
  have h2 := ih hb.2 hl.tail
  show tl n (both n s f).1 + tls n (act n (both n s f).2 l) = tl n s + (tl n f + tls n l)
  omega

theorem nf_tls {n : Nat} {l : List (List Int)} (hl : Sims n l) : tls n (nf n l) = tls n l := by
 induction l with
 | nil => rfl
 | cons f l ih =>
  rw [nf_cons, act_tls hl.head (nf_sims hl.tail), ih hl.tail]
  rfl

theorem tls_app (n : Nat) (l m : List (List Int)) : tls n (l ++ m) = tls n l + tls n m := by
 induction l with
 | nil => simp [tls]
 | cons f l ih =>
  show tl n f + tls n (l ++ m) = tl n f + tls n l + tls n m
  omega

theorem tls_rep (n : Nat) (d : Nat) (x : List Int) : tls n (List.replicate d x) = (d : Int) * tl n x := by
 induction d with
 | zero => simp [tls]
 | succ d ih =>
  show tl n x + tls n (List.replicate d x) = _
  rw [ih, show ((d + 1 : Nat) : Int) = (d : Int) + 1 by omega, Int.add_mul, Int.one_mul, Int.add_comm]

theorem tls_ge {n : Nat} {l : List (List Int)} (hl : Sims n l) : 0 ≤ tls n l := by
 induction l with
 | nil => exact Int.le_refl _
 | cons f l ih =>
  have h1 := tl_ge hl.head
  have h2 := ih hl.tail
  show 0 ≤ tl n f + tls n l
  omega

theorem turn_tl {n : Nat} {x : List Int} (hx : Sim n x) : tl n (turnR n x) = tl n x := by
 have h := both_tl hx (halfR_sim n hx.lo hx.hi)
 rw [both_to_half hx] at h
 have h2 : tl n (halfR n) + tl n (turnR n x) = tl n x + tl n (halfR n) := h
 omega

theorem turns_tls {n : Nat} (k : Int) {l : List (List Int)} (hl : Sims n l) : tls n (turns n k l) = tls n l := by
 induction l with
 | nil => rfl
 | cons f l ih =>
  show tl n (turnK n k f) + tls n (turns n k l) = tl n f + tls n l
  rw [ih hl.tail]
  unfold turnK
  split
  ·rfl
  ·rw [turn_tl hl.head]

theorem mkN_tot {n : Nat} (p : Int) {l : List (List Int)} (hl : Sims n l) : totN n (mkN n p l) = totN n (p, l) := by
 have h := nf_tls hl
 rw [lead_split (halfR n) (nf n l), tls_app, tls_rep] at h
 unfold totN mkN
 show (p + (lead (halfR n) (nf n l) : Nat)) * tl n (halfR n) + tls n ((nf n l).drop (lead (halfR n) (nf n l))) = p * tl n (halfR n) + tls n l
 rw [Int.add_mul]
 omega

theorem mul_tot {n : Nat} {x y : Int × List (List Int)} (hx : Sims n x.2) (hy : Sims n y.2) : totN n (mulN n x y) = totN n x + totN n y := by
 unfold mulN
 rw [mkN_tot _ (Sims.app (turnsK_sims hx) hy)]
 unfold totN
 show (x.1 + y.1) * tl n (halfR n) + tls n (turns n y.1 x.2 ++ y.2) = _
 rw [tls_app, turns_tls _ hx, Int.add_mul]
 omega

theorem inv_sims {n : Nat} {x : Int × List (List Int)} (hx : Sims n x.2) : Sims n (invN n x).2 := turnsK_sims (invL_sims hx)

theorem inv_tot {n : Nat} (n2 : 1 < n) (h8 : n ≤ 8) {x : Int × List (List Int)} (hx : Sims n x.2) : totN n (invN n x) = -totN n x := by
 have h := mul_tot (inv_sims hx) hx
 rw [mul_inv_left n2 h8 hx] at h
 have h0 : totN n (0, []) = 0 := by simp [totN, tls]
 omega

theorem one_tot (n : Nat) (s : List Int) : totN n (0, [s]) = tl n s := by simp [totN, tls]

theorem less_tot {n : Nat} (n2 : 1 < n) (h8 : n ≤ 8) {p : Int} {l : List (List Int)} {s : List Int} (hl : Sims n l) (hs : Sim n s) : totN n (lessN n p l s) = totN n (p, l) - tl n s := by
 have h1 : Sims n ((0 : Int), [s]).2 := Sims.cons hs Sims.nil
 rw [less_mul, mul_tot (inv_sims h1) hl, inv_tot n2 h8 h1, one_tot]
 omega

/-- What is left of a positive braid behind a simple braid that begins it is positive. -/
theorem less_pos {n : Nat} (n2 : 1 < n) (h8 : n ≤ 8) {p : Int} {l : List (List Int)} {s : List Int} (hp : 0 ≤ p) (hl : Nl n l) (hs : Sim n s) (hb : Pre n s (firstN n p l)) : 0 ≤ (lessN n p l s).1 := by
 by_cases h0 : 0 < p
 ·have := (mkN_len n (p - 1) (turnK n p (leftR n s) :: l)).2.1
  unfold lessN
  omega
 ·have hp0 : p = 0 := by omega
  subst hp0
  cases l with
  | nil =>
   have e : firstN n 0 [] = sameR n := by simp [firstN]
   rw [e] at hb
   have := pre_one hs hb
   subst this
   have e2 : lessN n 0 [] (sameR n) = (0, []) := by
    rw [less_mul]
    have h1 := mul_inv_left n2 h8 (x := ((0 : Int), [sameR n])) (Sims.cons hs Sims.nil)
    have h2 := mul_left n2 h8 (x := ((0 : Int), [sameR n])) (y := ((0 : Int), [])) (Sims.cons hs Sims.nil) Sims.nil
    have e3 : mkN n 0 [sameR n] = (0, []) := by
     rw [mkN_congr 0 (l' := []) (by rw [nf_cons, nf_nil]; simp [act])]
     exact mkN_id 0 Nl.nil
    have e4 : mulN n (0, []) ((0 : Int), []) = (0, []) := mul_one_left Nl.nil
    have e5 : mulN n (0, [sameR n]) (0, []) = (0, []) := by
     rw [← h2, e3, e4]
    have h3 := mul_assoc n2 h8 (x := invN n (0, [sameR n])) (y := ((0 : Int), [sameR n])) (z := ((0 : Int), [])) (inv_sims (x := ((0 : Int), [sameR n])) (Sims.cons hs Sims.nil)) (Sims.cons hs Sims.nil) Sims.nil
    rw [e5, h1, e4] at h3
    exact h3.symm
   rw [e2]
   exact Int.le_refl _
  | cons f l =>
   have e : firstN n 0 (f :: l) = f := by simp [firstN, rowAt]
   rw [e] at hb
   have hf := hl.sims.head
   have hr := thenR_sim (backR_sim hs) hf
   have e1 : thenR n s (thenR n (backR n s) f) = f := back_then_then hs hf
   have hsh : Short n s (thenR n (backR n s) f) := by unfold Short; rw [e1]; exact hb
   have e2 : mulN n (0, [s]) (0, thenR n (backR n s) f :: l) = (0, f :: l) := by
    unfold mulN
    show mkN n 0 (turns n 0 [s] ++ thenR n (backR n s) f :: l) = _
    have e3 := nf_move (l := []) hs hr hl.sims.tail
    rw [both_of_short hs hr hsh, e1, List.nil_append, List.nil_append] at e3
    have e4 : nf n (s :: thenR n (backR n s) f :: l) = nf n (f :: l) := by
     rw [← e3]
     show nf n (f :: sameR n :: l) = _
     rw [nf_cons, nf_cons, act_one hs.lo hs.hi (nf_sims hl.sims.tail), nf_cons]
    rw [turns_even _ rfl, List.singleton_append, mkN_congr 0 e4, mkN_id _ hl]
   have h1 : Sims n ((0 : Int), [s]).2 := Sims.cons hs Sims.nil
   have h2 : Sims n ((0 : Int), thenR n (backR n s) f :: l).2 := Sims.cons hr hl.sims.tail
   have e5 : lessN n 0 (f :: l) s = mkN n 0 (thenR n (backR n s) f :: l) := by
    rw [less_mul, ← e2, ← mul_assoc n2 h8 (inv_sims h1) h1 h2, mul_inv_left n2 h8 h1]
    unfold mulN
    show mkN n (0 + 0) (turns n 0 [] ++ _) = _
    rfl
   rw [e5]
   exact (mkN_len n 0 _).2.1

end Go.Proofs.Ythpmehhfhngnbaa

