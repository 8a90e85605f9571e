/- Plain: fractions. -/
import Derived.Test.YthpmehhfhngnbaaFrSldP
namespace Go.Proofs.Ythpmehhfhngnbaa

/-- The longest simple braid that begins a positive braid. -/
def firstN (m : Nat) (p : Int) (l : List (List Int)) : List Int := if 0 < p then halfR m else if 0 < l.length then rowAt l 0 else sameR m

theorem meet_same1 {m : Nat} (m1 : 1 ≤ m) (m8 : m ≤ 8) (x : List Int) : meetR m (sameR m) x = sameR m :=
 pre_one (meetR_sim m1 m8 _ _) (meet_pre1 m1 m8 _ _)

theorem meet_same2 {m : Nat} (m1 : 1 ≤ m) (m8 : m ≤ 8) (x : List Int) : meetR m x (sameR m) = sameR m :=
 pre_one (meetR_sim m1 m8 _ _) (meet_pre2 m1 m8 _ _)

theorem com_same {m : Nat} (m1 : 1 ≤ m) (m8 : m ≤ 8) : comR m (sameR m) = halfR m := by
 unfold comR
 rw [back_same m1 m8, same_then (halfR_sim m m1 m8)]

theorem meet_half1 {m : Nat} (m1 : 1 ≤ m) (m8 : m ≤ 8) {x : List Int} (hx : Sim m x) : meetR m (halfR m) x = x := by
 have h := mt_same m1 m8 hx
 unfold mt at h
 rwa [com_same m1 m8] at h

theorem turnK_zero (m : Nat) (s : List Int) : turnK m 0 s = s := by simp [turnK]

theorem pre_halfR {m : Nat} (x : List Int) : Pre m x (halfR m) := fun i j hij hj _ => by rw [at8_half m i (by omega), at8_half m j hj]; omega

theorem left_then {m : Nat} {s : List Int} (hs : Sim m s) : thenR m (leftR m s) s = halfR m := by
 unfold leftR
 rw [thenR_then _ _ _ (halfR_sim m hs.lo hs.hi), back_then_self hs, then_same (halfR_sim m hs.lo hs.hi)]

/-- What begins a positive braid is taken away. -/
theorem less_first {m : Nat} (m2 : 1 < m) (m8 : m ≤ 8) {s : List Int} {l : List (List Int)} (h : Nl m (s :: l)) : lessN m 0 (s :: l) s = (0, l) := by
 have hs := h.sims.head
 have hl := h.tail
 have e : nf m (turnK m 0 (leftR m s) :: s :: l) = halfR m :: l := by
  rw [turnK_zero, nf_cons, nf_cons, hl.nf, ← act_law (leftR_sim hs) hs hl.sims (by unfold Short; rw [left_then hs]; exact pre_halfR _), left_then hs, act_half m2 m8 hl.sims hl.wl hl.n1]
 unfold lessN mkN
 rw [e]
 have e2 : lead (halfR m) (halfR m :: l) = 1 := by
  have h1 := lead_rep (halfR m) 1 l
  have h2 := lead_none (halfR m) l (fun x hx => hl.nh x (List.mem_of_mem_head? hx))
  rw [h2] at h1
  exact h1
 rw [e2]
 rfl

theorem invL_snoc {m : Nat} {s : List Int} (hs : Sim m s) : ∀ {l : List (List Int)}, Sims m l → invL m (l ++ [s]) = turnK m l.length (leftR m s) :: invL m l
 | [], _ => by simp [invL, turns, turnK]
 | f :: l, hl => by
  have ih := invL_snoc hs hl.tail
  rw [List.cons_append, invL, ih, invL]
  unfold turns
  rw [List.map_cons, List.cons_append, turnK_add _ _ (leftR_sim hs), List.length_cons]
  rw [turnK_congr (j := 1 + (l.length : Int)) (k := ((l.length + 1 : Nat) : Int)) _ (by omega)]

/-- What is left of the half turns behind some factors. -/
def fracA (m k : Nat) (l : List (List Int)) (j : Nat) : List (List Int) := turns m (-(k : Int)) (invL m (l.take j))

theorem nl_take {m : Nat} {l : List (List Int)} (h : Nl m l) (j : Nat) : Nl m (l.take j) := by
 refine ⟨fun x hx => h.sims x (List.mem_of_mem_take hx), ?_, fun x hx => h.n1 x (List.mem_of_mem_take hx), fun x hx => h.nh x (List.mem_of_mem_take hx)⟩
 rw [wl_at]
 intro i hi
 rw [List.length_take] at hi
 rw [rowAt_take (by omega), rowAt_take (by omega)]
 exact wl_at.1 h.wl i (by omega)

theorem nl_drop {m : Nat} {l : List (List Int)} (h : Nl m l) (j : Nat) : Nl m (l.drop j) :=
 ⟨fun x hx => h.sims x (List.mem_of_mem_drop hx), wl_drop h.wl j, fun x hx => h.n1 x (List.mem_of_mem_drop hx), fun x hx => h.nh x (List.mem_of_mem_drop hx)⟩

theorem fracA_nl {m k : Nat} {l : List (List Int)} (h : Nl m l) (j : Nat) : Nl m (fracA m k l j) := (invL_nl (nl_take h j)).turns _

theorem fracA_len (m k : Nat) (l : List (List Int)) (j : Nat) : (fracA m k l j).length = min j l.length := by
 unfold fracA
 rw [turns_len, invL_len, List.length_take]

theorem take_row {l : List (List Int)} {j : Nat} (hj : j < l.length) : l.take (j + 1) = l.take j ++ [rowAt l j] := by
 rw [List.take_succ_eq_append_getElem hj, rowAt_lt hj]

theorem drop_row {l : List (List Int)} {j : Nat} (hj : j < l.length) : l.drop j = rowAt l j :: l.drop (j + 1) := by
 rw [List.drop_eq_getElem_cons hj, rowAt_lt hj]

theorem fracA_cons {m k : Nat} {l : List (List Int)} (h : Sims m l) {j : Nat} (hj : j < l.length) : fracA m k l (j + 1) = turnK m ((k : Int) - j) (leftR m (rowAt l j)) :: fracA m k l j := by
 have hs : Sim m (rowAt l j) := h _ (rowAt_getElem hj)
 unfold fracA
 rw [take_row hj, invL_snoc hs (fun x hx => h x (List.mem_of_mem_take hx))]
 unfold turns
 rw [List.map_cons, turnK_add _ _ (leftR_sim hs), List.length_take, turnK_congr _ (k := (k : Int) - j)]
 omega

theorem frac_less {m k : Nat} {l : List (List Int)} (h : Nl m l) {j : Nat} (hj : j < l.length) : lessN m ((k : Int) - j) (fracA m k l j) (rowAt l j) = ((k : Int) - (j + 1 : Nat), fracA m k l (j + 1)) := by
 unfold lessN
 rw [← fracA_cons h.sims hj, mkN_id _ (fracA_nl h (j + 1))]
 congr 1
 omega

theorem frac_less2 {m : Nat} (m2 : 1 < m) (m8 : m ≤ 8) {l : List (List Int)} (h : Nl m l) {j : Nat} (hj : j < l.length) : lessN m 0 (l.drop j) (rowAt l j) = (0, l.drop (j + 1)) := by
 have h1 := nl_drop h j
 rw [drop_row hj] at h1 ⊢
 exact less_first m2 m8 h1

theorem rowAt_drop0 {l : List (List Int)} {j : Nat} (hj : j < l.length) : rowAt (l.drop j) 0 = rowAt l j := by
 rw [drop_row hj, rowAt_lt (by simp)]
 rfl

theorem frac_meet {m k : Nat} (m1 : 1 ≤ m) (m8 : m ≤ 8) {l : List (List Int)} (h : Nl m l) {j : Nat} (hj : j < l.length) (hk : j < k) : meetR m (firstN m ((k : Int) - j) (fracA m k l j)) (firstN m 0 (l.drop j)) = rowAt l j := by
 unfold firstN
 rw [if_pos (show (0 : Int) < (k : Int) - j by omega), if_neg (show ¬ (0 : Int) < 0 by omega), if_pos (show 0 < (l.drop j).length by rw [List.length_drop]; omega), rowAt_drop0 hj, meet_half1 m1 m8 (h.sims _ (rowAt_getElem hj))]

theorem frac_ne {m : Nat} {l : List (List Int)} (h : Nl m l) {j : Nat} (hj : j < l.length) : rowAt l j ≠ sameR m := h.n1 _ (rowAt_getElem hj)

theorem frac_end {m k : Nat} (m1 : 1 ≤ m) (m8 : m ≤ 8) {l : List (List Int)} (h : Nl m l) {j : Nat} (hj : j ≤ l.length) (hk : j ≤ k) (he : j = l.length ∨ j = k) : meetR m (firstN m ((k : Int) - j) (fracA m k l j)) (firstN m 0 (l.drop j)) = sameR m := by
 by_cases hl : j < l.length
 ·have hjk : j = k := by omega
  unfold firstN
  rw [if_neg (show ¬ (0 : Int) < (k : Int) - j by omega), if_neg (show ¬ (0 : Int) < 0 by omega)]
  by_cases h0 : 0 < (fracA m k l j).length
  ·rw [if_pos h0, if_pos (show 0 < (l.drop j).length by rw [List.length_drop]; omega), rowAt_drop0 hl]
   rw [fracA_len] at h0
   obtain ⟨i, rfl⟩ : ∃ i, j = i + 1 := ⟨j - 1, by omega⟩
   have hs : Sim m (rowAt l i) := h.sims _ (rowAt_getElem (by omega))
   have e : turnK m 1 (leftR m (rowAt l i)) = comR m (rowAt l i) := by
    unfold turnK
    rw [if_neg (by omega), left_turn hs, turn_turn (comR_sim hs)]
   rw [fracA_cons h.sims (by omega), rowAt_lt (by simp)]
   rw [List.getElem_cons_zero, turnK_congr (k := 1) _ (by omega), e]
   exact meet_none hs (wl_at.1 h.wl i hl)
  ·rw [if_neg h0]
   exact meet_same1 m1 m8 _
 ·have e : (l.drop j).length = 0 := by rw [List.length_drop]; omega
  unfold firstN
  rw [if_neg (show ¬ (0 : Int) < 0 by omega), if_neg (show ¬ 0 < (l.drop j).length by omega)]
  exact meet_same2 m1 m8 _

theorem frac_out {m : Nat} {l : List (List Int)} (h : Nl m l) {j : Nat} (hj : j < l.length) : mkN m 0 (l.take j ++ [rowAt l j]) = (0, l.take (j + 1)) := by
 rw [← take_row hj, mkN_id _ (nl_take h _)]

end Go.Proofs.Ythpmehhfhngnbaa

