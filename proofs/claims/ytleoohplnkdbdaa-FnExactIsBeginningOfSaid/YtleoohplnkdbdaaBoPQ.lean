/- Merged texts. -/
import Derived.Test.YtleoohplnkdbdaaBoPB

/- Plain: decycling. -/
namespace Go.Proofs.Ytleoohplnkdbdaa

theorem Nl.take {n : Nat} {l : List (List Int)} (h : Nl n l) (k : Nat) : Nl n (l.take k) :=
 ⟨fun x hx => h.sims x (List.mem_of_mem_take hx), wl_at.2 (fun j hj => by
  rw [List.length_take] at hj
  rw [rowAt_take (by omega), rowAt_take (by omega)]
  exact wl_at.1 h.wl j (by omega)), fun x hx => h.n1 x (List.mem_of_mem_take hx), fun x hx => h.nh x (List.mem_of_mem_take hx)⟩

end Go.Proofs.Ytleoohplnkdbdaa

/- Plain: sliding. -/
namespace Go.Proofs.Ytleoohplnkdbdaa

/-- What is left behind a simple braid. -/
def lessN (m : Nat) (p : Int) (l : List (List Int)) (s : List Int) : Int × List (List Int) := mkN m (p - 1) (turnK m p (leftR m s) :: l)

end Go.Proofs.Ytleoohplnkdbdaa

/- Plain: fractions. -/
namespace Go.Proofs.Ytleoohplnkdbdaa

/-- The longest simple braid that begins a positive braid. -/
def firstN (m : Nat) (p : Int) (l : List (List Int)) : List Int := if 0 < p then halfR m else if 0 < l.length then rowAt l 0 else sameR m

theorem meet_same1 {m : Nat} (m1 : 1 ≤ m) (m8 : m ≤ 8) (x : List Int) : meetR m (sameR m) x = sameR m :=
 pre_one (meetR_sim m1 m8 _ _) (meet_pre1 m1 m8 _ _)

theorem com_same {m : Nat} (m1 : 1 ≤ m) (m8 : m ≤ 8) : comR m (sameR m) = halfR m := by
 unfold comR
 rw [back_same m1 m8, same_then (halfR_sim m m1 m8)]

theorem meet_half1 {m : Nat} (m1 : 1 ≤ m) (m8 : m ≤ 8) {x : List Int} (hx : Sim m x) : meetR m (halfR m) x = x := by
 have h := mt_same m1 m8 hx
 unfold mt at h
 rwa [com_same m1 m8] at h

theorem pre_halfR {m : Nat} (x : List Int) : Pre m x (halfR m) := fun i j hij hj _ => by rw [at8_half m i (by omega), at8_half m j hj]; omega

theorem left_then {m : Nat} {s : List Int} (hs : Sim m s) : thenR m (leftR m s) s = halfR m := by
 unfold leftR
 rw [thenR_then _ _ _ (halfR_sim m hs.lo hs.hi), back_then_self hs, then_same (halfR_sim m hs.lo hs.hi)]

/-- What is left of the half turns behind some factors. -/
def fracA (m k : Nat) (l : List (List Int)) (j : Nat) : List (List Int) := turns m (-(k : Int)) (invL m (l.take j))

end Go.Proofs.Ytleoohplnkdbdaa
