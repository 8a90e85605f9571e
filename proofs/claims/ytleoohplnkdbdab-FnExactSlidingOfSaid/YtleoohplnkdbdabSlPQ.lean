/- Merged texts. -/
import Derived.Test.YtleoohplnkdbdabSlPB

/- Plain: decycling. -/
namespace Go.Proofs.Ytleoohplnkdbdab

theorem Nl.take {n : Nat} {l : List (List Int)} (h : Nl n l) (k : Nat) : Nl n (l.take k) :=
 ⟨fun x hx => h.sims x (List.mem_of_mem_take hx), wl_at.2 (fun j hj => by
  rw [List.length_take] at hj
  rw [rowAt_take (by omega), rowAt_take (by omega)]
  exact wl_at.1 h.wl j (by omega)), fun x hx => h.n1 x (List.mem_of_mem_take hx), fun x hx => h.nh x (List.mem_of_mem_take hx)⟩

end Go.Proofs.Ytleoohplnkdbdab

/- Plain: sliding. -/
namespace Go.Proofs.Ytleoohplnkdbdab

/-- What is left behind a simple braid. -/
def lessN (m : Nat) (p : Int) (l : List (List Int)) (s : List Int) : Int × List (List Int) := mkN m (p - 1) (turnK m p (leftR m s) :: l)

/-- The conjugate by a simple braid. -/
def cjsN (m : Nat) (p : Int) (l : List (List Int)) (s : List Int) : Int × List (List Int) := mkN m (lessN m p l s).1 ((lessN m p l s).2 ++ [s])

/-- What sliding goes by. -/
def sldS (m : Nat) (p : Int) (l : List (List Int)) : List Int := meetR m (turnK m p (rowAt l 0)) (comR m (rowAt l (l.length - 1)))

/-- What sliding makes. -/
def sldN (m : Nat) (p : Int) (l : List (List Int)) : Int × List (List Int) := if l.length = 0 then (p, []) else cjsN m p l (sldS m p l)

theorem less_turn {m : Nat} {p : Int} {s : List Int} (hs : Sim m s) : turnK m (p - 1) (comR m s) = turnK m p (leftR m s) := by
 have e1 : turnK m 1 (leftR m s) = comR m s := by
  unfold turnK
  rw [if_neg (by omega), left_turn hs, turn_turn (comR_sim hs)]
 rw [← e1, turnK_add _ _ (leftR_sim hs), show p - 1 + 1 = p by omega]

theorem lessN_sims {m : Nat} {p : Int} {l : List (List Int)} {s : List Int} (hl : Sims m l) (hs : Sim m s) : Sims m (turnK m p (leftR m s) :: l) := Sims.cons (turnK_sim p (leftR_sim hs)) hl

theorem lessN_nl {m : Nat} {p : Int} {l : List (List Int)} {s : List Int} (hl : Sims m l) (hs : Sim m s) : Nl m (lessN m p l s).2 := mkN_nl (lessN_sims hl hs)

theorem lessN_len (m : Nat) (p : Int) (l : List (List Int)) (s : List Int) : (lessN m p l s).2.length ≤ l.length + 1 ∧ p - 1 ≤ (lessN m p l s).1 ∧ (lessN m p l s).1 + (lessN m p l s).2.length ≤ p + l.length := by
 have h := mkN_len m (p - 1) (turnK m p (leftR m s) :: l)
 unfold lessN
 simp only [List.length_cons] at h
 omega

theorem sldS_sim {m : Nat} {p : Int} {l : List (List Int)} (hl : Sims m l) (h0 : l.length ≠ 0) : Sim m (sldS m p l) :=
 have h := hl _ (rowAt_getElem (l := l) (j := 0) (by omega))
 meetR_sim h.lo h.hi _ _

theorem sldN_nl {m : Nat} {p : Int} {l : List (List Int)} (h : Nl m l) {e : Int} {kf : List (List Int)} (hm : sldN m p l = (e, kf)) : Nl m kf := by
 unfold sldN at hm
 split at hm
 ·simp only [Prod.mk.injEq] at hm
  rw [← hm.2]
  exact Nl.nil
 ·rename_i h0
  have h1 := mkN_nl (n := m) (p := (lessN m p l (sldS m p l)).1) (l := (lessN m p l (sldS m p l)).2 ++ [sldS m p l]) (Sims.app (lessN_nl h.sims (sldS_sim h.sims h0)).sims (Sims.cons (sldS_sim h.sims h0) Sims.nil))
  unfold cjsN at hm
  rw [hm] at h1
  exact h1

theorem sldN_len {m : Nat} {p : Int} {l : List (List Int)} {e : Int} {kf : List (List Int)} (hm : sldN m p l = (e, kf)) : kf.length ≤ l.length + 2 ∧ p - 1 ≤ e ∧ e + kf.length ≤ p + l.length + 1 := by
 unfold sldN at hm
 split at hm
 ·rename_i h0
  simp only [Prod.mk.injEq] at hm
  obtain ⟨rfl, rfl⟩ := hm
  simp [h0]
  omega
 ·have h1 := mkN_len m (lessN m p l (sldS m p l)).1 ((lessN m p l (sldS m p l)).2 ++ [sldS m p l])
  have h2 := lessN_len m p l (sldS m p l)
  unfold cjsN at hm
  rw [hm] at h1
  simp only [List.length_append, List.length_cons, List.length_nil] at h1
  omega

end Go.Proofs.Ytleoohplnkdbdab
