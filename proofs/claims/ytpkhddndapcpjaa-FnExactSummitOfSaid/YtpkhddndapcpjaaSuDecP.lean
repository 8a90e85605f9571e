/- Plain: decycling. -/
import Derived.Test.YtpkhddndapcpjaaSuCycP
namespace Go.Proofs.Ytpkhddndapcpjaa

/-- What decycling makes. -/
def decN (m : Nat) (p : Int) (l : List (List Int)) : Int × List (List Int) := if l.length = 0 then (p, []) else mkN m p (turnK m p (rowAt l (l.length - 1)) :: l.take (l.length - 1))

theorem decN_nl {m : Nat} {p : Int} {l : List (List Int)} (h : Nl m l) {e : Int} {kf : List (List Int)} (hm : decN m p l = (e, kf)) : Nl m kf := by
 unfold decN at hm
 split at hm
 ·simp only [Prod.mk.injEq] at hm
  rw [← hm.2]
  exact Nl.nil
 ·rename_i h0
  have h1 := mkN_nl (n := m) (p := p) (l := turnK m p (rowAt l (l.length - 1)) :: l.take (l.length - 1)) (Sims.cons (turnK_sim p (h.sims _ (rowAt_getElem (by omega)))) (fun x hx => h.sims x (List.mem_of_mem_take hx)))
  rw [hm] at h1
  exact h1

theorem decN_len {m : Nat} {p : Int} {l : List (List Int)} {e : Int} {kf : List (List Int)} (hm : decN m p l = (e, kf)) : kf.length ≤ l.length ∧ p ≤ e ∧ e + kf.length ≤ p + l.length := by
 unfold decN at hm
 split at hm
 ·simp only [Prod.mk.injEq] at hm
  rename_i h0
  obtain ⟨rfl, rfl⟩ := hm
  simp [h0]
 ·have h1 := mkN_len m p (turnK m p (rowAt l (l.length - 1)) :: l.take (l.length - 1))
  rw [hm] at h1
  simp only [List.length_cons, List.length_take] at h1
  omega

theorem Nl.take {n : Nat} {l : List (List Int)} (h : Nl n l) (k : Nat) : Nl n (l.take k) :=
 ⟨fun x hx => h.sims x (List.mem_of_mem_take hx), wl_at.2 (fun j hj => by
  rw [List.length_take] at hj
  rw [rowAt_take (by omega), rowAt_take (by omega)]
  exact wl_at.1 h.wl j (by omega)), fun x hx => h.n1 x (List.mem_of_mem_take hx), fun x hx => h.nh x (List.mem_of_mem_take hx)⟩

end Go.Proofs.Ytpkhddndapcpjaa

