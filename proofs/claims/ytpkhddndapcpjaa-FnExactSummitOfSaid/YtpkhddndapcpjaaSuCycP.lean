/- Plain: cycling. -/
import Derived.Test.YtpkhddndapcpjaaSuPB
namespace Go.Proofs.Ytpkhddndapcpjaa

/-- What cycling makes. -/
def cycN (m : Nat) (p : Int) : List (List Int) → Int × List (List Int)
 | [] => (p, [])
 | f :: l => mkN m p (l ++ [turnK m p f])

theorem cycN_nl {m : Nat} {p : Int} {l : List (List Int)} (h : Nl m l) {e : Int} {kf : List (List Int)} (hm : cycN m p l = (e, kf)) : Nl m kf := by
 cases l with
 | nil =>
  simp only [cycN, Prod.mk.injEq] at hm
  rw [← hm.2]
  exact Nl.nil
 | cons f l =>
  have h1 := mkN_nl (n := m) (p := p) (l := l ++ [turnK m p f]) (Sims.app h.sims.tail (Sims.cons (turnK_sim p h.sims.head) Sims.nil))
  rw [show mkN m p (l ++ [turnK m p f]) = (e, kf) from hm] at h1
  exact h1

theorem cycN_len {m : Nat} {p : Int} {l : List (List Int)} {e : Int} {kf : List (List Int)} (hm : cycN m p l = (e, kf)) : kf.length ≤ l.length ∧ p ≤ e ∧ e + kf.length ≤ p + l.length := by
 cases l with
 | nil =>
  simp only [cycN, Prod.mk.injEq] at hm
  obtain ⟨rfl, rfl⟩ := hm
  simp
 | cons f l =>
  have h1 := mkN_len m p (l ++ [turnK m p f])
  rw [show mkN m p (l ++ [turnK m p f]) = (e, kf) from hm] at h1
  simpa using h1

end Go.Proofs.Ytpkhddndapcpjaa

