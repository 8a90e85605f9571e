/- Plain: powers of a normal form, one factor after the other. -/
import Derived.Test.YtpkhddndapcpjaaIpPB
namespace Go.Proofs.Ytpkhddndapcpjaa

/-- The k-th power. -/
def pw (m : Nat) (p : Int) (rs : List (List Int)) : Nat → Int × List (List Int)
 | 0 => (0, [])
 | k + 1 => mkN m ((pw m p rs k).1 + p) (turns m p (pw m p rs k).2 ++ rs)

theorem pw_succ (m : Nat) (p : Int) (rs : List (List Int)) (k : Nat) : pw m p rs (k + 1) = mkN m ((pw m p rs k).1 + p) (turns m p (pw m p rs k).2 ++ rs) := rfl

theorem pw_nl {m : Nat} (p : Int) {rs : List (List Int)} (h : Nl m rs) : ∀ k, Nl m (pw m p rs k).2
 | 0 => Nl.nil
 | k + 1 => mkN_nl (Sims.app ((pw_nl p h k).turns p).sims h.sims)

theorem pw_bd {m : Nat} {p : Int} {rs : List (List Int)} (hp : -200 ≤ p ∧ p ≤ 200) (hl : rs.length ≤ 200) : ∀ k : Nat, (pw m p rs k).2.length ≤ 200 * k ∧ -200 * (k : Int) ≤ (pw m p rs k).1 ∧ (pw m p rs k).1 + ((pw m p rs k).2.length : Int) ≤ 400 * (k : Int)
 | 0 => by simp [pw]
 | k + 1 => by
  have h := pw_bd (m := m) hp hl k
  have h2 := mkN_len m ((pw m p rs k).1 + p) (turns m p (pw m p rs k).2 ++ rs)
  rw [← pw_succ] at h2
  simp only [List.length_append, turns_len] at h2
  omega

theorem pw_one {p : Int} {rs : List (List Int)} (h : Nl 1 rs) (k : Nat) : (pw 1 p rs k).2 = [] := by
 have h1 := pw_nl p h k
 cases h2 : (pw 1 p rs k).2 with
 | nil => rfl
 | cons x l =>
  exfalso
  rw [h2] at h1
  exact h1.n1 x (by simp) (pre_one (h1.sims x (by simp)) fun i j hij hj _ => by omega)

end Go.Proofs.Ytpkhddndapcpjaa

