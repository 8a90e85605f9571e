/- Plain: powers of a normal form within the limits. -/
import Derived.Test.YtleoohplnkdbdaaMsPB
namespace Go.Proofs.Ytleoohplnkdbdaa

/-- The k-th power, as long as all on the way are within the limits. -/
def powL (m : Nat) (p : Int) (rs : List (List Int)) : Nat → Option (Int × List (List Int))
 | 0 => some (0, [])
 | k + 1 => match powL m p rs k with
  | none => none
  | some r => if -200 ≤ (mkN m (r.1 + p) (turns m p r.2 ++ rs)).1 ∧ (mkN m (r.1 + p) (turns m p r.2 ++ rs)).1 ≤ 200 ∧ (mkN m (r.1 + p) (turns m p r.2 ++ rs)).2.length ≤ 200 then some (mkN m (r.1 + p) (turns m p r.2 ++ rs)) else none

theorem powL_next {m : Nat} {p : Int} {rs : List (List Int)} {k : Nat} {e f : Int} {l g : List (List Int)} (h : powL m p rs k = some (e, l)) (hm : mkN m (e + p) (turns m p l ++ rs) = (f, g)) : powL m p rs (k + 1) = if -200 ≤ f ∧ f ≤ 200 ∧ g.length ≤ 200 then some (f, g) else none := by
 rw [powL, h]
 simp only [hm]

theorem powL_none {m : Nat} {p : Int} {rs : List (List Int)} {j : Nat} (h : powL m p rs j = none) : ∀ k, j ≤ k → powL m p rs k = none
 | 0, hk => by rw [← show j = 0 by omega]; exact h
 | k + 1, hk => by
  rcases Nat.lt_or_ge k j with h1 | h1
  ·rw [← show j = k + 1 by omega]; exact h
  ·rw [powL, powL_none h k h1]

theorem powL_ok {m : Nat} {p : Int} {rs : List (List Int)} (hl : Nl m rs) : ∀ k {e : Int} {l : List (List Int)}, powL m p rs k = some (e, l) → Nl m l ∧ -200 ≤ e ∧ e ≤ 200 ∧ l.length ≤ 200
 | 0, e, l, h => by
  simp only [powL, Option.some.injEq, Prod.mk.injEq] at h
  obtain ⟨rfl, rfl⟩ := h
  exact ⟨Nl.nil, by omega, by omega, by simp⟩
 | k + 1, e, l, h => by
  cases h0 : powL m p rs k with
  | none => rw [powL, h0] at h; cases h
  | some r =>
   obtain ⟨e0, l0⟩ := r
   obtain ⟨f, g, hm⟩ : ∃ f g, mkN m (e0 + p) (turns m p l0 ++ rs) = (f, g) := ⟨_, _, rfl⟩
   rw [powL_next h0 hm] at h
   split at h
   ·rename_i hc
    simp only [Option.some.injEq, Prod.mk.injEq] at h
    obtain ⟨rfl, rfl⟩ := h
    have := mkN_nl (n := m) (p := e0 + p) (l := turns m p l0 ++ rs) (Sims.app ((powL_ok hl k h0).1.turns p).sims hl.sims)
    rw [hm] at this
    exact ⟨this, hc⟩
   ·cases h

end Go.Proofs.Ytleoohplnkdbdaa

