/- The first number of a list that is no letter: a plain lemma. No program is spoken of. -/
import Derived.Test.YtinflgcpkeomlabExP
namespace Go.Proofs.Ytinflgcpkeomlab

/-- The first number that is no letter. -/
theorem first_bad (n : Nat) (xs : List Int) (h : ¬ Lets n xs) : ∃ p, p < xs.length ∧ ¬ (1 ≤ xs.getD p 0 ∧ xs.getD p 0 < n) ∧ ∀ j, j < p → 1 ≤ xs.getD j 0 ∧ xs.getD j 0 < n := by
  induction xs with
  | nil => exact absurd (fun x hx => by cases hx) h
  | cons x xs ih =>
    by_cases hx : 1 ≤ x ∧ x < n
    · obtain ⟨p, hp, hb, ha⟩ := ih (fun hl => h (fun y hy => by
        rcases List.mem_cons.1 hy with rfl | hy
        · exact hx
        · exact hl y hy))
      refine ⟨p + 1, by simpa using hp, by simpa using hb, fun j hj => ?_⟩
      match j with
      | 0 => simpa using hx
      | j + 1 => simpa using ha j (by omega)
    · exact ⟨0, by simp, by simpa using hx, fun j hj => by omega⟩

end Go.Proofs.Ytinflgcpkeomlab
