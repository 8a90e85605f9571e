/- Inverses modulo the primes up to 97: plain. -/
import Derived.Test.YtelmdfkcclhhjaaRnkQ
namespace Go.Proofs.Ytelmdfkcclhhjaa

def prmN (p : Nat) : Bool := decide (3 ≤ p) && (List.range p).all fun k => decide (k < 2) || decide (p % k ≠ 0)

def invAll : Bool := (List.range 98).all fun p => !prmN p || (List.range p).all fun a => decide (a = 0) || (List.range p).any fun i => decide (i * a % p = 1)

set_option maxRecDepth 100000 in
theorem invAll_true : invAll = true := by decide +kernel

theorem inv_ex {p a : Nat} (hp : prmN p = true) (h97 : p ≤ 97) (h0 : 0 < a) (ha : a < p) : ∃ i, 1 ≤ i ∧ i < p ∧ i * a % p = 1 := by
  have h := List.all_eq_true.1 invAll_true p (List.mem_range.2 (by omega))
  rw [hp] at h
  simp only [Bool.not_true, Bool.false_or] at h
  have h2 := List.all_eq_true.1 h a (List.mem_range.2 ha)
  rw [show decide (a = 0) = false from decide_eq_false (by omega), Bool.false_or] at h2
  obtain ⟨i, hi, he⟩ := List.any_eq_true.1 h2
  have he := of_decide_eq_true he
  refine ⟨i, ?_, List.mem_range.1 hi, he⟩
  rcases Nat.eq_zero_or_pos i with h3 | h3
  · rw [h3, Nat.zero_mul, Nat.zero_mod] at he
    omega
  · exact h3

end Go.Proofs.Ytelmdfkcclhhjaa
