/- Rows of partitions: the whole one, complements, turns. No program is spoken of. -/
import Derived.Test.YthelncibpoijoaaSortP
namespace Go.Proofs.Ythelncibpoijoaa

/-- The whole partition. -/
def wholeR (n : Nat) : List Int := mapR n fun x => ((x : Int) + 1) % (n : Int)

theorem wholeR_sim (n : Nat) (h1 : 1 ≤ n) (h8 : n ≤ 8) : Sim n (wholeR n) := Sim.mk' h1 h8 (fun j hj => ⟨Int.emod_nonneg _ (by omega), Int.emod_lt_of_pos _ (by omega)⟩) (fun i j hi hj e => by
  have e2 : (i + 1) % n = (j + 1) % n := by have h5 : (((i + 1) % n : Nat) : Int) = (((j + 1) % n : Nat) : Int) := by push_cast; exact e
                                            omega
  by_cases h3 : i + 1 = n
  · by_cases h4 : j + 1 = n
    · omega
    · rw [h3, Nat.mod_self, Nat.mod_eq_of_lt (by omega)] at e2; omega
  · by_cases h4 : j + 1 = n
    · rw [h4, Nat.mod_self, Nat.mod_eq_of_lt (by omega)] at e2; omega
    · rw [Nat.mod_eq_of_lt (by omega), Nat.mod_eq_of_lt (by omega)] at e2; omega)

/-- The complement; the row of which it is the complement; the turn. -/
def compP (n : Nat) (p : List Int) : List Int := thenR n (backR n p) (wholeR n)
def leftP (n : Nat) (p : List Int) : List Int := thenR n (wholeR n) (backR n p)
def turnP (n : Nat) (p : List Int) : List Int := thenR n (thenR n (backR n (wholeR n)) p) (wholeR n)

theorem compP_sim {n : Nat} {p : List Int} (h : Sim n p) : Sim n (compP n p) := thenR_sim (backR_sim h) (wholeR_sim n h.lo h.hi)
theorem leftP_sim {n : Nat} {p : List Int} (h : Sim n p) : Sim n (leftP n p) := thenR_sim (wholeR_sim n h.lo h.hi) (backR_sim h)
theorem turnP_sim {n : Nat} {p : List Int} (h : Sim n p) : Sim n (turnP n p) := thenR_sim (thenR_sim (backR_sim (wholeR_sim n h.lo h.hi)) h) (wholeR_sim n h.lo h.hi)

end Go.Proofs.Ythelncibpoijoaa
