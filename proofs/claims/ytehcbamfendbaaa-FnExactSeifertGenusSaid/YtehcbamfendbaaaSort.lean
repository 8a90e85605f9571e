/- The library's sort of at most eight bytes, by its text: exchanges of neighbours. -/
import Derived.Test.YtehcbamfendbaaaQA
import Derived.Test.YtehcbamfendbaaaProg
import Derived.Deep.RegionHeld3
import Derived.IntWalk
namespace Go.Proofs.Ytehcbamfendbaaa
open Go.RowKit Go.ChangeShapes

/-- What sorting keeps. -/
def SortRel (n : Nat) (l m : List Int) : Prop := m.length = 8 ∧ (Sim n m ↔ Sim n l)

theorem wrote_reflS (lo hi : Nat) (w : World) : Wrote lo hi w w := ⟨rfl, rfl, rfl, Nat.le_refl _, fun _ _ _ => rfl⟩
theorem Wrote.trans {lo hi : Nat} {w w1 w2 : World} (h : Wrote lo hi w w1) (k : Wrote lo hi w1 w2) : Wrote lo hi w w2 :=
  ⟨k.os.trans h.os, k.tape.trans h.tape, k.output.trans h.output, Nat.le_trans h.size k.size, fun j hj hd => (k.block j (Nat.lt_of_lt_of_le hj h.size) hd).trans (h.block j hj hd)⟩
theorem Wrote.set {lo hi : Nat} {w w1 : World} (h : Wrote lo hi w w1) {p : Addr} (h1 : lo ≤ p.block) (h2 : p.block < hi) (x : Value) : Wrote lo hi w (w1.setCell p x) :=
  h.trans ⟨rfl, rfl, rfl, by simp [World.setCell], fun k _ hd => Below.heap_setCell _ _ _ _ (by omega)⟩
theorem Wrote.drawn {lo hi : Nat} {w w1 w2 : World} (h : Wrote lo hi w w1) (k : Below w1.heap.size w1 w2) : Wrote lo hi w w2 := h.trans (below_wrote k)

set_option maxRecDepth 100000 in
/-- How many bits a small number has: some number. -/
theorem bitsLen_any (n : Nat) (h8 : n ≤ 8) (w : World) : Calls Try.prog 101 #[.int .u64 n] w fun e w' => (∃ k : Int, e = .returned (.int .i64 k)) ∧ w = w' := by
  have : n = 0 ∨ n = 1 ∨ n = 2 ∨ n = 3 ∨ n = 4 ∨ n = 5 ∨ n = 6 ∨ n = 7 ∨ n = 8 := by omega
  rcases this with rfl | rfl | rfl | rfl | rfl | rfl | rfl | rfl | rfl
  all_goals
    go_enter Try.func101, Try.ntmps101
    go_wp2_with fail
    go_in
    go_wp2
    go_ret
    exact ⟨⟨_, rfl⟩, rfl⟩

end Go.Proofs.Ytehcbamfendbaaa
