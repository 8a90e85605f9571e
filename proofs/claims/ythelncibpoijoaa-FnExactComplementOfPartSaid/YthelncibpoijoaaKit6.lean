/- Predicates on memory, continued: what is written outside of an interval stays. No function of the program is spoken of. -/
import Derived.Test.YthelncibpoijoaaKit5
namespace Go.Proofs.Ythelncibpoijoaa
open Go.RowKit

theorem wrote_refl (lo hi : Nat) (w : World) : Wrote lo hi w w := ⟨rfl, rfl, rfl, Nat.le_refl _, fun _ _ _ => rfl⟩

theorem wrote_step {lo hi : Nat} {w wr w' : World} (h : Wrote lo hi w wr) (k : Below w.heap.size wr w') : Wrote lo hi w w' :=
  ⟨k.os.trans h.os, k.tape.trans h.tape, k.output.trans h.output, Nat.le_trans h.size k.size, fun j hj hd => (k.block j hj).trans (h.block j hj hd)⟩

theorem wrote_setCell {lo hi : Nat} {w wr : World} (h : Wrote lo hi w wr) {p : Addr} (h1 : lo ≤ p.block) (h2 : p.block < hi) (u : Value) : Wrote lo hi w (wr.setCell p u) :=
  ⟨h.os, h.tape, h.output, by simpa [World.setCell] using h.size, fun j hj hd => (Below.heap_setCell _ _ _ _ (by omega)).trans (h.block j hj hd)⟩

theorem OwnIn.readsIn {lo hi : Nat} {w : World} {a : Option Addr} {n cap : Nat} {xs : List Int} (h : OwnIn lo hi w a n cap xs) : ReadsIn lo hi w a n xs := by
  refine ⟨h.reads, ?_⟩
  rcases Nat.eq_zero_or_pos n with h0 | h0
  · exact .inl h0
  · obtain ⟨g, ha, h1, _⟩ := h.1.block h0
    exact .inr ⟨g, 0, ha, h1, h.2 _ ha⟩

/-- Two local structs of two cells stay while nothing old turns. -/
theorem hold2 {wn w' : World} {g0 g1 : Nat} {u0 v0 u1 v1 : Value} (a0 : At2 wn g0 u0 v0) (a1 : At2 wn g1 u1 v1) (h : Below wn.heap.size wn w') :
    w'.cell? ⟨g0, 0, none⟩ = some u0 ∧ w'.cell? ⟨g0, 1, none⟩ = some v0 ∧ w'.cell? ⟨g1, 0, none⟩ = some u1 ∧ w'.cell? ⟨g1, 1, none⟩ = some v1 ∧ Below wn.heap.size wn w' :=
  ⟨(a0.below h).2.1, (a0.below h).2.2.1, (a1.below h).2.1, (a1.below h).2.2.1, h⟩

/-- What a statement F(copy, copy) leaves: a local struct with the answer. -/
def Left2 (wn : World) (fs : Int) (fxs : List Int) (p : Value) (wx : World) : Prop :=
  ∃ g b m d, p = .pointer (some ⟨g, 0, none⟩) ∧ m ≤ 1048576 ∧ wn.heap.size ≤ g ∧ At2 wx g (.int .i64 fs) (.slice b m d) ∧ OwnIn wn.heap.size wx.heap.size wx b m d fxs ∧ Below wn.heap.size wn wx

end Go.Proofs.Ythelncibpoijoaa
