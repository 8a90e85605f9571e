/- How a list of numbers among the laws' arguments is opened. -/
import Derived.Test.YtmlejlediflaaaaOpen
namespace Go.Proofs.Ytmlejlediflaaaa
open Go.ChangeShapes Go.WideShapes Go.ChangeAt Go.RowKit Go.Joins

set_option maxRecDepth 100000 in
theorem open_list {H : Type} {enc : TypeId × Value → H} {W : World} {base : Nat} {v : Value} {d : DataW H} {p : List MemPlace}
    (hv : Value.okWide Try.prog W .any base 22 v) (h : DataW.Trod enc Try.prog W 0 (fun _ => true) true 22 v d p) :
    ∃ (a : Option Addr) (n cap : Nat) (xs : List Int), v = .slice a n cap ∧ Reads W a n xs ∧ n ≤ maxLen := by
  obtain ⟨fuel, hf⟩ := h
  have key : ∀ a n cap, v.cells.toList = [Value.slice a n cap] → v = .slice a n cap := by
    intro a n cap he
    cases v <;> simp [Value.cells] at he
    case agg cs => simp [Value.okWide, Cell.okWide, Cell.ok, Try.underlying22] at hv
    case slice a' n' c' => obtain ⟨rfl, rfl, rfl⟩ := he; rfl

  rcases open_ints Try.underlying22 Try.underlying2 cellsInt hf with ⟨hcs, _⟩ | ⟨x, l, c, zs, hcs, _, hl, hm, hz, _, hcell, hwz⟩
  · exact ⟨none, 0, 0, [], key _ _ _ hcs, .zero rfl, Nat.zero_le _⟩
  · simp at hz
    refine ⟨some x, l, c, zs.take l, key _ _ _ hcs, ⟨by simp; omega, ?_⟩, by omega⟩
    by_cases h0 : l = 0
    · exact .inl h0
    · obtain ⟨b, off, spot⟩ := x
      have hspot : spot = none := by simpa [Addr.add] using World.cell?_spot (hcell 0 (by omega))
      subst hspot
      refine .inr ⟨b, off, rfl, fun j hj => ?_⟩
      have := hcell j (by omega)
      rw [Addr.add_lit] at this
      rw [this, getD_take_lt _ _ _ _ hj]

end Go.Proofs.Ytmlejlediflaaaa
