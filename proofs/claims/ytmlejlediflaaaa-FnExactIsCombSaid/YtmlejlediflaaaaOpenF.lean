/- How a slice of slices of numbers among the laws' arguments is opened, where the numbers' size is wanted. -/
import Derived.Test.YtmlejlediflaaaaOpenS
namespace Go.Proofs.Ytmlejlediflaaaa
open Go.ChangeShapes Go.WideShapes Go.ChangeAt Go.RowKit Go.Joins

/-- A slice of numbers in a cell, and that its numbers fit. -/
theorem open_ints_cellF {H : Type} {enc : TypeId × Value → H} {W : World} {fuel : Nat} {cs : List Value} {y : DataW H × List MemPlace}
    (h : DataW.trod enc Try.prog W 0 (fun _ => true) true fuel 22 cs = some y) :
    ∃ r : RowV, cs = [.slice r.a r.n r.cap] ∧ Reads W r.a r.n r.xs ∧ r.n ≤ maxLen ∧ Fits r.xs := by
  rcases open_ints Try.underlying22 Try.underlying2 cellsInt h with ⟨hcs, _⟩ | ⟨x, l, c, zs, hcs, _, hl, hm, hz, _, hcell, hwz⟩
  · exact ⟨⟨0, none, 0, 0, []⟩, hcs, .zero rfl, Nat.zero_le _, fun z hz => by cases hz⟩
  · simp at hz
    refine ⟨⟨0, some x, l, c, zs.take l⟩, hcs, ⟨by simp; omega, ?_⟩, Nat.le_trans hl hm, fun z hz => hwz z (List.mem_of_mem_take hz)⟩
    by_cases h0 : l = 0
    · exact .inl h0
    · obtain ⟨b, off, spot⟩ := x
      have hspot : spot = none := by simpa [Addr.add] using World.cell?_spot (hcell 0 (by omega))
      subst hspot
      refine .inr ⟨b, off, rfl, fun j hj => ?_⟩
      have := hcell j (by rw [hz]; exact Nat.lt_of_lt_of_le hj hl)
      rw [Addr.add_lit] at this
      rw [this, getD_take_lt _ _ _ _ hj]

set_option maxRecDepth 100000 in
theorem open_listsF {H : Type} {enc : TypeId × Value → H} {W : World} {base : Nat} {v : Value} {d : DataW H} {p : List MemPlace}
    (hv : Value.okWide Try.prog W .any base 30 v) (h : DataW.Trod enc Try.prog W 0 (fun _ => true) true 30 v d p) :
    ∃ (a : Option Addr) (n cap : Nat) (rs : List RowV), v = .slice a n cap ∧ ReadsLL W a n rs ∧ n ≤ maxLen ∧ ∀ x ∈ rs, Fits x.xs := by
  obtain ⟨fuel, hf⟩ := h
  have key : ∀ a n cap, v.cells.toList = [Value.slice a n cap] → v = .slice a n cap := by
    intro a n cap he
    cases v <;> simp [Value.cells] at he
    case agg cs => simp [Value.okWide, Cell.okWide, Cell.ok, Try.underlying30] at hv
    case slice a' n' c' => obtain ⟨rfl, rfl, rfl⟩ := he; rfl
  rcases DataW.trod_slice Try.underlying30 hf with h0 | ⟨a, len, cap, elems, rest, k, _, hcs, _, hb, hl, hm, hlen, hel, _, _⟩
  · exact ⟨none, 0, 0, [], key _ _ _ h0.1, ⟨rfl, .inl rfl, fun x hx => absurd hx List.not_mem_nil⟩, Nat.zero_le _, fun x hx => absurd hx List.not_mem_nil⟩
  · have each : ∀ i, i < len → ∃ r : RowV, W.cell? (a.add i) = some (.slice r.a r.n r.cap) ∧ Reads W r.a r.n r.xs ∧ r.n ≤ maxLen ∧ Fits r.xs := by
      intro i hi
      have h1 := hel i hi
      rw [cellsInts, Nat.mul_one, List.getElem?_eq_getElem (by omega), Option.bind_eq_some_iff] at h1
      obtain ⟨cs, hcs2, hy⟩ := h1
      obtain ⟨r, e1, e2, e3, e4⟩ := open_ints_cellF hy
      obtain ⟨_, hl2, hc⟩ := World.cells?_some hcs2
      have h0 : (a.add i).add 0 = a.add i := by unfold Addr.add; split <;> simp_all
      have h2 := hc 0 (by omega)
      rw [h0, e1] at h2
      exact ⟨r, h2, e2, e3, e4⟩
    obtain ⟨rs, hrl, hp⟩ := exists_list len _ each
    refine ⟨some a, len, cap, rs, key _ _ _ hcs, ⟨hrl, ?_, fun x hx => ?_⟩, Nat.le_trans hl hm, fun x hx => ?_⟩
    · by_cases h0 : len = 0
      · exact .inl h0
      · obtain ⟨b, off, spot⟩ := a
        have hspot : spot = none := by simpa [Addr.add] using World.cell?_spot (hp 0 (by omega)).1
        subst hspot
        refine .inr ⟨b, off, rfl, fun j hj => ?_⟩
        have := (hp j hj).1
        rw [Addr.add_lit] at this
        exact this
    · obtain ⟨j, hj, rfl⟩ := List.getElem_of_mem hx
      exact ⟨(hp j hj).2.1, (hp j hj).2.2.1⟩
    · obtain ⟨j, hj, rfl⟩ := List.getElem_of_mem hx
      exact (hp j hj).2.2.2

end Go.Proofs.Ytmlejlediflaaaa
