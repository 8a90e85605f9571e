/- How an array argument of the laws is opened: eight bytes. -/
import Derived.Test.YtmlejlediflaaaaOpen
import Derived.Test.YtmlejlediflaaaaQA
namespace Go.Proofs.Ytmlejlediflaaaa
open Go.ChangeShapes Go.WideShapes Go.ChangeAt Go.RowKit Go.Joins

theorem cellsByte : Try.prog.cellsOf 5 = 1 := by kernel_rfl
theorem cellsArray : Try.prog.cellsOf 91 = 8 := by kernel_rfl

theorem list8 {α : Type} (l : List α) (h : (⟨l⟩ : Array α).size = 8) : ∃ a b c d e f g k, l = [a, b, c, d, e, f, g, k] := by
  match l, h with
  | [a, b, c, d, e, f, g, k], _ => exact ⟨a, b, c, d, e, f, g, k, rfl⟩

theorem byte_wf {x : Int} (h : (Lit.int .u8 x).wf = true) : 0 ≤ x ∧ x < 256 := by
  simp [Lit.wf, IntKind.min, IntKind.max, IntKind.bits, IntKind.signed] at h
  omega

theorem bytes8_mk (a b c d e f g k : Int) (ha : 0 ≤ a ∧ a < 256) (hb : 0 ≤ b ∧ b < 256) (hc : 0 ≤ c ∧ c < 256) (hd : 0 ≤ d ∧ d < 256) (he : 0 ≤ e ∧ e < 256) (hf : 0 ≤ f ∧ f < 256) (hg : 0 ≤ g ∧ g < 256) (hk : 0 ≤ k ∧ k < 256) : Bytes8 [a, b, c, d, e, f, g, k] := by
  intro j
  by_cases h : j < 8
  · have : j = 0 ∨ j = 1 ∨ j = 2 ∨ j = 3 ∨ j = 4 ∨ j = 5 ∨ j = 6 ∨ j = 7 := by omega
    rcases this with rfl | rfl | rfl | rfl | rfl | rfl | rfl | rfl <;> assumption
  · rw [at8_over rfl j (by omega)]
    omega

set_option maxRecDepth 100000 in
theorem open_array8 {H : Type} {enc : TypeId × Value → H} {W : World} {base : Nat} {v : Value} {d : DataW H} {p : List MemPlace}
    (hv : Value.okWide Try.prog W .any base 91 v) (h : DataW.Trod enc Try.prog W 0 (fun _ => true) true 91 v d p) :
    ∃ l : List Int, v = arr8 .u8 l ∧ l.length = 8 ∧ Bytes8 l := by
  obtain ⟨cs, rfl, hsz, _⟩ : ∃ cs, v = .agg cs ∧ cs.size = Try.prog.cellsOf 91 ∧ Row.okWide Try.prog W .any base 91 cs := by
    simpa [Value.okWide, Try.underlying91] using hv
  rw [cellsArray] at hsz
  obtain ⟨l⟩ := cs
  obtain ⟨c0, c1, c2, c3, c4, c5, c6, c7, rfl⟩ := list8 l hsz
  obtain ⟨fuel, hf⟩ := h
  obtain ⟨xs, m, _, _, _, hxl, hx⟩ := DataW.trod_array Try.underlying91 hf
  rw [cellsByte] at hx
  have get : ∀ i c, i < 8 → [c0, c1, c2, c3, c4, c5, c6, c7][i]? = some c → ∃ x, c = .int .u8 x ∧ 0 ≤ x ∧ x < 256 := by
    intro i c hi hc
    have h1 := hx i hi
    have h2 : (([c0, c1, c2, c3, c4, c5, c6, c7].drop (i * 1)).take 1) = [c] := by
      have : i = 0 ∨ i = 1 ∨ i = 2 ∨ i = 3 ∨ i = 4 ∨ i = 5 ∨ i = 6 ∨ i = 7 := by omega
      rcases this with rfl | rfl | rfl | rfl | rfl | rfl | rfl | rfl <;> simpa using hc
    simp only [Value.cells] at h1
    rw [h2, List.getElem?_eq_getElem (by omega)] at h1
    obtain ⟨x, e0, _, ws⟩ := DataW.trod_int Try.underlying5 h1
    simp at e0
    exact ⟨x, e0, byte_wf ws⟩
  obtain ⟨x0, rfl, h0⟩ := get 0 c0 (by omega) rfl
  obtain ⟨x1, rfl, h1⟩ := get 1 c1 (by omega) rfl
  obtain ⟨x2, rfl, h2⟩ := get 2 c2 (by omega) rfl
  obtain ⟨x3, rfl, h3⟩ := get 3 c3 (by omega) rfl
  obtain ⟨x4, rfl, h4⟩ := get 4 c4 (by omega) rfl
  obtain ⟨x5, rfl, h5⟩ := get 5 c5 (by omega) rfl
  obtain ⟨x6, rfl, h6⟩ := get 6 c6 (by omega) rfl
  obtain ⟨x7, rfl, h7⟩ := get 7 c7 (by omega) rfl
  exact ⟨[x0, x1, x2, x3, x4, x5, x6, x7], rfl, rfl, bytes8_mk _ _ _ _ _ _ _ _ h0 h1 h2 h3 h4 h5 h6 h7⟩

end Go.Proofs.Ytmlejlediflaaaa
