/- Crossings of pairs of strands: the exported function of the program. -/
import Derived.Test.YtmlejlediflaaaaCroP
import Derived.Test.YtmlejlediflaaaaTabC
import Derived.Laws.CopyOwn
import Derived.Great.Walk
import Derived.StillTailTactics
namespace Go.Proofs.Ytmlejlediflaaaa
open Go.RowKit Go.ChangeShapes Go.Great

theorem fill_madeC {B : Nat} {w : World} {n : Nat} (h : w.ownsRow B 22 1 (.slice (some ⟨B, 0, none⟩) n n) n (madeCells #[Value.slice none 0 0] n).toList) : FillSS B w B n 0 [] := by
  rw [toList_madeCells_one] at h
  exact ⟨by simpa using h, rfl, Nat.zero_le _, fun x hx => (by cases hx), fun i j hi => (by cases hi)⟩

theorem own_madeC {B n : Nat} {w : World} (h : w.ownsRow B 2 1 (.slice (some ⟨B, 0, none⟩) n n) n (madeCells #[Value.int .i64 0] n).toList) :
    OwnIn B (B + 1) w (some ⟨B, 0, none⟩) n n (List.replicate n 0) ∧ ∃ cur, w.heap[B]? = some (.cells cur 2 (0, 0)) ∧ cur.size = n := by
  rw [toList_madeCells_one] at h
  refine ⟨⟨by unfold Own; rw [List.map_replicate]; exact h, fun x hx => by obtain rfl := Option.some.inj hx; exact Nat.lt_succ_self _⟩, ?_⟩
  obtain ⟨_, ⟨hv, _⟩ | ⟨g, c, cur, hv, _, hh, _, _, hc, _⟩⟩ := h
  · cases hv
  · obtain ⟨rfl, rfl⟩ : g = B ∧ c = n := by
      simp only [Value.slice.injEq, Option.some.injEq, Addr.mk.injEq, and_true, true_and] at hv
      omega
    exact ⟨cur, hh, by omega⟩

theorem own_setRowC {g n : Nat} {w : World} {cur : Array Value} {xs : List Int} (hg : w.heap[g]? = some (.cells cur 2 (0, 0))) (hn : n ≤ maxLen) (hx : xs.length = n) :
    OwnIn g (g + 1) (w.setRow g (xs.map (Value.int .i64)).toArray) (some ⟨g, 0, none⟩) n n xs := by
  refine ⟨⟨by simp [hx], .inr ⟨g, n, _, rfl, Nat.le_refl _, setRow_heap w g cur _ _ _ hg, Nat.le_refl _, hn, by simp [hx], ?_⟩⟩, fun x hx => by obtain rfl := Option.some.inj hx; exact Nat.lt_succ_self _⟩
  simp only [Nat.mul_one]
  exact List.take_of_length_le (by simp [hx])

theorem FillSS.rerow {B : Nat} {w w' : World} {g M k : Nat} {rs : List RowV} {b j cap : Nat} {a : Option Addr} {xs xs' : List Int} (h : FillSS B w g M k (rs ++ [⟨b, a, j, cap, xs⟩]))
    (hk : ∀ u, u ≠ b → w'.heap[u]? = w.heap[u]?) (hs : w'.heap.size = w.heap.size) (ho : OwnIn b (b + 1) w' a j cap xs') : FillSS B w' g M k (rs ++ [⟨b, a, j, cap, xs'⟩]) := by
  have hlast := h.row ⟨b, a, j, cap, xs⟩ (by simp)
  have hdif : ∀ x ∈ rs, x.b ≠ b := by
    intro x hx
    obtain ⟨i, hi, rfl⟩ := List.getElem_of_mem hx
    have := h.dif i rs.length (by simp; omega) (by simp) (by omega)
    simpa [List.getElem_append_left hi] using this
  have hown := h.own
  rw [List.map_append] at hown
  refine ⟨?_, by have := h.len; simpa using this, h.le, fun x hx => ?_, fun i u hi hu hne => ?_⟩
  · rw [List.map_append]
    exact ownsRow_heap hown fun u hu => hk u (by have e : g = u := by simpa [Value.ownBlock] using hu
                                                 have := hlast.2.2.1
                                                 simp only at this
                                                 omega)
  · rcases List.mem_append.1 hx with hx | hx
    · obtain ⟨r1, r2, r3, r4⟩ := h.row x (List.mem_append_left _ hx)
      exact ⟨r1.heap fun u u1 u2 _ => hk u (by have := hdif x hx; omega), r2, r3, by rw [hs]; exact r4⟩
    · obtain rfl := List.mem_singleton.1 hx
      exact ⟨ho, hlast.2.1, hlast.2.2.1, by rw [hs]; exact hlast.2.2.2⟩
  · have e : ∀ v (hv : v < (rs ++ [(⟨b, a, j, cap, xs'⟩ : RowV)]).length) (hv' : v < (rs ++ [(⟨b, a, j, cap, xs⟩ : RowV)]).length), (rs ++ [(⟨b, a, j, cap, xs'⟩ : RowV)])[v].b = (rs ++ [(⟨b, a, j, cap, xs⟩ : RowV)])[v].b := by
      intro v hv hv'
      rw [List.getElem_append, List.getElem_append]
      split
      · rfl
      · simp
    rw [e i hi (by simpa using hi), e u hu (by simpa using hu)]
    exact h.dif i u _ _ hne

theorem rowC_getD (tb : List Int) (x q j : Nat) (hj : j < q) : (rowC tb x q)[j]? = some (at8 tb (8 * x + j)) := by
  unfold rowC
  rw [List.getElem?_map, List.getElem?_range hj]
  rfl

end Go.Proofs.Ytmlejlediflaaaa
