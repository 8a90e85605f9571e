/- A slice of slices of numbers that grows by append, row by row. No function of the program is spoken of. -/
import Derived.Test.YthelncibpoijoaaSSl
import Derived.Maps.AppendAt
import Derived.Test.YthelncibpoijoaaKit6
import Derived.Test.YthelncibpoijoaaKit7
namespace Go.Proofs.Ythelncibpoijoaa
open Go.RowKit

theorem infoSlice : (Try.prog.info? 34).map (fun i => (i.zero, i.size, i.bytes)) = some (some (.slice none 0 0), 1, 24) := by kernel_rfl

/-- A row as a value. -/
def RowV.val (x : RowV) : Value := .slice x.a x.n x.cap

/-- The slice of slices is the call's own, in blocks from B on, and so are its rows; all lie in blocks of their own. -/
structure GrowSS (B : Nat) (w : World) (v : Value) (m : Nat) (rs : List RowV) : Prop where
  own : w.ownsRow B 34 1 v m (rs.map RowV.val)
  row : ∀ x ∈ rs, OwnIn x.b (x.b + 1) w x.a x.n x.cap x.xs ∧ x.n ≤ 1048576 ∧ B ≤ x.b ∧ x.b < w.heap.size
  dif : ∀ i j (hi : i < rs.length) (hj : j < rs.length), i ≠ j → rs[i].b ≠ rs[j].b
  sep : ∀ x ∈ rs, v.ownBlock ≠ some x.b

theorem GrowSS.nil (B : Nat) (w : World) : GrowSS B w (.slice none 0 0) 0 [] := ⟨World.ownsRow_nil _ _ _ _, fun x hx => by simp at hx, fun i j hi => by simp at hi, fun x hx => by simp at hx⟩

theorem GrowSS.empty (w : World) : GrowSS w.heap.size (w.alloc (.cells #[] 34)) (.slice (some ⟨w.heap.size, 0, none⟩) 0 0) 0 [] :=
  ⟨World.ownsRow_lit (base := w.heap.size) (size := 1) (e := 34) w #[] 0 (Nat.le_refl _) (Nat.zero_le _) rfl, fun x hx => by simp at hx, fun i j hi => by simp at hi, fun x hx => by simp at hx⟩

theorem GrowSS.len {B : Nat} {w : World} {v : Value} {m : Nat} {rs : List RowV} (h : GrowSS B w v m rs) : rs.length = m := by
  have := h.own.1
  simpa using this

theorem ownsRow_heap {w w' : World} {B : Nat} {e : TypeId} {v : Value} {n : Nat} {xs : List Value} (h : w.ownsRow B e 1 v n xs) (hb : ∀ k, v.ownBlock = some k → w'.heap[k]? = w.heap[k]?) : w'.ownsRow B e 1 v n xs := by
  refine ⟨h.1, ?_⟩
  rcases h.2 with h0 | ⟨g, c, cur, hv, hg, hh, r⟩
  · exact .inl h0
  · exact .inr ⟨g, c, cur, hv, hg, by rw [hb g (by rw [hv]; rfl)]; exact hh, r⟩

theorem OwnIn.heap {lo hi : Nat} {w w' : World} {a : Option Addr} {n cap : Nat} {xs : List Int} (h : OwnIn lo hi w a n cap xs) (hb : ∀ k, lo ≤ k → k < hi → k < w.heap.size → w'.heap[k]? = w.heap[k]?) : OwnIn lo hi w' a n cap xs := by
  refine ⟨ownsRow_heap (w := w) h.1 fun k hk => ?_, h.2⟩
  have h1 := World.ownsRow.lt h.1 k hk
  have h2 : ∃ x, a = some x ∧ x.block = k := by
    cases a with
    | none => cases hk
    | some x => exact ⟨x, rfl, by simpa [Value.ownBlock] using hk⟩
  obtain ⟨x, hx, e⟩ := h2
  have := h.2 x hx
  exact hb k h1.1 (by omega) h1.2

/-- Only blocks below B and new ones are written. -/
theorem GrowSS.wrote {B lo hi : Nat} {w w' : World} {v : Value} {m : Nat} {rs : List RowV} (h : GrowSS B w v m rs) (k : Wrote lo hi w w') (hd : hi ≤ B ∨ w.heap.size ≤ lo) : GrowSS B w' v m rs := by
  refine ⟨ownsRow_heap h.own fun j hj => ?_, fun x hx => ?_, h.dif, h.sep⟩
  · have := World.ownsRow.lt h.own j hj
    exact k.block j this.2 (by omega)
  · obtain ⟨h1, h2, h3, h4⟩ := h.row x hx
    refine ⟨h1.heap fun j j1 j2 j3 => k.block j j3 (by omega), h2, h3, Nat.lt_of_lt_of_le h4 k.size⟩

theorem GrowSS.below {B : Nat} {w w' : World} {v : Value} {m : Nat} {rs : List RowV} (h : GrowSS B w v m rs) (k : Below w.heap.size w w') : GrowSS B w' v m rs := h.wrote (below_wrote (lo := 0) (hi := 0) k) (.inl (Nat.zero_le _))

theorem GrowSS.alloc {B : Nat} {w : World} {v : Value} {m : Nat} {rs : List RowV} (h : GrowSS B w v m rs) (o : Obj) : GrowSS B (w.alloc o) v m rs := h.below ((Below.refl _ _).alloc (Nat.le_refl _) o)

/-- A row is appended, which lies in a block g beside all of them. -/
theorem GrowSS.append {B g j cap : Nat} {w w1 : World} {v v' : Value} {m : Nat} {rs : List RowV} {xs : List Int} {o : Obj} (h : GrowSS B w v m rs) (ho : Own B w (some ⟨g, 0, none⟩) j cap xs) (hj : j ≤ 1048576) (hg : ∀ x ∈ rs, x.b < g) (hv : ∀ k, v.ownBlock = some k → k < g)
    (hown : w1.ownsRow B 34 1 v' (m + 1) (rs.map RowV.val ++ [.slice (some ⟨g, 0, none⟩) j cap])) (hgr : (w.alloc o).grownBy w1 v.ownBlock) (hat : v'.ownBlock = v.ownBlock ∨ v'.ownBlock = some (w.heap.size + 1)) :
    GrowSS B w1 v' (m + 1) (rs ++ [⟨g, some ⟨g, 0, none⟩, j, cap, xs⟩]) := by
  have hgl := World.ownsRow.lt ho g rfl
  have hal : (w.alloc o).heap.size = w.heap.size + 1 := by simp
  have hs : w.heap.size + 1 ≤ w1.heap.size := by have := hgr.size; omega
  have old : ∀ k, k < w.heap.size → some k ≠ v.ownBlock → w1.heap[k]? = w.heap[k]? := fun k hk hne => by
    rw [hgr.block k (by simp; omega) hne]
    exact ((Below.refl w.heap.size w).alloc (Nat.le_refl _) o).block k hk
  have hvg : some g ≠ v.ownBlock := fun e => by have := hv g e.symm; omega
  refine ⟨by rw [List.map_append]; exact hown, fun x hx => ?_, fun i k hi hk hne => ?_, fun x hx => ?_⟩
  · rcases List.mem_append.1 hx with hx | hx
    · obtain ⟨h1, h2, h3, h4⟩ := h.row x hx
      refine ⟨h1.heap fun k k1 k2 k3 => old k k3 ?_, h2, h3, by omega⟩
      have : k = x.b := by omega
      subst this
      exact fun e => h.sep x hx e.symm
    · simp only [List.mem_singleton] at hx
      subst hx
      refine ⟨⟨ownsRow_heap (w := w) ⟨ho.1, ?_⟩ fun k hk => ?_, fun x hx => ?_⟩, hj, hgl.1, Nat.lt_of_lt_of_le hgl.2 (by omega)⟩
      · rcases ho.2 with ⟨h0, _⟩ | ⟨g2, c, cur, hv2, _, r⟩
        · cases h0
        · refine .inr ⟨g2, c, cur, hv2, ?_, r⟩
          simp only [Value.slice.injEq, Option.some.injEq, Addr.mk.injEq] at hv2
          show g ≤ g2
          omega
      · have : k = g := by simp [Value.ownBlock] at hk; exact hk.symm
        subst this
        exact old k hgl.2 hvg
      · cases hx
        exact Nat.lt_succ_self _
  · simp only [List.length_append, List.length_singleton] at hi hk
    rw [List.getElem_append, List.getElem_append]
    by_cases e1 : i < rs.length
    · by_cases e2 : k < rs.length
      · rw [dif_pos e1, dif_pos e2]
        exact h.dif i k e1 e2 hne
      · rw [dif_pos e1, dif_neg e2]
        have := hg _ (List.getElem_mem e1)
        simp only [List.getElem_singleton]
        omega
    · by_cases e2 : k < rs.length
      · rw [dif_neg e1, dif_pos e2]
        have := hg _ (List.getElem_mem e2)
        simp only [List.getElem_singleton]
        omega
      · omega
  · rcases List.mem_append.1 hx with hx | hx
    · rcases hat with e | e
      · rw [e]; exact h.sep x hx
      · rw [e]
        have := (h.row x hx).2.2.2
        simp only [ne_eq, Option.some.injEq]
        omega
    · simp only [List.mem_singleton] at hx
      subst hx
      rcases hat with e | e
      · rw [e]; exact fun e2 => hvg e2.symm
      · rw [e]
        simp only [ne_eq, Option.some.injEq]
        omega

/-- Behind the append nothing below B has turned. -/
theorem GrowSS.appBelow {B : Nat} {w w1 : World} {v : Value} {m : Nat} {rs : List RowV} {o : Obj} (h : GrowSS B w v m rs) (hs : B ≤ w.heap.size) (hgr : (w.alloc o).grownBy w1 v.ownBlock) : Below B w w1 :=
  ((Below.refl B w).alloc hs o).grown hgr (by simp; omega) (fun k hk => (World.ownsRow.lt h.own k hk).1)

theorem Row8.under {B : Nat} {w w' : World} {g : Nat} {k : IntKind} {l : List Int} (h : Row8 w g k l) (b : Below B w w') (hg : g < B) : Row8 w' g k l := h.heap b.size (b.block g hg)

theorem GrowSS.form {B : Nat} {w : World} {v : Value} {m : Nat} {rs : List RowV} (h : GrowSS B w v m rs) : ∃ a cap, v = .slice a m cap := by
  rcases h.own.2 with ⟨hv, h0⟩ | ⟨g, c, cur, hv, _⟩
  · subst h0; exact ⟨none, 0, hv⟩
  · exact ⟨_, c, hv⟩

/-- As the laws' helpers want it. -/
theorem GrowSS.ownSS {B : Nat} {w : World} {ad : Option Addr} {cap m : Nat} {rs : List RowV} (h : GrowSS B w (.slice ad m cap) m rs) : OwnSS B w.heap.size w ad m rs := by
  refine ⟨h.len, ?_, fun x hx => ⟨(h.row x hx).1, (h.row x hx).2.1, .inr (h.row x hx).2.2⟩, h.dif⟩
  rcases Nat.eq_zero_or_pos m with h0 | h0
  · exact .inl h0
  · rcases h.own.2 with ⟨hv, h1⟩ | ⟨g, c, cur, hv, hg, hh, h3, h4, h5, h6⟩
    · omega
    · simp only [Value.slice.injEq, true_and] at hv
      obtain ⟨rfl, rfl⟩ := hv
      have hlt := World.ownsRow.lt h.own g rfl
      refine .inr ⟨g, 0, rfl, hg, hlt.2, fun x hx e => h.sep x hx (by rw [e]; rfl), fun j hj => ?_⟩
      have := World.ownsRow.cells h.own (g := g) rfl j (RowV.val rs[j]) (by simp [hj])
      have e : (⟨g, 0, none⟩ : Addr).add j = ⟨g, 0 + j, none⟩ := by cases j <;> simp [Addr.add]
      rw [e] at this
      simpa [RowV.val] using this

/-- How far the slice and its rows go. -/
theorem GrowSS.lt {B : Nat} {w : World} {v : Value} {m : Nat} {rs : List RowV} (h : GrowSS B w v m rs) : (∀ x ∈ rs, x.b < w.heap.size) ∧ ∀ k, v.ownBlock = some k → k < w.heap.size :=
  ⟨fun x hx => (h.row x hx).2.2.2, fun k hk => (World.ownsRow.lt h.own k hk).2⟩

theorem GrowSS.low {B B' : Nat} {w : World} {v : Value} {m : Nat} {rs : List RowV} (h : GrowSS B w v m rs) (hB : B' ≤ B) : GrowSS B' w v m rs := by
  refine ⟨⟨h.own.1, ?_⟩, fun x hx => ⟨(h.row x hx).1, (h.row x hx).2.1, Nat.le_trans hB (h.row x hx).2.2.1, (h.row x hx).2.2.2⟩, h.dif, h.sep⟩
  rcases h.own.2 with h0 | ⟨g, c, cur, hv, hg, r⟩
  · exact .inl h0
  · exact .inr ⟨g, c, cur, hv, Nat.le_trans hB hg, r⟩

/-- What a function that hands back a slice of slices gives. -/
def RetSS (w : World) (ls : List (List Int)) (e : Ending) (w' : World) : Prop :=
  ∃ a cap rs, e = .returned (.slice a rs.length cap) ∧ rs.map RowV.xs = ls ∧ GrowSS w.heap.size w' (.slice a rs.length cap) rs.length rs ∧ Below w.heap.size w w'

end Go.Proofs.Ythelncibpoijoaa
