/- Rows that were appended, cell by cell, with what a store into a row asks for. -/
import Derived.Test.YtelmdfkcclhhjaaSChr
namespace Go.Proofs.Ytelmdfkcclhhjaa
open Go.RowKit Go.ChangeShapes

/-- A matrix whose rows may be stored into. -/
structure WMx (B : Nat) (w : World) (g m k : Nat) (b c : Nat → Nat) (f : Nat → Nat → Int) : Prop extends RMx w g m (fun _ => k) b (fun _ => 0) c f where
  fr : ∀ i j, i < m → w.frozen? ⟨b i, j, none⟩ = false
  ne : ∀ i, i < m → b i ≠ g
  df : ∀ i x, i < m → x < m → i ≠ x → b i ≠ b x
  lo : ∀ i, i < m → B ≤ b i

theorem WMx.cell {B : Nat} {w : World} {g m k : Nat} {b c : Nat → Nat} {f : Nat → Nat → Int} (h : WMx B w g m k b c f) {i j : Nat} (hi : i < m) (hj : j < k) : w.cell? ⟨b i, j, none⟩ = some (.int .i64 (f i j)) := by
  have := h.el i j hi hj
  rw [Nat.zero_add] at this
  exact this

theorem WMx.set {B : Nat} {w : World} {g m k : Nat} {b c : Nat → Nat} {f : Nat → Nat → Int} (h : WMx B w g m k b c f) {i j : Nat} (hi : i < m) (hj : j < k) (v : Int) : WMx B (w.setCell ⟨b i, j, none⟩ (.int .i64 v)) g m k b c (updF f i j v) where
  hd := fun x hx => (World.cell?_setCell_far _ _ _ _ (by show b i ≠ g; exact h.ne i hi)).trans (h.hd x hx)
  el := fun x y hx hy => by
    by_cases e : x = i
    · subst e
      by_cases e2 : y = j
      · subst e2
        rw [updF_at, Nat.zero_add]
        exact World.cell?_setCell_same _ _ _ (h.cell hx hy)
      · rw [updF_ne _ _ _ _ (by omega)]
        exact (World.cell?_setCell_other _ _ _ _ (by intro e3; injection e3 with e4 e5; omega)).trans (h.el x y hx hy)
    · rw [updF_ne _ _ _ _ (by omega)]
      exact (World.cell?_setCell_far _ _ _ _ (h.df i x hi hx (Ne.symm e))).trans (h.el x y hx hy)
  fr := fun x y hx => by rw [World.frozen?_setCell]; exact h.fr x y hx
  ne := h.ne
  df := h.df
  lo := h.lo

theorem WMx.below {B : Nat} {w w' : World} {g m k : Nat} {b c : Nat → Nat} {f : Nat → Nat → Int} (h : WMx B w g m k b c f) (hk : 0 < k) (q : Below w.heap.size w w') : WMx B w' g m k b c f :=
  { h.toRMx.below q with fr := fun i j hi => (World.frozen?_of_block (w := w) (q.block (b i) (World.block_lt_of_cell? _ _ (h.el i 0 hi hk)))).trans (h.fr i j hi), ne := h.ne, df := h.df, lo := h.lo }

theorem mkM_same {m k : Nat} {f g : Nat → Nat → Int} (h : ∀ i j, i < m → j < k → f i j = g i j) : mkM m k f = mkM m k g := by
  unfold mkM
  refine List.map_congr_left fun i hi => List.map_congr_left fun j hj => h i j (List.mem_range.1 hi) (List.mem_range.1 hj)

/-- What grows by append, as headers and cells that may be stored into. -/
theorem GrowSS.wmx {B : Nat} {w : World} {a : Option Addr} {m cd k : Nat} {os : List RowV} {f : Nat → Nat → Int} (h : GrowSS B w (.slice a m cd) m os) (hX : os.map RowV.xs = mkM m k f) (hm : 0 < m) (hk : 0 < k) :
    ∃ g b c, a = some ⟨g, 0, none⟩ ∧ WMx B w g m k b c f := by
  have hl := h.len
  have hr := h.ownSS.reads
  obtain ⟨g, cap, hv, hg1, hg2⟩ := h.own.form hm
  simp only [Value.slice.injEq, true_and] at hv
  obtain ⟨rfl, rfl⟩ := hv
  have key : ∀ i (hi : i < os.length), os[i].a = some ⟨os[i].b, 0, none⟩ ∧ os[i].n = k ∧ (∀ j, j < k → w.cell? ⟨os[i].b, 0 + j, none⟩ = some (.int .i64 (f i j))) ∧ ∀ j, w.frozen? ⟨os[i].b, j, none⟩ = false := by
    intro i hi
    obtain ⟨hn, hx⟩ := mkM_rows hr hX hi
    obtain ⟨h1, h2, h3, h4⟩ := h.row _ (List.getElem_mem hi)
    rw [hn] at h1
    obtain ⟨gb, e1, e2, e3⟩ := Own.block h1.1 hk
    have e4 := h1.2 _ e1
    have e5 : os[i].b = gb := by simp only at e4; omega
    have h5 := h1.1
    rw [e1] at h5
    refine ⟨by rw [e1, e5], hn, fun j hj => ?_, fun j => ?_⟩
    · rw [Nat.zero_add, e5, h5.cellAt j hj, hx j hj]
    · rw [e5]; exact h5.frozenAt j
  refine ⟨g, fun i => (os.getD i ⟨0, none, 0, 0, []⟩).b, fun i => (os.getD i ⟨0, none, 0, 0, []⟩).cap, rfl, ?_⟩
  refine { hd := fun i hi => ?_, el := fun i j hi hj => ?_, fr := fun i j hi => ?_, ne := fun i hi => ?_, df := fun i x hi hx hne => ?_, lo := fun i hi => ?_ }
  · have hi' : i < os.length := by omega
    have hc := World.ownsRow.cells h.own (g := g) rfl i (RowV.val os[i]) (by simp [hi'])
    have e : (⟨g, 0, none⟩ : Addr).add i = ⟨g, i, none⟩ := by cases i <;> simp [Addr.add]
    rw [e] at hc
    obtain ⟨k1, k2, _⟩ := key i hi'
    simp only [List.getD, List.getElem?_eq_getElem hi', Option.getD_some]
    rw [hc]
    unfold RowV.val
    rw [k1, k2]
  · have hi' : i < os.length := by omega
    simp only [List.getD, List.getElem?_eq_getElem hi', Option.getD_some]
    exact (key i hi').2.2.1 j hj
  · have hi' : i < os.length := by omega
    simp only [List.getD, List.getElem?_eq_getElem hi', Option.getD_some]
    exact (key i hi').2.2.2 j
  · have hi' : i < os.length := by omega
    simp only [List.getD, List.getElem?_eq_getElem hi', Option.getD_some]
    intro e
    exact h.sep _ (List.getElem_mem hi') (by rw [e]; rfl)
  · have hi' : i < os.length := by omega
    have hx' : x < os.length := by omega
    simp only [List.getD, List.getElem?_eq_getElem hi', List.getElem?_eq_getElem hx', Option.getD_some]
    exact h.dif i x hi' hx' hne
  · have hi' : i < os.length := by omega
    simp only [List.getD, List.getElem?_eq_getElem hi', Option.getD_some]
    exact (h.row _ (List.getElem_mem hi')).2.2.1

end Go.Proofs.Ytelmdfkcclhhjaa
