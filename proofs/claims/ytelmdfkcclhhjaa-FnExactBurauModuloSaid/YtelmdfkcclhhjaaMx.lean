/- Matrices of the program's in memory: headers of rows, and rows, cell by cell. No function of the program is spoken of. -/
import Derived.Test.YtelmdfkcclhhjaaFmP
import Derived.Test.YtelmdfkcclhhjaaKitR
import Derived.Test.YtelmdfkcclhhjaaRer
namespace Go.Proofs.Ytelmdfkcclhhjaa
open Go.RowKit Go.ChangeShapes

/-- The slice of rows at block g, with m rows; row i lies in block b i from s i on, has K i numbers. -/
structure RMx (w : World) (g m : Nat) (K b s c : Nat → Nat) (f : Nat → Nat → Int) : Prop where
  hd : ∀ i, i < m → w.cell? ⟨g, i, none⟩ = some (.slice (some ⟨b i, s i, none⟩) (K i) (c i))
  el : ∀ i j, i < m → j < K i → w.cell? ⟨b i, s i + j, none⟩ = some (.int .i64 (f i j))

theorem RMx.heap {w w' : World} {g m : Nat} {K b s c : Nat → Nat} {f : Nat → Nat → Int} (h : RMx w g m K b s c f) (k : ∀ u, u < w.heap.size → w'.heap[u]? = w.heap[u]?) : RMx w' g m K b s c f :=
  ⟨fun i hi => (World.cell?_of_block (w := w) (k g (World.block_lt_of_cell? _ _ (h.hd i hi)))).trans (h.hd i hi), fun i j hi hj => (World.cell?_of_block (w := w) (k _ (World.block_lt_of_cell? _ _ (h.el i j hi hj)))).trans (h.el i j hi hj)⟩

theorem RMx.below {w w' : World} {g m : Nat} {K b s c : Nat → Nat} {f : Nat → Nat → Int} (h : RMx w g m K b s c f) (k : Below w.heap.size w w') : RMx w' g m K b s c f := h.heap k.block

theorem RMx.congr {w : World} {g m : Nat} {K b s c : Nat → Nat} {f f' : Nat → Nat → Int} (h : RMx w g m K b s c f) (e : ∀ i j, i < m → j < K i → f i j = f' i j) : RMx w g m K b s c f' :=
  ⟨h.hd, fun i j hi hj => by rw [← e i j hi hj]; exact h.el i j hi hj⟩

/-- The same, all of it the call's own, in blocks from B on. -/
structure OMx (B : Nat) (w : World) (g m : Nat) (K b s c : Nat → Nat) (f : Nat → Nat → Int) : Prop extends RMx w g m K b s c f where
  fg : ∀ j, w.frozen? ⟨g, j, none⟩ = false
  fr : ∀ i j, i < m → w.frozen? ⟨b i, j, none⟩ = false
  lg : B ≤ g ∧ g < w.heap.size
  lb : ∀ i, i < m → g < b i ∧ b i < w.heap.size
  df : ∀ i k, i < m → k < m → i ≠ k → b i ≠ b k

theorem OMx.heap {B : Nat} {w w' : World} {g m : Nat} {K b s c : Nat → Nat} {f : Nat → Nat → Int} (h : OMx B w g m K b s c f) (hs : w.heap.size ≤ w'.heap.size) (k : ∀ u, B ≤ u → u < w.heap.size → w'.heap[u]? = w.heap[u]?) : OMx B w' g m K b s c f where
  hd := fun i hi => (World.cell?_of_block (w := w) (k g h.lg.1 h.lg.2)).trans (h.hd i hi)
  el := fun i j hi hj => (World.cell?_of_block (w := w) (k _ (by have := (h.lb i hi).1; have := h.lg.1; show B ≤ b i; omega) (h.lb i hi).2)).trans (h.el i j hi hj)
  fg := fun j => (World.frozen?_of_block (w := w) (k g h.lg.1 h.lg.2)).trans (h.fg j)
  fr := fun i j hi => (World.frozen?_of_block (w := w) (k _ (by have := (h.lb i hi).1; have := h.lg.1; show B ≤ b i; omega) (h.lb i hi).2)).trans (h.fr i j hi)
  lg := ⟨h.lg.1, Nat.lt_of_lt_of_le h.lg.2 hs⟩
  lb := fun i hi => ⟨(h.lb i hi).1, Nat.lt_of_lt_of_le (h.lb i hi).2 hs⟩
  df := h.df

theorem OMx.below {B : Nat} {w w' : World} {g m : Nat} {K b s c : Nat → Nat} {f : Nat → Nat → Int} (h : OMx B w g m K b s c f) (k : Below w.heap.size w w') : OMx B w' g m K b s c f := h.heap k.size fun u _ hu => k.block u hu

theorem OMx.wrote {B lo hi : Nat} {w w' : World} {g m : Nat} {K b s c : Nat → Nat} {f : Nat → Nat → Int} (h : OMx B w g m K b s c f) (k : Wrote lo hi w w') (hd : hi ≤ B ∨ w.heap.size ≤ lo) : OMx B w' g m K b s c f := h.heap k.size fun u h1 hu => k.block u hu (by omega)

theorem OMx.congr {B : Nat} {w : World} {g m : Nat} {K b s c : Nat → Nat} {f f' : Nat → Nat → Int} (h : OMx B w g m K b s c f) (e : ∀ i j, i < m → j < K i → f i j = f' i j) : OMx B w g m K b s c f' :=
  { h with el := (h.toRMx.congr e).el }

theorem OMx.low {B B' : Nat} {w : World} {g m : Nat} {K b s c : Nat → Nat} {f : Nat → Nat → Int} (h : OMx B w g m K b s c f) (hB : B' ≤ B) : OMx B' w g m K b s c f := { h with lg := ⟨by have := h.lg.1; omega, h.lg.2⟩ }

theorem OMx.blocks {B : Nat} {w w' : World} {g m : Nat} {K b s c : Nat → Nat} {f : Nat → Nat → Int} (h : OMx B w g m K b s c f) (hs : w.heap.size ≤ w'.heap.size) (kg : w'.heap[g]? = w.heap[g]?) (kb : ∀ i, i < m → w'.heap[b i]? = w.heap[b i]?) : OMx B w' g m K b s c f where
  hd := fun i hi => (World.cell?_of_block (w := w) kg).trans (h.hd i hi)
  el := fun i j hi hj => (World.cell?_of_block (w := w) (kb i hi)).trans (h.el i j hi hj)
  fg := fun j => (World.frozen?_of_block (w := w) kg).trans (h.fg j)
  fr := fun i j hi => (World.frozen?_of_block (w := w) (kb i hi)).trans (h.fr i j hi)
  lg := ⟨h.lg.1, Nat.lt_of_lt_of_le h.lg.2 hs⟩
  lb := fun i hi => ⟨(h.lb i hi).1, Nat.lt_of_lt_of_le (h.lb i hi).2 hs⟩
  df := h.df

theorem OMx.under {B L : Nat} {w w' : World} {g m : Nat} {K b s c : Nat → Nat} {f : Nat → Nat → Int} (h : OMx B w g m K b s c f) (k : Below L w w') (hg : g < L) (hb : ∀ i, i < m → b i < L) : OMx B w' g m K b s c f :=
  h.blocks k.size (k.block g hg) fun i hi => k.block _ (hb i hi)

/-- A header behind the rows is stored. -/
theorem OMx.beyond {B : Nat} {w : World} {g m n : Nat} {K b s c : Nat → Nat} {f : Nat → Nat → Int} (h : OMx B w g m K b s c f) (hn : m ≤ n) (u : Value) : OMx B (w.setCell ⟨g, n, none⟩ u) g m K b s c f where
  hd := fun x hx => (World.cell?_setCell_other _ _ _ _ (by intro e3; injection e3 with e4 e5; omega)).trans (h.hd x hx)
  el := fun x y hx hy => (World.cell?_setCell_far _ _ _ _ (by show g ≠ b x; have := (h.lb x hx).1; omega)).trans (h.el x y hx hy)
  fg := fun y => by rw [World.frozen?_setCell]; exact h.fg y
  fr := fun x y hx => by rw [World.frozen?_setCell]; exact h.fr x y hx
  lg := ⟨h.lg.1, by simpa [World.setCell] using h.lg.2⟩
  lb := fun x hx => ⟨(h.lb x hx).1, by simpa [World.setCell] using (h.lb x hx).2⟩
  df := h.df

/-- A number is stored. -/
theorem OMx.set {B : Nat} {w : World} {g m : Nat} {K b s c : Nat → Nat} {f : Nat → Nat → Int} (h : OMx B w g m K b s c f) {i j : Nat} (hi : i < m) (hj : j < K i) (v : Int) : OMx B (w.setCell ⟨b i, s i + j, none⟩ (.int .i64 v)) g m K b s c (updF f i j v) where
  hd := fun x hx => (World.cell?_setCell_far _ _ _ _ (by show b i ≠ g; have := (h.lb i hi).1; omega)).trans (h.hd x hx)
  el := fun x y hx hy => by
    by_cases e : x = i
    · subst e
      by_cases e2 : y = j
      · subst e2
        rw [updF_at]
        exact World.cell?_setCell_same _ _ _ (h.el x y hx hy)
      · rw [updF_ne _ _ _ _ (by omega)]
        exact (World.cell?_setCell_other _ _ _ _ (by intro e3; injection e3 with e4 e5; omega)).trans (h.el x y hx hy)
    · rw [updF_ne _ _ _ _ (by omega)]
      exact (World.cell?_setCell_far _ _ _ _ (h.df i x hi hx (Ne.symm e))).trans (h.el x y hx hy)
  fg := fun y => by rw [World.frozen?_setCell]; exact h.fg y
  fr := fun x y hx => by rw [World.frozen?_setCell]; exact h.fr x y hx
  lg := ⟨h.lg.1, by simpa [World.setCell] using h.lg.2⟩
  lb := fun x hx => ⟨(h.lb x hx).1, by simpa [World.setCell] using (h.lb x hx).2⟩
  df := h.df

/-- The next row's header is stored. -/
theorem OMx.push {B : Nat} {w : World} {g n k : Nat} {b s c : Nat → Nat} {f f' : Nat → Nat → Int} (h : OMx B w g n (fun _ => k) b s c f) {u : Value} (hu : w.cell? ⟨g, n, none⟩ = some u) {bn sn cn : Nat}
    (h1 : g < bn) (h2 : bn < w.heap.size) (h3 : ∀ i, i < n → b i ≠ bn) (h4 : ∀ j, w.frozen? ⟨bn, j, none⟩ = false) (h5 : ∀ j, j < k → w.cell? ⟨bn, sn + j, none⟩ = some (.int .i64 (f' n j))) (h6 : ∀ i j, i < n → j < k → f i j = f' i j) :
    ∃ b' s' c', OMx B (w.setCell ⟨g, n, none⟩ (.slice (some ⟨bn, sn, none⟩) k cn)) g (n + 1) (fun _ => k) b' s' c' f' ∧ b' n = bn ∧ s' n = sn ∧ c' n = cn := by
  refine ⟨fun i => if i = n then bn else b i, fun i => if i = n then sn else s i, fun i => if i = n then cn else c i, ?_, by simp, by simp, by simp⟩
  refine { hd := fun i hi => ?_, el := fun i j hi hj => ?_, fg := fun j => by rw [World.frozen?_setCell]; exact h.fg j, fr := fun i j hi => ?_, lg := ⟨h.lg.1, by simpa [World.setCell] using h.lg.2⟩, lb := fun i hi => ?_, df := fun i x hi hx hne => ?_ }
  · by_cases e : i = n
    · subst e
      simp only [if_true]
      exact World.cell?_setCell_same _ _ _ hu
    · simp only [if_neg e]
      exact (World.cell?_setCell_other _ _ _ _ (by intro e3; injection e3 with e4 e5; omega)).trans (h.hd i (by omega))
  · by_cases e : i = n
    · subst e
      simp only [if_true]
      exact (World.cell?_setCell_far _ _ _ _ (by show g ≠ bn; omega)).trans (h5 j hj)
    · simp only [if_neg e]
      rw [← h6 i j (by omega) hj]
      exact (World.cell?_setCell_far _ _ _ _ (by show g ≠ b i; have := (h.lb i (by omega)).1; omega)).trans (h.el i j (by omega) hj)
  · rw [World.frozen?_setCell]
    by_cases e : i = n
    · simp only [if_pos e]; exact h4 j
    · simp only [if_neg e]; exact h.fr i j (by omega)
  · have hsz : (w.setCell ⟨g, n, none⟩ (.slice (some ⟨bn, sn, none⟩) k cn)).heap.size = w.heap.size := by simp [World.setCell]
    rw [hsz]
    by_cases e : i = n
    · simp only [if_pos e]; exact ⟨h1, h2⟩
    · simp only [if_neg e]; exact h.lb i (by omega)
  · by_cases e : i = n
    · by_cases e2 : x = n
      · omega
      · simp only [if_pos e, if_neg e2]
        exact (h3 x (by omega)).symm
    · by_cases e2 : x = n
      · simp only [if_neg e, if_pos e2]
        exact h3 i (by omega)
      · simp only [if_neg e, if_neg e2]
        exact h.df i x (by omega) (by omega) hne

/-- The next row's header has been stored. -/
theorem OMx.add {B : Nat} {w : World} {g n k : Nat} {b s c : Nat → Nat} {f f' : Nat → Nat → Int} (h : OMx B w g n (fun _ => k) b s c f) {bn sn cn : Nat} (hu : w.cell? ⟨g, n, none⟩ = some (.slice (some ⟨bn, sn, none⟩) k cn))
    (h1 : g < bn) (h2 : bn < w.heap.size) (h3 : ∀ i, i < n → b i ≠ bn) (h4 : ∀ j, w.frozen? ⟨bn, j, none⟩ = false) (h5 : ∀ j, j < k → w.cell? ⟨bn, sn + j, none⟩ = some (.int .i64 (f' n j))) (h6 : ∀ i j, i < n → j < k → f i j = f' i j) :
    ∃ b' s' c', OMx B w g (n + 1) (fun _ => k) b' s' c' f' := by
  refine ⟨fun i => if i = n then bn else b i, fun i => if i = n then sn else s i, fun i => if i = n then cn else c i, ?_⟩
  refine { hd := fun i hi => ?_, el := fun i j hi hj => ?_, fg := h.fg, fr := fun i j hi => ?_, lg := h.lg, lb := fun i hi => ?_, df := fun i x hi hx hne => ?_ }
  · by_cases e : i = n
    · subst e
      simp only [if_true]
      exact hu
    · simp only [if_neg e]
      exact h.hd i (by omega)
  · by_cases e : i = n
    · subst e
      simp only [if_true]
      exact h5 j hj
    · simp only [if_neg e]
      rw [← h6 i j (by omega) hj]
      exact h.el i j (by omega) hj
  · by_cases e : i = n
    · simp only [if_pos e]; exact h4 j
    · simp only [if_neg e]; exact h.fr i j (by omega)
  · by_cases e : i = n
    · simp only [if_pos e]; exact ⟨h1, h2⟩
    · simp only [if_neg e]; exact h.lb i (by omega)
  · by_cases e : i = n
    · by_cases e2 : x = n
      · omega
      · simp only [if_pos e, if_neg e2]
        exact (h3 x (by omega)).symm
    · by_cases e2 : x = n
      · simp only [if_neg e, if_pos e2]
        exact h3 i (by omega)
      · simp only [if_neg e, if_neg e2]
        exact h.df i x (by omega) (by omega) hne

/-- No rows yet. -/
theorem OMx.start {B : Nat} {w : World} {g k : Nat} (f : Nat → Nat → Int) (hg : B ≤ g ∧ g < w.heap.size) (hf : ∀ j, w.frozen? ⟨g, j, none⟩ = false) : OMx B w g 0 (fun _ => k) (fun _ => 0) (fun _ => 0) (fun _ => 0) f where
  hd := fun _ hi => absurd hi (Nat.not_lt_zero _)
  el := fun _ _ hi => absurd hi (Nat.not_lt_zero _)
  fg := hf
  fr := fun _ _ hi => absurd hi (Nat.not_lt_zero _)
  lg := hg
  lb := fun _ hi => absurd hi (Nat.not_lt_zero _)
  df := fun _ _ hi => absurd hi (Nat.not_lt_zero _)

/-- The program's matrix, as a value. -/
def MxV (w : World) (v : Value) (m k : Nat) (f : Nat → Nat → Int) : Prop := ∃ g b s c cap, v = .slice (some ⟨g, 0, none⟩) m cap ∧ RMx w g m (fun _ => k) b s c f

/-- What a function that hands back a matrix of its own gives. -/
def RetMx (w : World) (m k : Nat) (f : Nat → Nat → Int) (e : Ending) (w' : World) : Prop :=
  ∃ g b s c cap, e = .returned (.slice (some ⟨g, 0, none⟩) m cap) ∧ OMx w.heap.size w' g m (fun _ => k) b s c f ∧ Below w.heap.size w w'

theorem infoRes : (Try.prog.info? 67).map (fun i => (i.zero, i.size, i.bytes)) = some (some (.int .i64 0), 1, 8) := by kernel_rfl
theorem infoRow : (Try.prog.info? 72).map (fun i => (i.zero, i.size, i.bytes)) = some (some (.slice none 0 0), 1, 24) := by kernel_rfl

/-- Behind a make. -/
theorem made_cells {w : World} {B n : Nat} {T : TypeId} {z : Value} (h : w.ownsRow B T 1 (.slice (some ⟨B, 0, none⟩) n n) n (madeCells #[z] n).toList) :
    (∀ j, j < n → w.cell? ⟨B, j, none⟩ = some z) ∧ (∀ j, w.frozen? ⟨B, j, none⟩ = false) ∧ B < w.heap.size := by
  rw [toList_madeCells_one] at h
  refine ⟨fun j hj => ?_, fun j => World.ownsRow.frozenAt h j, (World.ownsRow.lt h B rfl).2⟩
  rw [World.ownsRow.cellAt h j (by omega)]
  exact List.getElem?_replicate_of_lt (by simpa using hj)

end Go.Proofs.Ytelmdfkcclhhjaa
