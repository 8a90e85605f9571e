/- Predicates on memory, continued: local structs of three cells; slices of arrays of eight bytes. No function of the program is spoken of. -/
import Derived.Test.YtpkhddndapcpjaaSmQA
import Derived.Test.YtpkhddndapcpjaaSmPB
import Derived.Deep.MidRow
import Derived.Laws.OwnMore
namespace Go.Proofs.Ytpkhddndapcpjaa
open Go.RowKit Go.ChangeShapes

/-- The block g holds the three cells u, v and x. -/
def At3 (w : World) (g : Nat) (u v x : Value) : Prop :=
 g < w.heap.size ∧ (w.cell? ⟨g, 0, none⟩ = some u ∧ w.cell? ⟨g, 1, none⟩ = some v ∧ w.cell? ⟨g, 2, none⟩ = some x) ∧ w.frozen? ⟨g, 0, none⟩ = false ∧ w.frozen? ⟨g, 1, none⟩ = false ∧ w.frozen? ⟨g, 2, none⟩ = false

theorem At3.place (w : World) (u v x : Value) (t : TypeId) (g : Nat) (hg : w.heap.size = g) : At3 (w.alloc (.cells #[u, v, x] t)) g u v x := by
 subst hg
 exact ⟨by simp, ⟨by simp, by simp, by simp⟩, by simp, by simp, by simp⟩

theorem At3.heap {w w' : World} {g : Nat} {u v x : Value} (h : At3 w g u v x) (hs : w.heap.size ≤ w'.heap.size) (hb : w'.heap[g]? = w.heap[g]?) : At3 w' g u v x :=
 ⟨Nat.lt_of_lt_of_le h.1 hs, ⟨(World.cell?_of_block (w := w) (a := ⟨g, 0, none⟩) hb).trans h.2.1.1, (World.cell?_of_block (w := w) (a := ⟨g, 1, none⟩) hb).trans h.2.1.2.1, (World.cell?_of_block (w := w) (a := ⟨g, 2, none⟩) hb).trans h.2.1.2.2⟩,
  (World.frozen?_of_block (w := w) (a := ⟨g, 0, none⟩) hb).trans h.2.2.1, (World.frozen?_of_block (w := w) (a := ⟨g, 1, none⟩) hb).trans h.2.2.2.1, (World.frozen?_of_block (w := w) (a := ⟨g, 2, none⟩) hb).trans h.2.2.2.2⟩

theorem At3.setCell {w : World} {g : Nat} {u v x : Value} (h : At3 w g u v x) {p : Addr} (hp : p.block ≠ g) (y : Value) : At3 (w.setCell p y) g u v x :=
 h.heap (by simp [World.setCell]) (Below.heap_setCell _ _ _ _ (fun e => hp e.symm))

theorem At3.below {w w' : World} {g : Nat} {u v x : Value} (h : At3 w g u v x) (k : Below w.heap.size w w') : At3 w' g u v x := h.heap k.size (k.block g h.1)
theorem At3.alloc {w : World} {g : Nat} {u v x : Value} (h : At3 w g u v x) (o : Obj) : At3 (w.alloc o) g u v x := h.below ((Below.refl _ _).alloc (Nat.le_refl _) o)
theorem At3.drew {w : World} {g : Nat} {u v x : Value} (h : At3 w g u v x) : At3 w.drew g u v x := h
theorem At3.wrote {lo hi : Nat} {w w' : World} {g : Nat} {u v x : Value} (h : At3 w g u v x) (k : Wrote lo hi w w') (hg : g < lo ∨ hi ≤ g) : At3 w' g u v x := h.heap k.size (k.block g h.1 hg)

theorem At3.store0 {w : World} {g : Nat} {u v x : Value} (h : At3 w g u v x) (y : Value) : At3 (w.setCell ⟨g, 0, none⟩ y) g y v x :=
 ⟨by simpa [World.setCell] using h.1, ⟨World.cell?_setCell_same _ _ _ h.2.1.1, (World.cell?_setCell_other _ _ _ _ (by simp)).trans h.2.1.2.1, (World.cell?_setCell_other _ _ _ _ (by simp)).trans h.2.1.2.2⟩, by simpa using h.2.2.1, by simpa using h.2.2.2.1, by simpa using h.2.2.2.2⟩
theorem At3.store1 {w : World} {g : Nat} {u v x : Value} (h : At3 w g u v x) (y : Value) : At3 (w.setCell ⟨g, 1, none⟩ y) g u y x :=
 ⟨by simpa [World.setCell] using h.1, ⟨(World.cell?_setCell_other _ _ _ _ (by simp)).trans h.2.1.1, World.cell?_setCell_same _ _ _ h.2.1.2.1, (World.cell?_setCell_other _ _ _ _ (by simp)).trans h.2.1.2.2⟩, by simpa using h.2.2.1, by simpa using h.2.2.2.1, by simpa using h.2.2.2.2⟩
theorem At3.store2 {w : World} {g : Nat} {u v x : Value} (h : At3 w g u v x) (y : Value) : At3 (w.setCell ⟨g, 2, none⟩ y) g u v y :=
 ⟨by simpa [World.setCell] using h.1, ⟨(World.cell?_setCell_other _ _ _ _ (by simp)).trans h.2.1.1, (World.cell?_setCell_other _ _ _ _ (by simp)).trans h.2.1.2.1, World.cell?_setCell_same _ _ _ h.2.1.2.2⟩, by simpa using h.2.2.1, by simpa using h.2.2.2.1, by simpa using h.2.2.2.2⟩
theorem At3.fill {w : World} {g : Nat} {u v x : Value} (h : At3 w g u v x) (a b c : Value) : At3 (((w.setCell ⟨g, 0, none⟩ a).setCell ⟨g, 1, none⟩ b).setCell ⟨g, 2, none⟩ c) g a b c := ((h.store0 a).store1 b).store2 c

/-- The slice with the address a and the length n holds the rows. -/
def ReadsA (w : World) (a : Option Addr) (n : Nat) (rs : List (List Int)) : Prop :=
 rs.length = n ∧ Rows8 rs ∧ (n = 0 ∨ ∃ b off, a = some ⟨b, off, none⟩ ∧ ∀ j, j < n → ∀ i, i < 8 → w.cell? ⟨b, off + j * 8 + i, none⟩ = some (.int .u8 (at8 (rowAt rs j) i)))

/-- All numbers are bytes. -/
def BytesA (rs : List (List Int)) : Prop := ∀ r ∈ rs, Bytes8 r

theorem ReadsA.len {w : World} {a : Option Addr} {n : Nat} {rs : List (List Int)} (h : ReadsA w a n rs) : rs.length = n := h.1
theorem ReadsA.rows {w : World} {a : Option Addr} {n : Nat} {rs : List (List Int)} (h : ReadsA w a n rs) : Rows8 rs := h.2.1
theorem ReadsA.zero {w : World} {a : Option Addr} : ReadsA w a 0 [] := ⟨rfl, (fun _ hr => absurd hr List.not_mem_nil), .inl rfl⟩

theorem ReadsA.heap {w w' : World} {a : Option Addr} {n : Nat} {rs : List (List Int)} (h : ReadsA w a n rs) (hb : ∀ k, k < w.heap.size → w'.heap[k]? = w.heap[k]?) : ReadsA w' a n rs := by
 obtain ⟨h1, h2, h | ⟨b, off, ha, hc⟩⟩ := h
 ·exact ⟨h1, h2, .inl h⟩
 ·refine ⟨h1, h2, .inr ⟨b, off, ha, fun j hj i hi => ?_⟩⟩
  have := World.block_lt_of_cell? _ _ (hc j hj i hi)
  rw [World.cell?_of_block (w := w) (hb b this)]
  exact hc j hj i hi

theorem ReadsA.below {w w' : World} {a : Option Addr} {n : Nat} {rs : List (List Int)} (h : ReadsA w a n rs) (hb : Below w.heap.size w w') : ReadsA w' a n rs := h.heap hb.block
theorem ReadsA.alloc {w : World} {a : Option Addr} {n : Nat} {rs : List (List Int)} (h : ReadsA w a n rs) (o : Obj) : ReadsA (w.alloc o) a n rs := h.below ((Below.refl _ _).alloc (Nat.le_refl _) o)
theorem ReadsA.drew {w : World} {a : Option Addr} {n : Nat} {rs : List (List Int)} (h : ReadsA w a n rs) : ReadsA w.drew a n rs := h

/-- A slice with an element leads to cells. -/
theorem ReadsA.cells {w : World} {a : Option Addr} {n : Nat} {rs : List (List Int)} (h : ReadsA w a n rs) (hn : 0 < n) :
  ∃ b off, a = some ⟨b, off, none⟩ ∧ b < w.heap.size ∧ ∀ j, j < n → ∀ i, i < 8 → w.cell? ⟨b, off + j * 8 + i, none⟩ = some (.int .u8 (at8 (rowAt rs j) i)) := by
 obtain ⟨_, _, h | ⟨b, off, ha, hc⟩⟩ := h
 ·omega
 ·exact ⟨b, off, ha, World.block_lt_of_cell? _ _ (hc 0 hn 0 (by omega)), hc⟩

/-- Eight cells in a row. -/
def Cells8 (w : World) (b o : Nat) (l : List Int) : Prop := ∀ i, i < 8 → w.cell? ⟨b, o + i, none⟩ = some (.int .u8 (at8 l i))

theorem Cells8.flat {w : World} {b o : Nat} {l : List Int} (h : Cells8 w b o l) :
  w.cell? ⟨b, o, none⟩ = some (.int .u8 (at8 l 0)) ∧ w.cell? ⟨b, o + 1, none⟩ = some (.int .u8 (at8 l 1)) ∧ w.cell? ⟨b, o + 2, none⟩ = some (.int .u8 (at8 l 2)) ∧ w.cell? ⟨b, o + 3, none⟩ = some (.int .u8 (at8 l 3))
   ∧ w.cell? ⟨b, o + 4, none⟩ = some (.int .u8 (at8 l 4)) ∧ w.cell? ⟨b, o + 5, none⟩ = some (.int .u8 (at8 l 5)) ∧ w.cell? ⟨b, o + 6, none⟩ = some (.int .u8 (at8 l 6)) ∧ w.cell? ⟨b, o + 7, none⟩ = some (.int .u8 (at8 l 7)) :=
 ⟨h 0 (by omega), h 1 (by omega), h 2 (by omega), h 3 (by omega), h 4 (by omega), h 5 (by omega), h 6 (by omega), h 7 (by omega)⟩

/-- The cells of rows, one after the other. -/
def bytes8 (r : List Int) : List Value := [.int .u8 (at8 r 0), .int .u8 (at8 r 1), .int .u8 (at8 r 2), .int .u8 (at8 r 3), .int .u8 (at8 r 4), .int .u8 (at8 r 5), .int .u8 (at8 r 6), .int .u8 (at8 r 7)]
def flat8 (rs : List (List Int)) : List Value := rs.flatMap bytes8

theorem bytes8_len (r : List Int) : (bytes8 r).length = 8 := rfl

theorem bytes8_get (r : List Int) (i : Nat) (hi : i < 8) : (bytes8 r)[i]? = some (.int .u8 (at8 r i)) := by
 have : i = 0 ∨ i = 1 ∨ i = 2 ∨ i = 3 ∨ i = 4 ∨ i = 5 ∨ i = 6 ∨ i = 7 := by omega
 rcases this with rfl | rfl | rfl | rfl | rfl | rfl | rfl | rfl <;> rfl

theorem flat8_len (rs : List (List Int)) : (flat8 rs).length = rs.length * 8 := by
 unfold flat8
 induction rs with
 | nil => rfl
 | cons r rs ih => rw [List.flatMap_cons, List.length_append, ih, bytes8_len, List.length_cons]; omega

theorem flat8_get (rs : List (List Int)) (j i : Nat) (hj : j < rs.length) (hi : i < 8) : (flat8 rs)[j * 8 + i]? = some (.int .u8 (at8 (rowAt rs j) i)) := by
 unfold flat8
 induction rs generalizing j with
 | nil => simp at hj
 | cons r rs ih =>
  rw [List.flatMap_cons]
  match j with
  | 0 =>
   rw [List.getElem?_append_left (by rw [bytes8_len]; omega), Nat.zero_mul, Nat.zero_add]
   exact bytes8_get r i hi
  | j + 1 =>
   rw [List.getElem?_append_right (by rw [bytes8_len]; omega), bytes8_len, show (j + 1) * 8 + i - 8 = j * 8 + i by omega]
   have := ih j (by simpa using hj)
   rw [this]
   rfl

theorem flat8_ext {rs : List (List Int)} {xs : List Value} (hl : xs.length = rs.length * 8) (h : ∀ j i, j < rs.length → i < 8 → xs[j * 8 + i]? = some (.int .u8 (at8 (rowAt rs j) i))) : xs = flat8 rs := by
 apply List.ext_getElem?
 intro m
 by_cases hm : m < rs.length * 8
 ·have h1 := h (m / 8) (m % 8) (by omega) (by omega)
  have h2 := flat8_get rs (m / 8) (m % 8) (by omega) (by omega)
  rw [show m / 8 * 8 + m % 8 = m by omega] at h1 h2
  rw [h1, h2]
 ·rw [List.getElem?_eq_none (by omega), List.getElem?_eq_none (by rw [flat8_len]; omega)]

theorem rowAt_set (rs : List (List Int)) (k j : Nat) (r : List Int) (hk : k < rs.length) : rowAt (rs.set k r) j = if k = j then r else rowAt rs j := by
 unfold rowAt
 by_cases h : k = j
 ·subst h; simp [List.getD, hk]
 ·simp [List.getD, h]

/-- One row is exchanged, cell by cell. -/
theorem flat8_set (rs : List (List Int)) (k : Nat) (r : List Int) (hk : k < rs.length) :
  (((((((((flat8 rs).set (k * 8) (.int .u8 (at8 r 0))).set (k * 8 + 1) (.int .u8 (at8 r 1))).set (k * 8 + 2) (.int .u8 (at8 r 2))).set (k * 8 + 3) (.int .u8 (at8 r 3))).set (k * 8 + 4) (.int .u8 (at8 r 4))).set (k * 8 + 5) (.int .u8 (at8 r 5))).set (k * 8 + 6) (.int .u8 (at8 r 6))).set (k * 8 + 7) (.int .u8 (at8 r 7))) = flat8 (rs.set k r) := by
 refine flat8_ext (by simp only [List.length_set]; exact flat8_len rs) fun j i hj hi => ?_
 rw [List.length_set] at hj
 rw [rowAt_set rs k j r hk]
 have hL := flat8_len rs
 simp only [List.getElem?_set, List.length_set, hL]
 by_cases e : k = j
 ·subst e
  rw [if_pos rfl]
  have : i = 0 ∨ i = 1 ∨ i = 2 ∨ i = 3 ∨ i = 4 ∨ i = 5 ∨ i = 6 ∨ i = 7 := by omega
  rcases this with rfl | rfl | rfl | rfl | rfl | rfl | rfl | rfl <;> simp <;> omega
 ·rw [if_neg e]
  have e0 : ¬ k * 8 = j * 8 + i := by omega
  have e1 : ¬ k * 8 + 1 = j * 8 + i := by omega
  have e2 : ¬ k * 8 + 2 = j * 8 + i := by omega
  have e3 : ¬ k * 8 + 3 = j * 8 + i := by omega
  have e4 : ¬ k * 8 + 4 = j * 8 + i := by omega
  have e5 : ¬ k * 8 + 5 = j * 8 + i := by omega
  have e6 : ¬ k * 8 + 6 = j * 8 + i := by omega
  have e7 : ¬ k * 8 + 7 = j * 8 + i := by omega
  rw [if_neg e7, if_neg e6, if_neg e5, if_neg e4, if_neg e3, if_neg e2, if_neg e1, if_neg e0]
  exact flat8_get rs j i hj hi

/-- The slice is nil, or leads to a row of the call's own in a block from B on, and holds the rows. -/
def OwnA (B : Nat) (w : World) (a : Option Addr) (n cap : Nat) (rs : List (List Int)) : Prop :=
 Rows8 rs ∧ w.ownsRow B 53 8 (.slice a n cap) n (flat8 rs)

theorem OwnA.rows {B : Nat} {w : World} {a : Option Addr} {n cap : Nat} {rs : List (List Int)} (h : OwnA B w a n cap rs) : Rows8 rs := h.1
theorem OwnA.len {B : Nat} {w : World} {a : Option Addr} {n cap : Nat} {rs : List (List Int)} (h : OwnA B w a n cap rs) : rs.length = n := by
 have := h.2.1
 rw [flat8_len] at this
 omega

theorem OwnA.nil (B : Nat) (w : World) : OwnA B w none 0 0 [] := ⟨(fun _ hr => absurd hr List.not_mem_nil), World.ownsRow_nil _ _ _ _⟩

theorem OwnA.heap {B : Nat} {w w' : World} {a : Option Addr} {n cap : Nat} {rs : List (List Int)} (h : OwnA B w a n cap rs) (hb : ∀ k, k < w.heap.size → w'.heap[k]? = w.heap[k]?) : OwnA B w' a n cap rs := by
 obtain ⟨h0, h1, h2⟩ := h
 refine ⟨h0, h1, ?_⟩
 rcases h2 with h2 | ⟨g, c, cur, hv, hg, hh, r⟩
 ·exact .inl h2
 ·exact .inr ⟨g, c, cur, hv, hg, by rw [hb g (by obtain ⟨hlt, _⟩ := Array.getElem?_eq_some_iff.1 hh; exact hlt)]; exact hh, r⟩

theorem OwnA.below {B : Nat} {w w' : World} {a : Option Addr} {n cap : Nat} {rs : List (List Int)} (h : OwnA B w a n cap rs) (hb : Below w.heap.size w w') : OwnA B w' a n cap rs := h.heap hb.block
theorem OwnA.alloc {B : Nat} {w : World} {a : Option Addr} {n cap : Nat} {rs : List (List Int)} (h : OwnA B w a n cap rs) (o : Obj) : OwnA B (w.alloc o) a n cap rs := h.below ((Below.refl _ _).alloc (Nat.le_refl _) o)
theorem OwnA.drew {B : Nat} {w : World} {a : Option Addr} {n cap : Nat} {rs : List (List Int)} (h : OwnA B w a n cap rs) : OwnA B w.drew a n cap rs := h

theorem OwnA.mono {B B' : Nat} {w : World} {a : Option Addr} {n cap : Nat} {rs : List (List Int)} (h : OwnA B w a n cap rs) (hB : B' ≤ B) : OwnA B' w a n cap rs := by
 obtain ⟨h0, h1, h2⟩ := h
 refine ⟨h0, h1, ?_⟩
 rcases h2 with h2 | ⟨g, c, cur, hv, hg, r⟩
 ·exact .inl h2
 ·exact .inr ⟨g, c, cur, hv, by omega, r⟩

theorem OwnA.setCell_below {B : Nat} {w : World} {a : Option Addr} {n cap : Nat} {rs : List (List Int)} (h : OwnA B w a n cap rs) {p : Addr} (hp : p.block < B) (u : Value) : OwnA B (w.setCell p u) a n cap rs :=
 ⟨h.1, ownsRow_setCell_below h.2 hp u⟩

theorem OwnA.cellAt {B : Nat} {w : World} {g n cap : Nat} {rs : List (List Int)} (h : OwnA B w (some ⟨g, 0, none⟩) n cap rs) (j : Nat) (hj : j < n) : Cells8 w g (j * 8) (rowAt rs j) := by
 intro i hi
 have hl := h.len
 rw [World.ownsRow.cellAt h.2 (j * 8 + i) (by omega)]
 exact flat8_get rs j i (by omega) hi

theorem OwnA.frozenAt {B : Nat} {w : World} {g n cap : Nat} {rs : List (List Int)} (h : OwnA B w (some ⟨g, 0, none⟩) n cap rs) (k : Nat) : w.frozen? ⟨g, k, none⟩ = false := World.ownsRow.frozenAt h.2 k

/-- The block of a slice that is the call's own. -/
theorem OwnA.block {B : Nat} {w : World} {a : Option Addr} {n cap : Nat} {rs : List (List Int)} (h : OwnA B w a n cap rs) (hn : 0 < n) : ∃ g, a = some ⟨g, 0, none⟩ ∧ B ≤ g ∧ g < w.heap.size := by
 rcases h.2.2 with ⟨hv, h0⟩ | ⟨g, c, cur, hv, hg, hh, r⟩
 ·omega
 ·simp only [Value.slice.injEq] at hv
  obtain ⟨rfl, _, rfl⟩ := hv
  exact ⟨g, rfl, hg, by obtain ⟨hlt, _⟩ := Array.getElem?_eq_some_iff.1 hh; exact hlt⟩

theorem OwnA.reads {B : Nat} {w : World} {a : Option Addr} {n cap : Nat} {rs : List (List Int)} (h : OwnA B w a n cap rs) : ReadsA w a n rs := by
 refine ⟨h.len, h.1, ?_⟩
 rcases Nat.eq_zero_or_pos n with h0 | h0
 ·exact .inl h0
 ·obtain ⟨g, rfl, _, _⟩ := h.block h0
  refine .inr ⟨g, 0, rfl, fun j hj i hi => ?_⟩
  rw [Nat.zero_add]
  exact h.cellAt j hj i hi

theorem OwnA.lo {B : Nat} {w : World} {a : Option Addr} {n cap : Nat} {rs : List (List Int)} (h : OwnA B w a n cap rs) : ∀ x, a = some x → B ≤ x.block ∧ x.block < w.heap.size := by
 intro x hx
 rcases h.2.2 with ⟨hv, h0⟩ | ⟨g, c, cur, hv, hg, hh, r⟩
 ·simp only [Value.slice.injEq] at hv
  rw [hv.1] at hx
  cases hx
 ·simp only [Value.slice.injEq] at hv
  rw [hv.1] at hx
  cases hx
  exact ⟨hg, by obtain ⟨hlt, _⟩ := Array.getElem?_eq_some_iff.1 hh; exact hlt⟩

theorem Rows8.set {rs : List (List Int)} (h : Rows8 rs) (k : Nat) (r : List Int) (hr : r.length = 8) : Rows8 (rs.set k r) := by
 intro x hx
 rcases List.mem_or_eq_of_mem_set hx with hx | rfl
 ·exact h x hx
 ·exact hr

/-- A row is stored at the place k of a slice that is the call's own. -/
theorem OwnA.store {B : Nat} {w : World} {g n cap : Nat} {rs : List (List Int)} (h : OwnA B w (some ⟨g, 0, none⟩) n cap rs) (k : Nat) (hk : k < n) (r : List Int) (hr : r.length = 8) :
  OwnA B ((((((((w.setCell ⟨g, k * 8, none⟩ (.int .u8 (at8 r 0))).setCell ⟨g, k * 8 + 1, none⟩ (.int .u8 (at8 r 1))).setCell ⟨g, k * 8 + 2, none⟩ (.int .u8 (at8 r 2))).setCell ⟨g, k * 8 + 3, none⟩ (.int .u8 (at8 r 3))).setCell ⟨g, k * 8 + 4, none⟩ (.int .u8 (at8 r 4))).setCell ⟨g, k * 8 + 5, none⟩ (.int .u8 (at8 r 5))).setCell ⟨g, k * 8 + 6, none⟩ (.int .u8 (at8 r 6))).setCell ⟨g, k * 8 + 7, none⟩ (.int .u8 (at8 r 7))) (some ⟨g, 0, none⟩) n cap (rs.set k r) := by
 refine ⟨h.1.set k r hr, ?_⟩
 rw [← flat8_set rs k r (by rw [h.len]; exact hk)]
 exact (World.ownsRow.stored (World.ownsRow.stored (World.ownsRow.stored (World.ownsRow.stored (World.ownsRow.stored (World.ownsRow.stored (World.ownsRow.stored (World.ownsRow.stored h.2 _ _).1 _ _).1 _ _).1 _ _).1 _ _).1 _ _).1 _ _).1 _ _).1

/-- One byte is stored. -/
theorem OwnA.store1 {B : Nat} {w : World} {g n cap : Nat} {rs : List (List Int)} (h : OwnA B w (some ⟨g, 0, none⟩) n cap rs) (k : Nat) (hk : k < n) (i : Nat) (hi : i < 8) (x : Int) :
  OwnA B (w.setCell ⟨g, k * 8 + i, none⟩ (.int .u8 x)) (some ⟨g, 0, none⟩) n cap (rs.set k ((rowAt rs k).set i x)) := by
 have hl := h.len
 have h8 := h.1.at (j := k) (by omega)
 refine ⟨h.1.set k _ (by rw [List.length_set]; exact h8), ?_⟩
 have := (World.ownsRow.stored h.2 (k * 8 + i) (.int .u8 x)).1
 rw [show flat8 (rs.set k ((rowAt rs k).set i x)) = (flat8 rs).set (k * 8 + i) (.int .u8 x) from ?_]
 ·exact this
 ·refine (flat8_ext (by rw [List.length_set, flat8_len, List.length_set]) fun j p hj hp => ?_).symm
  rw [List.length_set] at hj
  rw [rowAt_set rs k j _ (by omega), List.getElem?_set, flat8_len]
  by_cases e : k = j
  ·subst e
   rw [if_pos rfl, at8_set _ _ _ _ (by rw [h8]; exact hi)]
   by_cases e2 : i = p
   ·subst e2
    rw [if_pos rfl, if_pos rfl, if_pos (by omega)]
   ·rw [if_neg (by omega), if_neg e2]
    exact flat8_get rs k p hj hp
  ·rw [if_neg e, if_neg (by omega)]
   exact flat8_get rs j p hj hp

theorem Rows8.replicate (n : Nat) : Rows8 (List.replicate n zeros8) := by
 intro r hr
 rw [(List.mem_replicate.1 hr).2]
 rfl

/-- A slice that was made. -/
theorem own_madeA {B : Nat} {w : World} {n : Nat} (h : w.ownsRow B 53 8 (.slice (some ⟨B, 0, none⟩) n n) n (madeCells #[Value.int .u8 0, .int .u8 0, .int .u8 0, .int .u8 0, .int .u8 0, .int .u8 0, .int .u8 0, .int .u8 0] (n * 8)).toList) :
  OwnA B w (some ⟨B, 0, none⟩) n n (List.replicate n zeros8) := by
 refine ⟨Rows8.replicate n, ?_⟩
 rw [← flat8_ext (rs := List.replicate n zeros8) (xs := (madeCells #[Value.int .u8 0, .int .u8 0, .int .u8 0, .int .u8 0, .int .u8 0, .int .u8 0, .int .u8 0, .int .u8 0] (n * 8)).toList) (by simp [madeCells]) ?_]
 ·exact h
 ·intro j i hj hi
  rw [List.length_replicate] at hj
  have e1 : rowAt (List.replicate n zeros8) j = zeros8 := by unfold rowAt; simp [List.getD, hj]
  have e2 : at8 zeros8 i = 0 := by
   have : i = 0 ∨ i = 1 ∨ i = 2 ∨ i = 3 ∨ i = 4 ∨ i = 5 ∨ i = 6 ∨ i = 7 := by omega
   rcases this with rfl | rfl | rfl | rfl | rfl | rfl | rfl | rfl <;> rfl
  rw [e1, e2]
  have hm : j * 8 + i < n * 8 := by omega
  have e3 : (j * 8 + i) % 8 = i := by omega
  have : i = 0 ∨ i = 1 ∨ i = 2 ∨ i = 3 ∨ i = 4 ∨ i = 5 ∨ i = 6 ∨ i = 7 := by omega
  simp only [madeCells, Array.toList_map, Array.toList_range, List.getElem?_map, List.getElem?_range hm, Option.map_some, List.size_toArray, List.length_cons, List.length_nil]
  rw [e3]
  rcases this with rfl | rfl | rfl | rfl | rfl | rfl | rfl | rfl <;> rfl

end Go.Proofs.Ytpkhddndapcpjaa

