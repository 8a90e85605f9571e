/- slices.Reverse over rows: memory, and the contract. -/
import Derived.Test.YthpmehhfhngnbaaRnINof
namespace Go.Proofs.Ythpmehhfhngnbaa
open Go.RowKit Go.ChangeShapes

/-- n rows lie in the block g from off on. -/
def RowsAt (w : World) (g off n : Nat) (rs : List (List Int)) : Prop :=
 Rows8 rs ∧ rs.length = n ∧ g < w.heap.size ∧ (∀ j, j < n → Cells8 w g (off + j * 8) (rowAt rs j)) ∧ ∀ k, w.frozen? ⟨g, k, none⟩ = false

theorem Cells8.set1 {w : World} {g o : Nat} {l : List Int} (h : Cells8 w g o l) (hl : l.length = 8) (k : Nat) (hk : k < 8) (x : Int) : Cells8 (w.setCell ⟨g, o + k, none⟩ (.int .u8 x)) g o (l.set k x) := by
 intro i hi
 by_cases he : i = k
 ·subst he
  rw [World.cell?_setCell_same _ _ _ (h i hi)]
  simp [at8, List.getD, hl, hi]
 ·refine (World.cell?_setCell_other _ _ _ _ (fun e => by rw [Addr.mk.injEq] at e; omega)).trans ((h i hi).trans ?_)
  simp [at8, List.getD, Ne.symm he]

theorem Cells8.fill {w : World} {g o : Nat} {l : List Int} (h : Cells8 w g o l) (hl : l.length = 8) (r : List Int) :
  Cells8 ((((((((w.setCell ⟨g, o, none⟩ (.int .u8 (at8 r 0))).setCell ⟨g, o + 1, none⟩ (.int .u8 (at8 r 1))).setCell ⟨g, o + 2, none⟩ (.int .u8 (at8 r 2))).setCell ⟨g, o + 3, none⟩ (.int .u8 (at8 r 3))).setCell ⟨g, o + 4, none⟩ (.int .u8 (at8 r 4))).setCell ⟨g, o + 5, none⟩ (.int .u8 (at8 r 5))).setCell ⟨g, o + 6, none⟩ (.int .u8 (at8 r 6))).setCell ⟨g, o + 7, none⟩ (.int .u8 (at8 r 7))) g o r := by
 have h0 := h.set1 hl 0 (by omega) (at8 r 0)
 have h1 := h0.set1 (by simp [hl]) 1 (by omega) (at8 r 1)
 have h2 := h1.set1 (by simp [hl]) 2 (by omega) (at8 r 2)
 have h3 := h2.set1 (by simp [hl]) 3 (by omega) (at8 r 3)
 have h4 := h3.set1 (by simp [hl]) 4 (by omega) (at8 r 4)
 have h5 := h4.set1 (by simp [hl]) 5 (by omega) (at8 r 5)
 have h6 := h5.set1 (by simp [hl]) 6 (by omega) (at8 r 6)
 have h7 := h6.set1 (by simp [hl]) 7 (by omega) (at8 r 7)
 intro i hi
 refine (h7 i hi).trans ?_
 congr 2
 rcases (by omega : i = 0 ∨ i = 1 ∨ i = 2 ∨ i = 3 ∨ i = 4 ∨ i = 5 ∨ i = 6 ∨ i = 7) with rfl | rfl | rfl | rfl | rfl | rfl | rfl | rfl <;> simp [at8, List.getD, hl]

theorem Cells8.apart8 {w : World} {g o o2 : Nat} {l : List Int} (h : Cells8 w g o l) (hne : o + 8 ≤ o2 ∨ o2 + 8 ≤ o) (r : List Int) :
  Cells8 ((((((((w.setCell ⟨g, o2, none⟩ (.int .u8 (at8 r 0))).setCell ⟨g, o2 + 1, none⟩ (.int .u8 (at8 r 1))).setCell ⟨g, o2 + 2, none⟩ (.int .u8 (at8 r 2))).setCell ⟨g, o2 + 3, none⟩ (.int .u8 (at8 r 3))).setCell ⟨g, o2 + 4, none⟩ (.int .u8 (at8 r 4))).setCell ⟨g, o2 + 5, none⟩ (.int .u8 (at8 r 5))).setCell ⟨g, o2 + 6, none⟩ (.int .u8 (at8 r 6))).setCell ⟨g, o2 + 7, none⟩ (.int .u8 (at8 r 7))) g o l := by
 intro i hi
 refine (World.cell?_setCell_other _ _ _ _ (fun e => by rw [Addr.mk.injEq] at e; omega)).trans ?_
 refine (World.cell?_setCell_other _ _ _ _ (fun e => by rw [Addr.mk.injEq] at e; omega)).trans ?_
 refine (World.cell?_setCell_other _ _ _ _ (fun e => by rw [Addr.mk.injEq] at e; omega)).trans ?_
 refine (World.cell?_setCell_other _ _ _ _ (fun e => by rw [Addr.mk.injEq] at e; omega)).trans ?_
 refine (World.cell?_setCell_other _ _ _ _ (fun e => by rw [Addr.mk.injEq] at e; omega)).trans ?_
 refine (World.cell?_setCell_other _ _ _ _ (fun e => by rw [Addr.mk.injEq] at e; omega)).trans ?_
 refine (World.cell?_setCell_other _ _ _ _ (fun e => by rw [Addr.mk.injEq] at e; omega)).trans ?_
 refine (World.cell?_setCell_other _ _ _ _ (fun e => by rw [Addr.mk.injEq] at e; omega)).trans ?_
 exact h i hi

theorem RowsAt.store {w : World} {g off n : Nat} {rs : List (List Int)} (h : RowsAt w g off n rs) (k : Nat) (hk : k < n) (r : List Int) (hr : r.length = 8) :
  RowsAt ((((((((w.setCell ⟨g, off + k * 8, none⟩ (.int .u8 (at8 r 0))).setCell ⟨g, off + k * 8 + 1, none⟩ (.int .u8 (at8 r 1))).setCell ⟨g, off + k * 8 + 2, none⟩ (.int .u8 (at8 r 2))).setCell ⟨g, off + k * 8 + 3, none⟩ (.int .u8 (at8 r 3))).setCell ⟨g, off + k * 8 + 4, none⟩ (.int .u8 (at8 r 4))).setCell ⟨g, off + k * 8 + 5, none⟩ (.int .u8 (at8 r 5))).setCell ⟨g, off + k * 8 + 6, none⟩ (.int .u8 (at8 r 6))).setCell ⟨g, off + k * 8 + 7, none⟩ (.int .u8 (at8 r 7))) g off n (rs.set k r) := by
 obtain ⟨h1, h2, h3, h4, h5⟩ := h
 refine ⟨h1.set k r hr, by rw [List.length_set]; exact h2, by simpa [World.setCell] using h3, fun j hj => ?_, fun q => by simpa using h5 q⟩
 by_cases he : j = k
 ·subst he
  have := (h4 j hj).fill (h1.at (j := j) (by omega)) r
  rw [show rowAt (rs.set j r) j = r by simp [rowAt, List.getD, h2, hj]]
  exact this
 ·rw [show rowAt (rs.set k r) j = rowAt rs j by simp [rowAt, List.getD, Ne.symm he]]
  exact (h4 j hj).apart8 (by omega) r

/-- Only the block g is other. -/
def But (g : Nat) (w w' : World) : Prop := Wrote g (g + 1) w w'
theorem But.refl (g : Nat) (w : World) : But g w w := ⟨rfl, rfl, rfl, Nat.le_refl _, fun _ _ _ => rfl⟩
theorem But.set {g : Nat} {w w' : World} (h : But g w w') (o : Nat) (v : Value) : But g w (w'.setCell ⟨g, o, none⟩ v) :=
 ⟨h.os, h.tape, h.output, by have := h.size; simpa [World.setCell] using this, fun k hk hd => (Below.heap_setCell _ _ _ _ (by show k ≠ g; omega)).trans (h.block k hk hd)⟩
theorem But.set8 {g : Nat} {w w' : World} (h : But g w w') (o : Nat) (v0 v1 v2 v3 v4 v5 v6 v7 : Value) : But g w ((((((((w'.setCell ⟨g, o, none⟩ v0).setCell ⟨g, o + 1, none⟩ v1).setCell ⟨g, o + 2, none⟩ v2).setCell ⟨g, o + 3, none⟩ v3).setCell ⟨g, o + 4, none⟩ v4).setCell ⟨g, o + 5, none⟩ v5).setCell ⟨g, o + 6, none⟩ v6).setCell ⟨g, o + 7, none⟩ v7) :=
 (((((((h.set _ _).set _ _).set _ _).set _ _).set _ _).set _ _).set _ _).set _ _

theorem RowsAt.drew {w : World} {g off n : Nat} {rs : List (List Int)} (h : RowsAt w g off n rs) : RowsAt w.drew g off n rs := h
theorem But.drew {g : Nat} {w w' : World} (h : But g w w') : But g w w'.drew := ⟨h.os, h.tape, h.output, h.size, h.block⟩

theorem rev_of {rs cur : List (List Int)} {n t : Nat} (h1 : rs.length = n) (h2 : cur.length = n) (ht : n ≤ t + t + 1) (h : ∀ j, j < n → rowAt cur j = if j < t ∨ n - 1 - t < j then rowAt rs (n - 1 - j) else rowAt rs j) : cur = rs.reverse := by
 refine List.ext_getElem (by simp [h1, h2]) fun j hj hj2 => ?_
 have e := h j (by omega)
 have e1 : cur[j] = rowAt cur j := by simp [rowAt, List.getD, List.getElem?_eq_getElem hj]
 have e2 : rs.reverse[j] = rowAt rs (n - 1 - j) := by
  rw [List.getElem_reverse]
  simp [rowAt, List.getD, h1, List.getElem?_eq_getElem (show n - 1 - j < rs.length by omega)]
 rw [e1, e2, e]
 by_cases hc : j < t ∨ n - 1 - t < j
 ·rw [if_pos hc]
 ·rw [if_neg hc, show n - 1 - j = j by omega]

theorem rev_more {rs cur : List (List Int)} {n t : Nat} (h2 : cur.length = n) (ht : t + t + 1 < n) (h : ∀ j, j < n → rowAt cur j = if j < t ∨ n - 1 - t < j then rowAt rs (n - 1 - j) else rowAt rs j) :
  ∀ j, j < n → rowAt ((cur.set t (rowAt cur (n - 1 - t))).set (n - 1 - t) (rowAt cur t)) j = if j < t + 1 ∨ n - 1 - (t + 1) < j then rowAt rs (n - 1 - j) else rowAt rs j := by
 intro j hj
 have et : rowAt cur t = rowAt rs t := by rw [h t (by omega), if_neg (by omega)]
 have en : rowAt cur (n - 1 - t) = rowAt rs (n - 1 - t) := by rw [h _ (by omega), if_neg (by omega)]
 rw [et, en]
 by_cases h3 : j = n - 1 - t
 ·subst h3
  rw [if_pos (by omega), show n - 1 - (n - 1 - t) = t by omega]
  simp [rowAt, List.getD, h2, show n - 1 - t < n by omega]
 ·by_cases h4 : j = t
  ·subst h4
   rw [if_pos (by omega)]
   simp [rowAt, List.getD, Ne.symm h3, h2, show j < n by omega]
  ·rw [show rowAt ((cur.set t (rowAt rs (n - 1 - t))).set (n - 1 - t) (rowAt rs t)) j = rowAt cur j by simp [rowAt, List.getD, Ne.symm h3, Ne.symm h4], h j hj]
   by_cases hc : j < t ∨ n - 1 - t < j
   ·rw [if_pos hc, if_pos (by omega)]
   ·rw [if_neg hc, if_neg (by omega)]

end Go.Proofs.Ythpmehhfhngnbaa

