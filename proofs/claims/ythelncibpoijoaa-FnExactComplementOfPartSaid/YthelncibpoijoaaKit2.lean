/- Predicates on memory, continued: local structs of two cells; slices in an interval of blocks; calls that write such an interval alone. No function of the program is spoken of. -/
import Derived.Test.YthelncibpoijoaaKit
namespace Go.Proofs.Ythelncibpoijoaa
open Go.RowKit

/-- The block g holds the two cells u and v. -/
def At2 (w : World) (g : Nat) (u v : Value) : Prop :=
  g < w.heap.size ∧ w.cell? ⟨g, 0, none⟩ = some u ∧ w.cell? ⟨g, 1, none⟩ = some v ∧ w.frozen? ⟨g, 0, none⟩ = false ∧ w.frozen? ⟨g, 1, none⟩ = false

/-- From w to w' nothing has turned but new blocks and the blocks lo .. hi - 1. -/
structure Wrote (lo hi : Nat) (w w' : World) : Prop where
  os : w'.os = w.os
  tape : w'.tape = w.tape
  output : w'.output = w.output
  size : w.heap.size ≤ w'.heap.size
  block : ∀ k, k < w.heap.size → (k < lo ∨ hi ≤ k) → w'.heap[k]? = w.heap[k]?

/-- The slice is the call's own, in a block from lo to hi - 1. -/
def OwnIn (lo hi : Nat) (w : World) (a : Option Addr) (n cap : Nat) (xs : List Int) : Prop := Own lo w a n cap xs ∧ ∀ x, a = some x → x.block < hi

/-- The slice reads as the numbers xs, out of a block from lo to hi - 1. -/
def ReadsIn (lo hi : Nat) (w : World) (a : Option Addr) (n : Nat) (xs : List Int) : Prop := Reads w a n xs ∧ (n = 0 ∨ ∃ b off, a = some ⟨b, off, none⟩ ∧ lo ≤ b ∧ b < hi)

theorem below_wrote {lo hi : Nat} {w w' : World} (h : Below w.heap.size w w') : Wrote lo hi w w' := ⟨h.os, h.tape, h.output, h.size, fun k hk _ => h.block k hk⟩

theorem below_write {B lo hi : Nat} {w0 w w' : World} (h : Below B w0 w) (k : Wrote lo hi w w') (hB : B ≤ lo) (hs : B ≤ w.heap.size) : Below B w0 w' :=
  h.trans ⟨k.os, k.tape, k.output, k.size, fun j hj => k.block j (by omega) (by omega)⟩

theorem below_go {B : Nat} {w0 w w' : World} (h : Below B w0 w) (k : Below w.heap.size w w') (hs : B ≤ w.heap.size) : Below B w0 w' := h.trans (k.mono hs)

theorem At2.new (w : World) (u v : Value) (t : TypeId) : At2 (w.alloc (.cells #[u, v] t)) w.heap.size u v := ⟨by simp, by simp, by simp, by simp, by simp⟩

theorem At2.place (w : World) (u v : Value) (t : TypeId) (g : Nat) (hg : w.heap.size = g) : At2 (w.alloc (.cells #[u, v] t)) g u v := by
  subst hg
  exact At2.new w u v t

theorem At2.heap {w w' : World} {g : Nat} {u v : Value} (h : At2 w g u v) (hs : w.heap.size ≤ w'.heap.size) (hb : w'.heap[g]? = w.heap[g]?) : At2 w' g u v :=
  ⟨Nat.lt_of_lt_of_le h.1 hs, (World.cell?_of_block (w := w) (a := ⟨g, 0, none⟩) hb).trans h.2.1, (World.cell?_of_block (w := w) (a := ⟨g, 1, none⟩) hb).trans h.2.2.1,
    (World.frozen?_of_block (w := w) (a := ⟨g, 0, none⟩) hb).trans h.2.2.2.1, (World.frozen?_of_block (w := w) (a := ⟨g, 1, none⟩) hb).trans h.2.2.2.2⟩

/-- A store into another block. -/
theorem At2.setCell {w : World} {g : Nat} {u v : Value} (h : At2 w g u v) {p : Addr} (hp : p.block ≠ g) (x : Value) : At2 (w.setCell p x) g u v :=
  h.heap (by simp [World.setCell]) (Below.heap_setCell _ _ _ _ (fun e => hp e.symm))

theorem At2.below {w w' : World} {g : Nat} {u v : Value} (h : At2 w g u v) (k : Below w.heap.size w w') : At2 w' g u v := h.heap k.size (k.block g h.1)
theorem At2.alloc {w : World} {g : Nat} {u v : Value} (h : At2 w g u v) (o : Obj) : At2 (w.alloc o) g u v := h.below ((Below.refl _ _).alloc (Nat.le_refl _) o)
theorem At2.drew {w : World} {g : Nat} {u v : Value} (h : At2 w g u v) : At2 w.drew g u v := h
theorem At2.wrote {lo hi : Nat} {w w' : World} {g : Nat} {u v : Value} (h : At2 w g u v) (k : Wrote lo hi w w') (hg : g < lo ∨ hi ≤ g) : At2 w' g u v := h.heap k.size (k.block g h.1 hg)

theorem At2.store0 {w : World} {g : Nat} {u v : Value} (h : At2 w g u v) (x : Value) : At2 (w.setCell ⟨g, 0, none⟩ x) g x v :=
  ⟨by simpa [World.setCell] using h.1, World.cell?_setCell_same _ _ _ h.2.1, (World.cell?_setCell_other _ _ _ _ (by simp)).trans h.2.2.1, by simpa using h.2.2.2.1, by simpa using h.2.2.2.2⟩
theorem At2.store1 {w : World} {g : Nat} {u v : Value} (h : At2 w g u v) (x : Value) : At2 (w.setCell ⟨g, 1, none⟩ x) g u x :=
  ⟨by simpa [World.setCell] using h.1, (World.cell?_setCell_other _ _ _ _ (by simp)).trans h.2.1, World.cell?_setCell_same _ _ _ h.2.2.1, by simpa using h.2.2.2.1, by simpa using h.2.2.2.2⟩
theorem At2.fill {w : World} {g : Nat} {u v : Value} (h : At2 w g u v) (x y : Value) : At2 ((w.setCell ⟨g, 0, none⟩ x).setCell ⟨g, 1, none⟩ y) g x y := (h.store0 x).store1 y

theorem OwnIn.below {lo hi : Nat} {w w' : World} {a : Option Addr} {n cap : Nat} {xs : List Int} (h : OwnIn lo hi w a n cap xs) (k : Below w.heap.size w w') : OwnIn lo hi w' a n cap xs := ⟨h.1.below k, h.2⟩
theorem OwnIn.alloc {lo hi : Nat} {w : World} {a : Option Addr} {n cap : Nat} {xs : List Int} (h : OwnIn lo hi w a n cap xs) (o : Obj) : OwnIn lo hi (w.alloc o) a n cap xs := ⟨h.1.alloc o, h.2⟩
theorem OwnIn.drew {lo hi : Nat} {w : World} {a : Option Addr} {n cap : Nat} {xs : List Int} (h : OwnIn lo hi w a n cap xs) : OwnIn lo hi w.drew a n cap xs := h
theorem OwnIn.reads {lo hi : Nat} {w : World} {a : Option Addr} {n cap : Nat} {xs : List Int} (h : OwnIn lo hi w a n cap xs) : Reads w a n xs := h.1.reads
theorem OwnIn.len {lo hi : Nat} {w : World} {a : Option Addr} {n cap : Nat} {xs : List Int} (h : OwnIn lo hi w a n cap xs) : xs.length = n := h.1.len

theorem Own.lo {B : Nat} {w : World} {a : Option Addr} {n cap : Nat} {xs : List Int} (h : Own B w a n cap xs) : ∀ x, a = some x → B ≤ x.block ∧ x.block < w.heap.size := by
  intro x hx
  rcases h.2 with ⟨hv, h0⟩ | ⟨g, c, cur, hv, hg, hh, r⟩
  · simp only [Value.slice.injEq] at hv
    rw [hv.1] at hx
    cases hx
  · simp only [Value.slice.injEq] at hv
    rw [hv.1] at hx
    cases hx
    exact ⟨hg, by obtain ⟨hlt, _⟩ := Array.getElem?_eq_some_iff.1 hh; exact hlt⟩

/-- What a call has made lies between the heap's sizes before and behind the call. -/
theorem Own.within {B : Nat} {w : World} {a : Option Addr} {n cap : Nat} {xs : List Int} (h : Own B w a n cap xs) : OwnIn B w.heap.size w a n cap xs := ⟨h, fun x hx => (h.lo x hx).2⟩

theorem OwnIn.wrote {l r lo hi : Nat} {w w' : World} {a : Option Addr} {n cap : Nat} {xs : List Int} (h : OwnIn l r w a n cap xs) (k : Wrote lo hi w w') (hd : r ≤ lo ∨ hi ≤ l) : OwnIn l r w' a n cap xs := by
  refine ⟨⟨h.1.1, ?_⟩, h.2⟩
  rcases h.1.2 with h2 | ⟨g, c, cur, hv, hg, hh, rr⟩
  · exact .inl h2
  · have hgr : g < r := by
      simp only [Value.slice.injEq] at hv
      exact h.2 _ hv.1
    exact .inr ⟨g, c, cur, hv, hg, by rw [k.block g (by obtain ⟨hlt, _⟩ := Array.getElem?_eq_some_iff.1 hh; exact hlt) (by omega)]; exact hh, rr⟩

/-- A call that writes one row of the call's own writes its interval alone. -/
theorem OwnIn.writes {lo hi : Nat} {w w' : World} {a : Option Addr} {n cap : Nat} {xs : List Int} (h : OwnIn lo hi w a n cap xs) (k : w.grownBy w' (a.map (·.block))) : Wrote lo hi w w' := by
  refine ⟨k.os, k.tape, k.output, k.size, fun j hj hd => k.block j hj fun e => ?_⟩
  cases a with
  | none => cases e
  | some x =>
    simp only [Option.map_some, Option.some.injEq] at e
    have h1 := (h.1.lo x rfl).1
    have h2 := h.2 x rfl
    omega

theorem ReadsIn.below {lo hi : Nat} {w w' : World} {a : Option Addr} {n : Nat} {xs : List Int} (h : ReadsIn lo hi w a n xs) (k : Below w.heap.size w w') : ReadsIn lo hi w' a n xs := ⟨h.1.below k, h.2⟩
theorem ReadsIn.alloc {lo hi : Nat} {w : World} {a : Option Addr} {n : Nat} {xs : List Int} (h : ReadsIn lo hi w a n xs) (o : Obj) : ReadsIn lo hi (w.alloc o) a n xs := ⟨h.1.alloc o, h.2⟩
theorem ReadsIn.drew {lo hi : Nat} {w : World} {a : Option Addr} {n : Nat} {xs : List Int} (h : ReadsIn lo hi w a n xs) : ReadsIn lo hi w.drew a n xs := h
theorem ReadsIn.reads {lo hi : Nat} {w : World} {a : Option Addr} {n : Nat} {xs : List Int} (h : ReadsIn lo hi w a n xs) : Reads w a n xs := h.1
theorem Reads.drew {w : World} {a : Option Addr} {n : Nat} {xs : List Int} (h : Reads w a n xs) : Reads w.drew a n xs := h

theorem Reads.old {w : World} {a : Option Addr} {n : Nat} {xs : List Int} (h : Reads w a n xs) : ReadsIn 0 w.heap.size w a n xs := by
  refine ⟨h, ?_⟩
  rcases h.2 with h0 | ⟨b, off, ha, hc⟩
  · exact .inl h0
  · rcases Nat.eq_zero_or_pos n with h0 | h0
    · exact .inl h0
    · exact .inr ⟨b, off, ha, Nat.zero_le _, World.block_lt_of_cell? _ _ (hc 0 h0)⟩

theorem ReadsIn.wrote {l r lo hi : Nat} {w w' : World} {a : Option Addr} {n : Nat} {xs : List Int} (h : ReadsIn l r w a n xs) (k : Wrote lo hi w w') (hd : r ≤ lo ∨ hi ≤ l) : ReadsIn l r w' a n xs := by
  refine ⟨⟨h.1.1, ?_⟩, h.2⟩
  rcases h.2 with h0 | ⟨b, off, ha, h1, h2⟩
  · exact .inl h0
  · rcases h.1.2 with h0 | ⟨b', off', ha', hc⟩
    · exact .inl h0
    · rw [ha] at ha'
      cases ha'
      refine .inr ⟨b, off, ha, fun j hj => ?_⟩
      rw [World.cell?_of_block (w := w) (a := ⟨b, off + j, none⟩) (k.block b (World.block_lt_of_cell? _ _ (hc j hj)) (by omega))]
      exact hc j hj

end Go.Proofs.Ythelncibpoijoaa
