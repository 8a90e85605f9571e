/- Predicates on memory and plain lemmas on them: what a slice of int64 reads as, and which numbers a slice of the call's own holds. No function of the program is spoken of. -/
import Derived.WalkKit
import Derived.Carry
import Derived.Lib.Hide
import Derived.Deep.QuietTactic
import Derived.BigQuiet
namespace Go.Proofs.Ythelncibpoijoaa
open Go.RowKit

/-- The slice with the address a and the length n holds the numbers xs. -/
def Reads (w : World) (a : Option Addr) (n : Nat) (xs : List Int) : Prop :=
  xs.length = n ∧ (n = 0 ∨ ∃ b off, a = some ⟨b, off, none⟩ ∧ ∀ j, j < n → w.cell? ⟨b, off + j, none⟩ = some (.int .i64 (xs.getD j 0)))

/-- All numbers are values of int64. -/
def Fits (xs : List Int) : Prop := ∀ x ∈ xs, (Lit.int .i64 x).wf = true

/-- The slice is nil, or leads to a row of the call's own in a block from B on, and holds the numbers xs. -/
def Own (B : Nat) (w : World) (a : Option Addr) (n cap : Nat) (xs : List Int) : Prop :=
  w.ownsRow B 2 1 (.slice a n cap) n (xs.map (Value.int .i64))

theorem Reads.len {w : World} {a : Option Addr} {n : Nat} {xs : List Int} (h : Reads w a n xs) : xs.length = n := h.1

theorem Reads.zero {w : World} {a : Option Addr} {xs : List Int} (h : xs = []) : Reads w a 0 xs := ⟨by simp [h], .inl rfl⟩

theorem Reads.lt {w : World} {b off n : Nat} {xs : List Int} (h : Reads w (some ⟨b, off, none⟩) n xs) (hn : 0 < n) : b < w.heap.size := by
  obtain ⟨_, h | ⟨b', off', ha, hc⟩⟩ := h
  · omega
  · cases ha
    exact World.block_lt_of_cell? _ _ (hc 0 hn)

theorem Reads.heap {w w' : World} {a : Option Addr} {n : Nat} {xs : List Int} (h : Reads w a n xs) (hb : ∀ k, k < w.heap.size → w'.heap[k]? = w.heap[k]?) : Reads w' a n xs := by
  obtain ⟨h1, h | ⟨b, off, ha, hc⟩⟩ := h
  · exact ⟨h1, .inl h⟩
  · refine ⟨h1, .inr ⟨b, off, ha, fun j hj => ?_⟩⟩
    have := World.block_lt_of_cell? _ _ (hc j hj)
    rw [World.cell?_of_block (w := w) (hb b this)]
    exact hc j hj

theorem Reads.below {w w' : World} {a : Option Addr} {n : Nat} {xs : List Int} (h : Reads w a n xs) (hb : Below w.heap.size w w') : Reads w' a n xs := h.heap hb.block

theorem Reads.alloc {w : World} {a : Option Addr} {n : Nat} {xs : List Int} (h : Reads w a n xs) (o : Obj) : Reads (w.alloc o) a n xs :=
  h.below ((Below.refl _ _).alloc (Nat.le_refl _) o)

/-- A slice with an element leads to cells. -/
theorem Reads.cells {w : World} {a : Option Addr} {n : Nat} {xs : List Int} (h : Reads w a n xs) (hn : 0 < n) :
    ∃ b off, a = some ⟨b, off, none⟩ ∧ b < w.heap.size ∧ ∀ j, j < n → w.cell? ⟨b, off + j, none⟩ = some (.int .i64 (xs.getD j 0)) := by
  obtain ⟨_, h | ⟨b, off, ha, hc⟩⟩ := h
  · omega
  · exact ⟨b, off, ha, World.block_lt_of_cell? _ _ (hc 0 hn), hc⟩

theorem Own.len {B : Nat} {w : World} {a : Option Addr} {n cap : Nat} {xs : List Int} (h : Own B w a n cap xs) : xs.length = n := by
  have := h.1
  simpa using this

theorem Own.nil (B : Nat) (w : World) : Own B w none 0 0 [] := World.ownsRow_nil _ _ _ _

theorem Own.heap {B : Nat} {w w' : World} {a : Option Addr} {n cap : Nat} {xs : List Int} (h : Own B w a n cap xs) (hb : ∀ k, k < w.heap.size → w'.heap[k]? = w.heap[k]?) : Own B w' a n cap xs := by
  obtain ⟨h1, h2⟩ := h
  refine ⟨h1, ?_⟩
  rcases h2 with h2 | ⟨g, c, cur, hv, hg, hh, r⟩
  · exact .inl h2
  · exact .inr ⟨g, c, cur, hv, hg, by rw [hb g (by obtain ⟨hlt, _⟩ := Array.getElem?_eq_some_iff.1 hh; exact hlt)]; exact hh, r⟩

theorem Own.below {B : Nat} {w w' : World} {a : Option Addr} {n cap : Nat} {xs : List Int} (h : Own B w a n cap xs) (hb : Below w.heap.size w w') : Own B w' a n cap xs := h.heap hb.block

theorem Own.alloc {B : Nat} {w : World} {a : Option Addr} {n cap : Nat} {xs : List Int} (h : Own B w a n cap xs) (o : Obj) : Own B (w.alloc o) a n cap xs :=
  World.ownsRow.alloc h o

theorem Own.reads {B : Nat} {w : World} {a : Option Addr} {n cap : Nat} {xs : List Int} (h : Own B w a n cap xs) : Reads w a n xs := by
  refine ⟨h.len, ?_⟩
  have hl := h.len
  rcases h.2 with ⟨hv, hn⟩ | ⟨g, c, cur, hv, hg, hh, r⟩
  · exact .inl hn
  · simp only [Value.slice.injEq] at hv
    obtain ⟨rfl, _, rfl⟩ := hv
    refine .inr ⟨g, 0, rfl, fun j hj => ?_⟩
    rw [Nat.zero_add, World.ownsRow.cellAt h j (by omega)]
    simp [List.getD, show j < xs.length by omega]

/-- The block of a slice that is the call's own. -/
theorem Own.block {B : Nat} {w : World} {a : Option Addr} {n cap : Nat} {xs : List Int} (h : Own B w a n cap xs) (hn : 0 < n) : ∃ g, a = some ⟨g, 0, none⟩ ∧ B ≤ g ∧ g < w.heap.size := by
  rcases h.2 with ⟨hv, h0⟩ | ⟨g, c, cur, hv, hg, hh, r⟩
  · omega
  · simp only [Value.slice.injEq] at hv
    obtain ⟨rfl, _, rfl⟩ := hv
    exact ⟨g, rfl, hg, by obtain ⟨hlt, _⟩ := Array.getElem?_eq_some_iff.1 hh; exact hlt⟩

theorem Own.mono {B B' : Nat} {w : World} {a : Option Addr} {n cap : Nat} {xs : List Int} (h : Own B w a n cap xs) (hB : B' ≤ B) : Own B' w a n cap xs := by
  obtain ⟨h1, h2⟩ := h
  refine ⟨h1, ?_⟩
  rcases h2 with h2 | ⟨g, c, cur, hv, hg, r⟩
  · exact .inl h2
  · exact .inr ⟨g, c, cur, hv, by omega, r⟩

/-- What the call owns stays owned while another row is written. -/
theorem Own.kept {B : Nat} {w w' : World} {a : Option Addr} {n cap : Nat} {xs : List Int} {row : Option Nat} (h : Own B w a n cap xs) (hg : w.grownBy w' row) (hr : ∀ g, row = some g → g < B) : Own B w' a n cap xs := by
  refine World.ownsRow.kept h hg ?_
  rcases h.2 with ⟨hv, h0⟩ | ⟨g, c, cur, hv, hB, hh, r⟩
  · left
    rw [hv]
    rfl
  · right
    rw [hv]
    intro e
    have := hr g e.symm
    omega

theorem ret_bool {a b : Bool} (h : a = b) : Ending.returned (.bool a) = .returned (.bool b) := by rw [h]
theorem ret_int {k : IntKind} {a b : Int} (h : a = b) : Ending.returned (.int k a) = .returned (.int k b) := by rw [h]

theorem below_draws (B : Nat) (w : World) (n : Nat) : Below B w (w.drewN n) := ⟨rfl, rfl, rfl, Nat.le_refl _, fun _ _ => rfl⟩
theorem below1 (w : World) (o1 : Obj) : Below w.heap.size w (w.alloc o1) := (Below.refl _ _).alloc (Nat.le_refl _) o1
theorem below2 (w : World) (o1 o2 : Obj) : Below w.heap.size w ((w.alloc o1).alloc o2) := (below1 w o1).alloc (by simp) o2
theorem below3 (w : World) (o1 o2 o3 : Obj) : Below w.heap.size w (((w.alloc o1).alloc o2).alloc o3) := (below2 w o1 o2).alloc (by simp; omega) o3
theorem below4 (w : World) (o1 o2 o3 o4 : Obj) : Below w.heap.size w ((((w.alloc o1).alloc o2).alloc o3).alloc o4) := (below3 w o1 o2 o3).alloc (by simp; omega) o4

/-- What is so below a world's own size is so below any smaller number. -/
theorem Below.then {B : Nat} {w w1 w2 : World} (h : Below B w w1) (hB : B ≤ w1.heap.size) (k : Below w1.heap.size w1 w2) : Below B w w2 := h.trans (k.mono hB)

theorem bcell {W w1 : World} {B : Nat} (hb : Below B W w1) : (∀ b o, b < B → w1.cell? ⟨b, o, none⟩ = W.cell? ⟨b, o, none⟩) ∧ (∀ b o, b < B → w1.frozen? ⟨b, o, none⟩ = W.frozen? ⟨b, o, none⟩) :=
  ⟨fun b o h => hb.cell (p := ⟨b, o, none⟩) h, fun b o h => hb.frozen (p := ⟨b, o, none⟩) h⟩

theorem Own.setCell_below {B : Nat} {w : World} {a : Option Addr} {n cap : Nat} {xs : List Int} (h : Own B w a n cap xs) {p : Addr} (hp : p.block < B) (u : Value) : Own B (w.setCell p u) a n cap xs :=
  ownsRow_setCell_below h hp u

theorem Below.ofGrown {w w' : World} (h : w.grownBy w' none) : Below w.heap.size w w' := ⟨h.os, h.tape, h.output, h.size, fun k hk => h.block k hk (by simp)⟩

end Go.Proofs.Ythelncibpoijoaa
