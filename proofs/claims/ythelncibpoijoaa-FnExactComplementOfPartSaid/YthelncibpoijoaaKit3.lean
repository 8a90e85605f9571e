/- Predicates on memory, continued: a slice that grows by append. No function of the program is spoken of. -/
import Derived.Test.YthelncibpoijoaaKit2
namespace Go.Proofs.Ythelncibpoijoaa
open Go.RowKit

/-- The cells of a list of numbers (a name of its own, so that no walk turns it). -/
def ints (xs : List Int) : List Value := xs.map (Value.int .i64)

/-- The slice value v of n elements is the call's own, in blocks from B on, and holds the numbers xs. -/
def OwnV (B : Nat) (w : World) (v : Value) (n : Nat) (xs : List Int) : Prop := w.ownsRow B 2 1 v n (ints xs)

theorem OwnV.form {B : Nat} {w : World} {v : Value} {n : Nat} {xs : List Int} (h : OwnV B w v n xs) : ∃ a cap, v = .slice a n cap ∧ Own B w a n cap xs := by
  have hh := h
  rcases h.2 with ⟨hv, h0⟩ | ⟨g, c, cur, hv, _⟩
  · subst h0
    exact ⟨none, 0, hv, by rw [hv] at hh; exact hh⟩
  · exact ⟨_, c, hv, by rw [hv] at hh; exact hh⟩

theorem OwnV.nil (B : Nat) (w : World) : OwnV B w (.slice none 0 0) 0 [] := World.ownsRow_nil _ _ _ _

theorem OwnV.empty (w : World) : OwnV w.heap.size (w.alloc (.cells #[] 2)) (.slice (some ⟨w.heap.size, 0, none⟩) 0 0) 0 [] := by
  have := World.ownsRow_lit (base := w.heap.size) (size := 1) (e := 2) w #[] 0 (Nat.le_refl _) (Nat.zero_le _) rfl
  exact this

theorem OwnV.len {B : Nat} {w : World} {v : Value} {n : Nat} {xs : List Int} (h : OwnV B w v n xs) : xs.length = n := by
  have := h.1
  simpa [ints] using this

/-- Behind an append to what is the call's own: below B nothing has turned. -/
theorem below_appended {B : Nat} {w wr w1 : World} {v : Value} {n : Nat} {xs : List Int} {o : Obj} (hbl : Below B w wr) (hs : B ≤ wr.heap.size) (ho : OwnV B wr v n xs) (hg : (wr.alloc o).grownBy w1 v.ownBlock) : Below B w w1 :=
  (hbl.alloc hs o).grown hg (by simp; omega) (fun k hk => (World.ownsRow.lt ho k hk).1)

theorem OwnV.appended {B : Nat} {w : World} {v : Value} {n : Nat} {xs : List Int} {x : Int} (h : w.ownsRow B 2 1 v (n + 1) (ints xs ++ [.int .i64 x])) : OwnV B w v (n + 1) (xs ++ [x]) := by
  unfold OwnV ints
  rw [List.map_append]
  exact h

/-- The one new cell of an append of one element. -/
theorem one_new (w : World) (x : Int) (t : TypeId) : ∀ j u, [Value.int .i64 x][j]? = some u → (w.alloc (.cells #[.int .i64 x] t)).cell? ((⟨w.heap.size, 0, none⟩ : Addr).add j) = some u := by
  intro j u hj
  match j, hj with
  | 0, hj => simp at hj; subst hj; simp [Addr.add]

theorem one_cell (x : Int) : ∀ u ∈ [Value.int .i64 x], u.oneCell' = true := by
  intro u hu
  simp at hu
  subst hu
  rfl

theorem size_of_below {B : Nat} {w wr : World} (h : Below B w wr) (hB : B ≤ w.heap.size) : B ≤ wr.heap.size := Nat.le_trans hB h.size

/-- What a function that hands back a braid and a code gives. -/
def RetBraid (w : World) (s : Int) (xs : List Int) (c : Int) (e : Ending) (w' : World) : Prop :=
  ∃ a n cap, e = .returned (.tuple #[.agg #[.int .i64 s, .slice a n cap], .int .i64 c]) ∧ n ≤ 1048576 ∧ Own w.heap.size w' a n cap xs ∧ Below w.heap.size w w'

/-- What a function that hands back a slice of numbers and a code gives. -/
def RetInts (w : World) (xs : List Int) (c : Int) (e : Ending) (w' : World) : Prop :=
  ∃ a n cap, e = .returned (.tuple #[.slice a n cap, .int .i64 c]) ∧ n ≤ 1048576 ∧ Own w.heap.size w' a n cap xs ∧ Below w.heap.size w w'

end Go.Proofs.Ythelncibpoijoaa
