/- The program: is a row a simple braid? -/
import Derived.Test.YtmlejlediflaaaaIRows
import Derived.Test.YtmlejlediflaaaaSort
import Derived.Deep.RegionHeld3
import Derived.ChangeKeysEq
namespace Go.Proofs.Ytmlejlediflaaaa
open Go.RowKit Go.ChangeShapes

/-- The cells of an array of eight numbers. -/
def cells8 (k : IntKind) (l : List Int) : Array Value := #[.int k (at8 l 0), .int k (at8 l 1), .int k (at8 l 2), .int k (at8 l 3), .int k (at8 l 4), .int k (at8 l 5), .int k (at8 l 6), .int k (at8 l 7)]

theorem part8 (l : List Int) (j : Nat) (hj : j < 8) (w : World) : (part 5 (cells8 .u8 l) (j * 1)).run Try.prog w = .ok (.int .u8 (at8 l j)) w := by
  have he : ∀ w, (isAgg 5).run Try.prog w = .ok false w := fun _ => by kernel_rfl
  have : j = 0 ∨ j = 1 ∨ j = 2 ∨ j = 3 ∨ j = 4 ∨ j = 5 ∨ j = 6 ∨ j = 7 := by omega
  rcases this with rfl | rfl | rfl | rfl | rfl | rfl | rfl | rfl <;> simp [part, he, cells8]

theorem eqItems8 (d : Nat) (l m : List Int) (w : World) (is : List Nat) (h : ∀ j ∈ is, j < 8) :
    (Op.eqItems (d + 1) 5 1 (cells8 .u8 l) (cells8 .u8 m) is).run Try.prog w = .ok (is.all fun j => at8 l j == at8 m j) w := by
  induction is with
  | nil => simp [Op.eqItems]
  | cons j is ih =>
    have hu : Try.prog.underlying 5 = some (.int .u8) := by kernel_rfl
    have h1 := part8 l j (h j (by simp)) w
    have h2 := part8 m j (h j (by simp)) w
    have h3 := run_equalIn_int w d 5 .u8 .u8 (at8 l j) (at8 m j) hu
    simp only [Op.eqItems, Sem.run_bind, h1, h2, h3, Result.andThen_ok, List.all_cons]
    cases hb : (at8 l j == at8 m j)
    · simp
    · simp only [Bool.not_true, Bool.false_eq_true, if_false, Bool.true_and]
      exact ih fun i hi => h i (by simp [hi])

theorem all8_eq (l m : List Int) (hl : l.length = 8) (hm : m.length = 8) : ((List.range 8).all fun j => at8 l j == at8 m j) = decide (l = m) := by
  rw [Bool.eq_iff_iff, List.all_eq_true, decide_eq_true_eq]
  constructor
  · intro h
    exact ext8 hl hm fun j hj => by simpa using h j (List.mem_range.2 hj)
  · intro h j _
    rw [h]
    simp

end Go.Proofs.Ytmlejlediflaaaa
