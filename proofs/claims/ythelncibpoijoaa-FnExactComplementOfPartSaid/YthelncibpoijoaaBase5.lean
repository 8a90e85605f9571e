/- Comparisons and marks of slices of numbers, in the forms in which the laws' walks use them. -/
import Derived.Test.YthelncibpoijoaaBase4
namespace Go.Proofs.Ythelncibpoijoaa
open Go.RowKit Go.ChangeShapes

theorem eqInt64S_yes (a b : Option Addr) (n m ca cb : Nat) (xs : List Int) (w : World) (ha : Reads w a n xs) (hb : Reads w b m xs) (hn : n ≤ 1048576) :
    Calls Try.prog 63 #[.slice a n ca, .slice b m cb] w fun e w' => e = .returned (.bool true) ∧ Below w.heap.size w w' :=
  (eqInt64S_any a b n m ca cb xs xs w ha hb (by unfold maxLen; omega)).mono fun e w' ⟨he, hw⟩ => ⟨by rw [he]; simp, hw⟩

theorem markInt64S_in (lo hi : Nat) (a : Option Addr) (n cap : Nat) (xs : List Int) (m : Int) (w : World) (ho : OwnIn lo hi w a n cap xs) (hn : n ≤ 1048576) (h0 : 0 ≤ m) (h1 : m ≤ 4294967296) :
    Calls Try.prog 64 #[.slice a n cap, .int .i64 m] w fun e w' => e = .returned (.int .i64 (m + n)) ∧ OwnIn lo hi w' a n cap (marks m n) ∧ Wrote lo hi w w' :=
  (markInt64S_any lo a n cap xs m w ho.1 hn h0 h1).mono fun _ _ ⟨he, h2, h3⟩ => ⟨he, ⟨h2, ho.2⟩, ho.writes h3⟩

theorem heldInt64S_be (a : Option Addr) (n cap : Nat) (m : Int) (w : World) (hr : Reads w a n (marks m n)) (hn : n ≤ 1048576) (h0 : 0 ≤ m) (h1 : m ≤ 4294967296) :
    Calls Try.prog 65 #[.slice a n cap, .int .i64 m] w fun e w' => e = .returned (.int .i64 (m + n)) ∧ Below w.heap.size w w' :=
  (heldInt64S_any a n cap m w hr hn h0 h1).mono fun _ _ ⟨he, h2⟩ => ⟨he, by rw [h2]; exact Below.refl _ _⟩

end Go.Proofs.Ythelncibpoijoaa
