/- The contracts that the laws' walks use, in the words of intervals of blocks. -/
import Derived.Test.YthelncibpoijoaaBase3
import Derived.Test.YthelncibpoijoaaKit2
namespace Go.Proofs.Ythelncibpoijoaa
open Go.RowKit

theorem eqBraid_yes (s : Int) (a b : Option Addr) (n m ca cb : Nat) (xs : List Int) (w : World) (ha : Reads w a n xs) (hb : Reads w b m xs) (hn : n ≤ 1048576) :
    Calls Try.prog 29 #[.agg #[.int .i64 s, .slice a n ca], .agg #[.int .i64 s, .slice b m cb]] w fun e w' => e = .returned (.bool true) ∧ Below w.heap.size w w' :=
  (eqBraid_any s s a b n m ca cb xs xs w ha hb (by unfold maxLen; omega)).mono fun e w' ⟨he, hw⟩ => ⟨by rw [he]; simp, hw⟩

theorem markBraid_in (lo hi : Nat) (s : Int) (a : Option Addr) (n cap : Nat) (xs : List Int) (m : Int) (w : World) (ho : OwnIn lo hi w a n cap xs) (hn : n ≤ 1048576) (h0 : 0 ≤ m) (h1 : m ≤ 4294967296) :
    Calls Try.prog 30 #[.agg #[.int .i64 s, .slice a n cap], .int .i64 m] w fun e w' => e = .returned (.int .i64 (m + n)) ∧ OwnIn lo hi w' a n cap (marks m n) ∧ Wrote lo hi w w' :=
  (markBraid_any lo s a n cap xs m w ho.1 hn h0 h1).mono fun _ _ ⟨he, h2, h3⟩ => ⟨he, ⟨h2, ho.2⟩, ho.writes h3⟩

end Go.Proofs.Ythelncibpoijoaa
