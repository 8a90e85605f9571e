/- The first handle of a braid, and the sign of a word: the exported functions, the model's and the program's. -/
import Derived.Test.YtckdhnpnkgmikaaDoorSHan
import Derived.Test.YtckdhnpnkgmikaaDoorIHan
import Derived.Test.YtckdhnpnkgmikaaDoorMainO
import Derived.Test.YtckdhnpnkgmikaaDoorIs2
namespace Go.Proofs.YtckdhnpnkgmikaaDoor
open Go.RowKit Go.ChangeShapes

theorem lt8_of_isBraid {s : Int} {xs : List Int} (h : isBraid s xs = true) : Lt8 xs := by
  obtain ⟨_, h2, _, h4⟩ := (isBraid_iff s xs).1 h
  intro x hx
  have := h4 x hx
  omega

/-- A list of two numbers that the call makes. -/
theorem own_lit2 (B g : Nat) (w : World) (x y : Int) (hB : B ≤ w.heap.size) (hg : w.heap.size = g) : Own B (w.alloc (.cells #[.int .i64 x, .int .i64 y] 2)) (some ⟨g, 0, none⟩) 2 2 [x, y] := by
  subst hg
  have := World.ownsRow_lit (base := B) (size := 1) (e := 2) w #[.int .i64 x, .int .i64 y] 2 hB (by decide) rfl
  exact this

/-- The places of the first handle, and the code. -/
def mFirst (s : Int) (xs : List Int) : List Int × Int :=
  if isBraid s xs = true then (match hand xs xs.length with | none => ([], 4) | some r => ([(r.1 : Int), (r.2 : Int)], 0)) else ([], 1)

/-- The sign of a word, and the code. -/
def mWSign (s : Int) (xs : List Int) : Int × Int := if isBraid s xs = true then (sgnM xs, 0) else (0, 1)

end Go.Proofs.YtckdhnpnkgmikaaDoor
