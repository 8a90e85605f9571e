/- The program: a normal form with one simple braid behind it. -/
import Derived.Test.YthpmehhfhngnbaaFrITrm
import Derived.Test.YthpmehhfhngnbaaFrIWgh
import Derived.Deep.RegionLawGrows
namespace Go.Proofs.Ythpmehhfhngnbaa
open Go.RowKit Go.ChangeShapes

/-- Where the program's loop has come to. -/
structure AtThn (w wx : World) (m : Nat) (p : Int) (a : Option Addr) (n cap gb c : Nat) (rows : List (List Int)) (len : Nat) : Prop where
 box : At3 wx w.heap.size (.int .i64 m) (.int .i64 p) (.slice a n cap)
 res : At3 wx (w.heap.size + 1 + 1) (.int .i64 0) (.int .i64 0) (.slice none 0 0)
 own : OwnA (w.heap.size + 1 + 1 + 1) wx (some ⟨gb, 0, none⟩) len c rows
 bel : Below w.heap.size w wx
 hi : gb < wx.heap.size
 lo : w.heap.size + 1 + 1 + 1 ≤ gb

theorem AtThn.below {w wx W : World} {m : Nat} {p : Int} {a : Option Addr} {n cap gb c len : Nat} {rows : List (List Int)} (h : AtThn w wx m p a n cap gb c rows len) (k : Below wx.heap.size wx W) : AtThn w W m p a n cap gb c rows len :=
 ⟨h.box.below k, h.res.below k, h.own.below k, h.bel.trans (k.mono h.bel.size), Nat.lt_of_lt_of_le h.hi k.size, h.lo⟩

theorem AtThn.store {w wx : World} {m : Nat} {p : Int} {a : Option Addr} {n cap gb c len : Nat} {rows : List (List Int)} (h : AtThn w wx m p a n cap gb c rows len) (j : Nat) (hj : j < len) (r : List Int) (hr : r.length = 8) :
  AtThn w ((((((((wx.setCell ⟨gb, j * 8, none⟩ (.int .u8 (at8 r 0))).setCell ⟨gb, j * 8 + 1, none⟩ (.int .u8 (at8 r 1))).setCell ⟨gb, j * 8 + 2, none⟩ (.int .u8 (at8 r 2))).setCell ⟨gb, j * 8 + 3, none⟩ (.int .u8 (at8 r 3))).setCell ⟨gb, j * 8 + 4, none⟩ (.int .u8 (at8 r 4))).setCell ⟨gb, j * 8 + 5, none⟩ (.int .u8 (at8 r 5))).setCell ⟨gb, j * 8 + 6, none⟩ (.int .u8 (at8 r 6))).setCell ⟨gb, j * 8 + 7, none⟩ (.int .u8 (at8 r 7))) m p a n cap gb c (rows.set j r) len :=
 have hlo := h.lo
 ⟨h.box.set8 (by omega) _ _ _ _ _ _ _ _, h.res.set8 (by omega) _ _ _ _ _ _ _ _, h.own.store j hj r hr, below_fill8a h.bel gb (by omega) _ _ _ _ _ _ _ _ _, by have := h.hi; simpa [World.setCell] using this, h.lo⟩

end Go.Proofs.Ythpmehhfhngnbaa

