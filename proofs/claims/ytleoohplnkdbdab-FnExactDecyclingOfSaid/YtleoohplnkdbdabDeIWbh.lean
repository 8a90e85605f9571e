/- The program: weighed factors with one more behind them. -/
import Derived.Test.YtleoohplnkdbdabDeBB
import Derived.Test.YtleoohplnkdbdabDeKit15
import Derived.Test.YtleoohplnkdbdabDeIRows
import Derived.Test.YtleoohplnkdbdabDeIIs
import Derived.Test.YtleoohplnkdbdabDeKK
import Derived.Test.YtleoohplnkdbdabDePB
import Derived.Test.YtleoohplnkdbdabDeIWgh
import Derived.Deep.RegionHeld3
import Derived.Deep.DeepCutAuto
import Derived.Deep.RegionLawGrows
namespace Go.Proofs.Ytleoohplnkdbdab
open Go.RowKit Go.ChangeShapes

/-- Where the loop has come to. -/
structure AtWb (w wx : World) (gb c : Nat) (rows : List (List Int)) (len : Nat) : Prop where
 own : OwnA (w.heap.size + 1) wx (some ⟨gb, 0, none⟩) len c rows
 bel : Below w.heap.size w wx
 hi : gb < wx.heap.size
 lo : w.heap.size + 1 ≤ gb

theorem AtWb.below {w wx W : World} {gb c len : Nat} {rows : List (List Int)} (h : AtWb w wx gb c rows len) (k : Below wx.heap.size wx W) : AtWb w W gb c rows len :=
 ⟨h.own.below k, h.bel.trans (k.mono h.bel.size), Nat.lt_of_lt_of_le h.hi k.size, h.lo⟩

theorem AtWb.store {w wx : World} {gb c len : Nat} {rows : List (List Int)} (h : AtWb w wx gb c rows len) (j : Nat) (hj : j < len) (r : List Int) (hr : r.length = 8) :
  AtWb w ((((((((wx.setCell ⟨gb, j * 8, none⟩ (.int .u8 (at8 r 0))).setCell ⟨gb, j * 8 + 1, none⟩ (.int .u8 (at8 r 1))).setCell ⟨gb, j * 8 + 2, none⟩ (.int .u8 (at8 r 2))).setCell ⟨gb, j * 8 + 3, none⟩ (.int .u8 (at8 r 3))).setCell ⟨gb, j * 8 + 4, none⟩ (.int .u8 (at8 r 4))).setCell ⟨gb, j * 8 + 5, none⟩ (.int .u8 (at8 r 5))).setCell ⟨gb, j * 8 + 6, none⟩ (.int .u8 (at8 r 6))).setCell ⟨gb, j * 8 + 7, none⟩ (.int .u8 (at8 r 7))) gb c (rows.set j r) len :=
 have hlo := h.lo
 ⟨h.own.store j hj r hr, below_fill8a h.bel gb (by omega) _ _ _ _ _ _ _ _ _, by have := h.hi; simpa [World.setCell] using this, h.lo⟩

end Go.Proofs.Ytleoohplnkdbdab

