/- The program: a normal form with one simple braid ahead of it. -/
import Derived.Test.YtleoohplnkdbdaaBoSCyc
namespace Go.Proofs.Ytleoohplnkdbdaa
open Go.RowKit Go.ChangeShapes

structure AtBeh (w wx : World) (m : Nat) (p : Int) (a : Option Addr) (n cap gb gr : Nat) (rows : List (List Int)) (len : Nat) (r : List Int) : Prop where
 box : At3 wx w.heap.size (.int .i64 m) (.int .i64 p) (.slice a n cap)
 res : At3 wx (w.heap.size + 1 + 1) (.int .i64 0) (.int .i64 0) (.slice none 0 0)
 own : OwnA (w.heap.size + 1 + 1 + 1) wx (some ⟨gb, 0, none⟩) len len rows
 rst : Row8 wx gr .u8 r
 bel : Below w.heap.size w wx
 lo : w.heap.size + 1 + 1 + 1 ≤ gb
 hi : gb < wx.heap.size
 rlo : w.heap.size + 1 + 1 + 1 ≤ gr
 ne : gr ≠ gb

theorem AtBeh.below {w wx W : World} {m : Nat} {p : Int} {a : Option Addr} {n cap gb gr len : Nat} {rows : List (List Int)} {r : List Int} (h : AtBeh w wx m p a n cap gb gr rows len r) (k : Below wx.heap.size wx W) : AtBeh w W m p a n cap gb gr rows len r :=
 ⟨h.box.below k, h.res.below k, h.own.below k, h.rst.below k, h.bel.trans (k.mono h.bel.size), h.lo, Nat.lt_of_lt_of_le h.hi k.size, h.rlo, h.ne⟩

theorem AtBeh.store {w wx : World} {m : Nat} {p : Int} {a : Option Addr} {n cap gb gr len : Nat} {rows : List (List Int)} {r : List Int} (h : AtBeh w wx m p a n cap gb gr rows len r) (j : Nat) (hj : j < len) (x : List Int) (hx : x.length = 8) :
  AtBeh w ((((((((wx.setCell ⟨gb, j * 8, none⟩ (.int .u8 (at8 x 0))).setCell ⟨gb, j * 8 + 1, none⟩ (.int .u8 (at8 x 1))).setCell ⟨gb, j * 8 + 2, none⟩ (.int .u8 (at8 x 2))).setCell ⟨gb, j * 8 + 3, none⟩ (.int .u8 (at8 x 3))).setCell ⟨gb, j * 8 + 4, none⟩ (.int .u8 (at8 x 4))).setCell ⟨gb, j * 8 + 5, none⟩ (.int .u8 (at8 x 5))).setCell ⟨gb, j * 8 + 6, none⟩ (.int .u8 (at8 x 6))).setCell ⟨gb, j * 8 + 7, none⟩ (.int .u8 (at8 x 7))) m p a n cap gb gr (rows.set j x) len r :=
 have hlo := h.lo
 ⟨h.box.set8 (by omega) _ _ _ _ _ _ _ _, h.res.set8 (by omega) _ _ _ _ _ _ _ _, h.own.store j hj x hx, h.rst.pastAt gb (j * 8) h.ne.symm _ _ _ _ _ _ _ _, below_fill8a h.bel gb (by omega) _ _ _ _ _ _ _ _ _, h.lo, by have := h.hi; simpa [World.setCell] using this, h.rlo, h.ne⟩

theorem OwnA.setCell_ne {B : Nat} {w : World} {gb n cap g : Nat} {rs : List (List Int)} (h : OwnA B w (some ⟨gb, 0, none⟩) n cap rs) (hne : g ≠ gb) (o : Nat) (v : Value) : OwnA B (w.setCell ⟨g, o, none⟩ v) (some ⟨gb, 0, none⟩) n cap rs :=
 ⟨h.1, World.ownsRow.kept h.2 (grown_set w g o v) (.inr (by simpa [Value.ownBlock] using fun e => hne e.symm))⟩

theorem OwnA.past8 {B : Nat} {w : World} {gb n cap g : Nat} {rs : List (List Int)} (h : OwnA B w (some ⟨gb, 0, none⟩) n cap rs) (hne : g ≠ gb) (v0 v1 v2 v3 v4 v5 v6 v7 : Value) :
  OwnA B ((((((((w.setCell ⟨g, 0, none⟩ v0).setCell ⟨g, 1, none⟩ v1).setCell ⟨g, 2, none⟩ v2).setCell ⟨g, 3, none⟩ v3).setCell ⟨g, 4, none⟩ v4).setCell ⟨g, 5, none⟩ v5).setCell ⟨g, 6, none⟩ v6).setCell ⟨g, 7, none⟩ v7) (some ⟨gb, 0, none⟩) n cap rs :=
 (((((((h.setCell_ne hne 0 v0).setCell_ne hne 1 v1).setCell_ne hne 2 v2).setCell_ne hne 3 v3).setCell_ne hne 4 v4).setCell_ne hne 5 v5).setCell_ne hne 6 v6).setCell_ne hne 7 v7

/-- What is left is stored anew. -/
theorem AtBeh.rest {w wx : World} {m : Nat} {p : Int} {a : Option Addr} {n cap gb gr len : Nat} {rows : List (List Int)} {r : List Int} (h : AtBeh w wx m p a n cap gb gr rows len r) (x : List Int) (hx : x.length = 8) :
  AtBeh w ((((((((wx.setCell ⟨gr, 0, none⟩ (.int .u8 (at8 x 0))).setCell ⟨gr, 1, none⟩ (.int .u8 (at8 x 1))).setCell ⟨gr, 2, none⟩ (.int .u8 (at8 x 2))).setCell ⟨gr, 3, none⟩ (.int .u8 (at8 x 3))).setCell ⟨gr, 4, none⟩ (.int .u8 (at8 x 4))).setCell ⟨gr, 5, none⟩ (.int .u8 (at8 x 5))).setCell ⟨gr, 6, none⟩ (.int .u8 (at8 x 6))).setCell ⟨gr, 7, none⟩ (.int .u8 (at8 x 7))) m p a n cap gb gr rows len x :=
 have hlo := h.rlo
 ⟨h.box.set8 (by omega) _ _ _ _ _ _ _ _, h.res.set8 (by omega) _ _ _ _ _ _ _ _, h.own.past8 h.ne _ _ _ _ _ _ _ _, h.rst.fill x hx, below_fill8 h.bel gr (by omega) _ _ _ _ _ _ _ _, h.lo, by have := h.hi; simpa [World.setCell] using this, h.rlo, h.ne⟩

end Go.Proofs.Ytleoohplnkdbdaa

