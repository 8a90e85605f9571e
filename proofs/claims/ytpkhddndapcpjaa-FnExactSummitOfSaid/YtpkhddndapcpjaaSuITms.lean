/- The program: the product of two normal forms. -/
import Derived.Test.YtpkhddndapcpjaaSuITrd
import Derived.Test.YtpkhddndapcpjaaSuIThn
import Derived.Test.YtpkhddndapcpjaaSuPB
namespace Go.Proofs.Ytpkhddndapcpjaa
open Go.RowKit Go.ChangeShapes

theorem nl_two {m : Nat} {l : List (List Int)} (h1 : 1 ≤ m) (h : Nl m l) {j : Nat} (hj : j < l.length) : 1 < m := by
 rcases Nat.lt_or_ge 1 m with h2 | h2
 ·exact h2
 ·exfalso
  obtain rfl : m = 1 := by omega
  have hx := rowAt_getElem hj
  exact h.n1 _ hx (pre_one (h.sims _ hx) fun i j hij hj _ => by omega)

structure AtTms (w wx : World) (m : Nat) (p q : Int) (a b : Option Addr) (n cap nb capb gb c : Nat) (rows : List (List Int)) (len : Nat) : Prop where
 box : At3 wx w.heap.size (.int .i64 m) (.int .i64 p) (.slice a n cap)
 box2 : At3 wx (w.heap.size + 1) (.int .i64 m) (.int .i64 q) (.slice b nb capb)
 res : At3 wx (w.heap.size + 1 + 1) (.int .i64 0) (.int .i64 0) (.slice none 0 0)
 own : OwnA (w.heap.size + 1 + 1 + 1) wx (some ⟨gb, 0, none⟩) len c rows
 bel : Below w.heap.size w wx
 lo : w.heap.size + 1 + 1 + 1 ≤ gb
 hi : gb < wx.heap.size

theorem AtTms.below {w wx W : World} {m : Nat} {p q : Int} {a b : Option Addr} {n cap nb capb gb c len : Nat} {rows : List (List Int)} (h : AtTms w wx m p q a b n cap nb capb gb c rows len) (k : Below wx.heap.size wx W) : AtTms w W m p q a b n cap nb capb gb c rows len :=
 ⟨h.box.below k, h.box2.below k, h.res.below k, h.own.below k, h.bel.trans (k.mono h.bel.size), h.lo, Nat.lt_of_lt_of_le h.hi k.size⟩

theorem AtTms.store {w wx : World} {m : Nat} {p q : Int} {a b : Option Addr} {n cap nb capb gb c len : Nat} {rows : List (List Int)} (h : AtTms w wx m p q a b n cap nb capb gb c rows len) (j : Nat) (hj : j < len) (r : List Int) (hr : r.length = 8) :
  AtTms w ((((((((wx.setCell ⟨gb, j * 8, none⟩ (.int .u8 (at8 r 0))).setCell ⟨gb, j * 8 + 1, none⟩ (.int .u8 (at8 r 1))).setCell ⟨gb, j * 8 + 2, none⟩ (.int .u8 (at8 r 2))).setCell ⟨gb, j * 8 + 3, none⟩ (.int .u8 (at8 r 3))).setCell ⟨gb, j * 8 + 4, none⟩ (.int .u8 (at8 r 4))).setCell ⟨gb, j * 8 + 5, none⟩ (.int .u8 (at8 r 5))).setCell ⟨gb, j * 8 + 6, none⟩ (.int .u8 (at8 r 6))).setCell ⟨gb, j * 8 + 7, none⟩ (.int .u8 (at8 r 7))) m p q a b n cap nb capb gb c (rows.set j r) len :=
 have hlo := h.lo
 ⟨h.box.set8 (by omega) _ _ _ _ _ _ _ _, h.box2.set8 (by omega) _ _ _ _ _ _ _ _, h.res.set8 (by omega) _ _ _ _ _ _ _ _, h.own.store j hj r hr, below_fill8a h.bel gb (by omega) _ _ _ _ _ _ _ _ _, h.lo, by have := h.hi; simpa [World.setCell] using this⟩

/-- The product as it grows. -/
structure AtTm2 (w wx : World) (m : Nat) (q : Int) (b : Option Addr) (nb capb gp : Nat) (k : Int) (ak : Option Addr) (nk ck : Nat) (lk : List (List Int)) : Prop where
 box2 : At3 wx (w.heap.size + 1) (.int .i64 m) (.int .i64 q) (.slice b nb capb)
 res : At3 wx (w.heap.size + 1 + 1) (.int .i64 0) (.int .i64 0) (.slice none 0 0)
 pr : At3 wx gp (.int .i64 m) (.int .i64 k) (.slice ak nk ck)
 own : OwnS (w.heap.size + 1 + 1 + 1) wx ak nk lk
 apart : nk = 0 ∨ ∀ x, ak = some x → x.block ≠ gp
 bel : Below w.heap.size w wx
 lo : w.heap.size + 1 + 1 + 1 ≤ gp

theorem AtTm2.below {w wx W : World} {m : Nat} {q : Int} {b : Option Addr} {nb capb gp : Nat} {k : Int} {ak : Option Addr} {nk ck : Nat} {lk : List (List Int)} (h : AtTm2 w wx m q b nb capb gp k ak nk ck lk) (k2 : Below wx.heap.size wx W) : AtTm2 w W m q b nb capb gp k ak nk ck lk :=
 ⟨h.box2.below k2, h.res.below k2, h.pr.below k2, h.own.below k2, h.apart, h.bel.trans (k2.mono h.bel.size), h.lo⟩

theorem OwnS.past3 {B : Nat} {w : World} {a : Option Addr} {n g : Nat} {rs : List (List Int)} (h : OwnS B w a n rs) (hne : n = 0 ∨ ∀ x, a = some x → x.block ≠ g) (u v x : Value) : OwnS B (((w.setCell ⟨g, 0, none⟩ u).setCell ⟨g, 1, none⟩ v).setCell ⟨g, 2, none⟩ x) a n rs := by
 rcases hne with h0 | hne
 ·subst h0
  exact ⟨h.1, h.2.1, .inl rfl⟩
 ·refine h.heap (by simp [World.setCell]) fun y hy _ _ => ?_
  have h1 := hne y hy
  rw [Below.heap_setCell _ _ _ _ h1, Below.heap_setCell _ _ _ _ h1, Below.heap_setCell _ _ _ _ h1]

/-- What a call made lies apart from what was there. -/
theorem OwnS.apart {B g : Nat} {w : World} {a : Option Addr} {n : Nat} {rs : List (List Int)} (h : OwnS B w a n rs) (hg : g < B) : n = 0 ∨ ∀ x, a = some x → x.block ≠ g := by
 rcases h.2.2 with h0 | ⟨g2, off, rfl, hB, _⟩
 ·exact .inl h0
 ·exact .inr fun x hx => by cases hx; simp; omega

end Go.Proofs.Ytpkhddndapcpjaa

