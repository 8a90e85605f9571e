/- The model: the common beginning, along the states that the loop goes through. -/
import Derived.Test.YthpmehhfhngnbaaRnDecP
import Derived.Test.YthpmehhfhngnbaaRnSDec
import Derived.Test.YthpmehhfhngnbaaRnSTim
import Derived.Test.YthpmehhfhngnbaaRnSCyc
import Derived.Test.YthpmehhfhngnbaaRnITms
namespace Go.Proofs.Ythpmehhfhngnbaa
open Go.RowKit Go.ChangeShapes

/-- A power with factors. -/
abbrev Pf : Type := Int × List (List Int)

theorem readsA_past3 {w : World} {a : Option Addr} {n g : Nat} {rs : List (List Int)} (h : ReadsA w a n rs) (hne : n = 0 ∨ ∀ x, a = some x → x.block ≠ g) (u v x : Value) : ReadsA (((w.setCell ⟨g, 0, none⟩ u).setCell ⟨g, 1, none⟩ v).setCell ⟨g, 2, none⟩ x) a n rs := by
 obtain ⟨h1, h2, h3⟩ := h
 refine ⟨h1, h2, ?_⟩
 rcases h3 with h3 | ⟨b, off, rfl, hc⟩
 ·exact .inl h3
 ·rcases hne with h0 | hne
  ·exact .inl h0
  ·refine .inr ⟨b, off, rfl, fun j hj i hi => ?_⟩
   have hb : b ≠ g := hne _ rfl
   rw [World.cell?_of_block (w := w) (by
    rw [Below.heap_setCell _ _ _ _ hb, Below.heap_setCell _ _ _ _ hb, Below.heap_setCell _ _ _ _ hb])]
   exact hc j hj i hi

/-- Rows that are read, and are the call's own or those that came in. -/
structure Part (B H : Nat) (w : World) (a0 : Option Addr) (n0 : Nat) (a : Option Addr) (n : Nat) (l : List (List Int)) : Prop where
 rd : ReadsA w a n l
 own : OwnS B w a n l ∨ (a = a0 ∧ n = n0)
 ap : n = 0 ∨ ∀ x, a = some x → x.block < H ∨ B ≤ x.block

theorem Part.below {B H : Nat} {w W : World} {a0 a : Option Addr} {n0 n : Nat} {l : List (List Int)} (h : Part B H w a0 n0 a n l) (k : Below w.heap.size w W) : Part B H W a0 n0 a n l :=
 ⟨h.rd.below k, h.own.imp (fun o => o.below k) id, h.ap⟩

theorem Part.past3 {B H : Nat} {w : World} {a0 a : Option Addr} {n0 n : Nat} {l : List (List Int)} (h : Part B H w a0 n0 a n l) {g : Nat} (h1 : H ≤ g) (h2 : g < B) (u v x : Value) : Part B H (((w.setCell ⟨g, 0, none⟩ u).setCell ⟨g, 1, none⟩ v).setCell ⟨g, 2, none⟩ x) a0 n0 a n l := by
 have hne : n = 0 ∨ ∀ y, a = some y → y.block ≠ g := h.ap.imp id fun k y hy => by have := k y hy; omega
 exact ⟨readsA_past3 h.rd hne u v x, h.own.imp (fun o => o.past3 hne u v x) id, h.ap⟩

theorem Part.low {B H : Nat} {w : World} {a0 a : Option Addr} {n0 n : Nat} {l : List (List Int)} (h : Part B H w a0 n0 a n l) (hB : H ≤ B) : Part H H w a0 n0 a n l :=
 ⟨h.rd, h.own.imp (fun o => o.mono hB) id, .inr fun _ _ => Nat.lt_or_ge _ _⟩

theorem Part.of {B H : Nat} {w : World} {a0 a : Option Addr} {n0 n : Nat} {l : List (List Int)} (h : OwnS B w a n l) : Part B H w a0 n0 a n l := by
 refine ⟨h.reads, .inl h, ?_⟩
 rcases h.2.2 with h0 | ⟨g2, off, rfl, hB, _⟩
 ·exact .inl h0
 ·exact .inr fun x hx => by cases hx; exact .inr hB

/-- The words of the loop. -/
structure AtCom (w : World) (m : Nat) (a b : Option Addr) (n k : Nat) (s : Pf × Pf × Pf) (a1 a2 a3 : Option Addr) (n1 n2 n3 c1 c2 c3 : Nat) (wx : World) : Prop where
 A : At3 wx w.heap.size (.int .i64 m) (.int .i64 s.2.1.1) (.slice a2 n2 c2)
 A2 : At3 wx (w.heap.size + 1) (.int .i64 m) (.int .i64 s.2.2.1) (.slice a3 n3 c3)
 Z1 : At3 wx (w.heap.size + 1 + 1) (.int .i64 0) (.int .i64 0) (.slice none 0 0)
 Z2 : At3 wx (w.heap.size + 1 + 1 + 1) (.int .i64 0) (.int .i64 0) (.slice none 0 0)
 Z3 : At3 wx (w.heap.size + 1 + 1 + 1 + 1) (.int .i64 0) (.int .i64 0) (.slice none 0 0)
 O : At3 wx (w.heap.size + 1 + 1 + 1 + 1 + 1) (.int .i64 m) (.int .i64 s.1.1) (.slice a1 n1 c1)
 po : OwnS (w.heap.size + 1 + 1 + 1 + 1 + 1 + 1) wx a1 n1 s.1.2
 pa : Part (w.heap.size + 1 + 1 + 1 + 1 + 1 + 1) w.heap.size wx a n a2 n2 s.2.1.2
 pb : Part (w.heap.size + 1 + 1 + 1 + 1 + 1 + 1) w.heap.size wx b k a3 n3 s.2.2.2
 bel : Below w.heap.size w wx

theorem AtCom.below {w : World} {m : Nat} {a b : Option Addr} {n k : Nat} {s : Pf × Pf × Pf} {a1 a2 a3 : Option Addr} {n1 n2 n3 c1 c2 c3 : Nat} {wx W : World} (h : AtCom w m a b n k s a1 a2 a3 n1 n2 n3 c1 c2 c3 wx) (q : Below wx.heap.size wx W) : AtCom w m a b n k s a1 a2 a3 n1 n2 n3 c1 c2 c3 W :=
 ⟨h.A.below q, h.A2.below q, h.Z1.below q, h.Z2.below q, h.Z3.below q, h.O.below q, h.po.below q, h.pa.below q, h.pb.below q, h.bel.trans (q.mono h.bel.size)⟩

end Go.Proofs.Ythpmehhfhngnbaa

