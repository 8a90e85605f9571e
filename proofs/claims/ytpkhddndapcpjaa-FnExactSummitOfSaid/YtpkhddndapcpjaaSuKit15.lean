/- Predicates on memory, continued: local structs beside stores, slices that are built or made. No function of the program is spoken of. -/
import Derived.Test.YtpkhddndapcpjaaSuBB
import Derived.Test.YtpkhddndapcpjaaSuKK
import Derived.Test.YtpkhddndapcpjaaSuPB
namespace Go.Proofs.Ytpkhddndapcpjaa
open Go.RowKit Go.ChangeShapes

theorem At3.all {w : World} {g : Nat} {u v x : Value} (h : At3 w g u v x) : w.cell? ⟨g, 0, none⟩ = some u ∧ w.cell? ⟨g, 1, none⟩ = some v ∧ w.cell? ⟨g, 2, none⟩ = some x := h.2.1
theorem At3.set3 {w : World} {g g2 : Nat} {u v x : Value} (h : At3 w g u v x) (hg : g2 ≠ g) (a b c : Value) : At3 (((w.setCell ⟨g2, 0, none⟩ a).setCell ⟨g2, 1, none⟩ b).setCell ⟨g2, 2, none⟩ c) g u v x :=
 ((h.setCell (p := ⟨g2, 0, none⟩) hg a).setCell (p := ⟨g2, 1, none⟩) hg b).setCell (p := ⟨g2, 2, none⟩) hg c
theorem Row8.set3 {w : World} {g g2 : Nat} {k : IntKind} {l : List Int} (h : Row8 w g k l) (hg : g2 ≠ g) (a b c : Value) : Row8 (((w.setCell ⟨g2, 0, none⟩ a).setCell ⟨g2, 1, none⟩ b).setCell ⟨g2, 2, none⟩ c) g k l :=
 ((h.setCell (p := ⟨g2, 0, none⟩) hg a).setCell (p := ⟨g2, 1, none⟩) hg b).setCell (p := ⟨g2, 2, none⟩) hg c
theorem OwnA.set3 {B : Nat} {w : World} {g2 : Nat} {a : Option Addr} {n cap : Nat} {rs : List (List Int)} (h : OwnA B w a n cap rs) (hg : g2 < B) (x y z : Value) : OwnA B (((w.setCell ⟨g2, 0, none⟩ x).setCell ⟨g2, 1, none⟩ y).setCell ⟨g2, 2, none⟩ z) a n cap rs :=
 ((h.setCell_below (p := ⟨g2, 0, none⟩) hg x).setCell_below (p := ⟨g2, 1, none⟩) hg y).setCell_below (p := ⟨g2, 2, none⟩) hg z
theorem below_set3 {B : Nat} {w W : World} (h : Below B w W) {g2 : Nat} (hg : B ≤ g2) (x y z : Value) : Below B w (((W.setCell ⟨g2, 0, none⟩ x).setCell ⟨g2, 1, none⟩ y).setCell ⟨g2, 2, none⟩ z) :=
 ((h.setCell (p := ⟨g2, 0, none⟩) hg x).setCell (p := ⟨g2, 1, none⟩) hg y).setCell (p := ⟨g2, 2, none⟩) hg z

/-- A slice that is built empty, or of one row. -/
theorem OwnAV.alloc {B : Nat} {w : World} {v : Value} {n : Nat} {rs : List (List Int)} (h : OwnAV B w v n rs) (o : Obj) : OwnAV B (w.alloc o) v n rs := h.drawn ((Below.refl _ _).alloc (Nat.le_refl _) o)
theorem own_at {B g : Nat} (W : World) (hg : W.heap.size = g) (hB : B ≤ W.heap.size) : OwnAV B (W.alloc (.cells #[] 53)) (.slice (some ⟨g, 0, none⟩) 0 0) 0 [] := by
 subst hg
 exact (OwnAV.empty W).low hB
theorem reads_at {g : Nat} (W : World) (r : List Int) (hl : r.length = 8) (t : TypeId) (hg : W.heap.size = g) : ReadsA (W.alloc (.cells #[.int .u8 (at8 r 0), .int .u8 (at8 r 1), .int .u8 (at8 r 2), .int .u8 (at8 r 3), .int .u8 (at8 r 4), .int .u8 (at8 r 5), .int .u8 (at8 r 6), .int .u8 (at8 r 7)] t)) (some ⟨g, 0, none⟩) 1 [r] := by
 subst hg
 exact readsA_one W r hl t
theorem ReadsA.grown {w w' : World} {a : Option Addr} {n : Nat} {rs : List (List Int)} {k : Option Nat} (h : ReadsA w a n rs) (hg : w.grownBy w' k) (hne : ∀ x, a = some x → some x.block ≠ k) : ReadsA w' a n rs := by
 obtain ⟨h1, h2, h | ⟨b, off, ha, hc⟩⟩ := h
 ·exact ⟨h1, h2, .inl h⟩
 ·refine ⟨h1, h2, .inr ⟨b, off, ha, fun j hj i hi => hg.cell (hc j hj i hi) ?_⟩⟩
  exact hne ⟨b, off, none⟩ ha

theorem At3.set8 {w : World} {g g2 o : Nat} {u v x : Value} (h : At3 w g u v x) (hg : g2 ≠ g) (v0 v1 v2 v3 v4 v5 v6 v7 : Value) :
  At3 ((((((((w.setCell ⟨g2, o, none⟩ v0).setCell ⟨g2, o + 1, none⟩ v1).setCell ⟨g2, o + 2, none⟩ v2).setCell ⟨g2, o + 3, none⟩ v3).setCell ⟨g2, o + 4, none⟩ v4).setCell ⟨g2, o + 5, none⟩ v5).setCell ⟨g2, o + 6, none⟩ v6).setCell ⟨g2, o + 7, none⟩ v7) g u v x :=
 (((((((h.setCell (p := ⟨g2, o, none⟩) hg v0).setCell (p := ⟨g2, o + 1, none⟩) hg v1).setCell (p := ⟨g2, o + 2, none⟩) hg v2).setCell (p := ⟨g2, o + 3, none⟩) hg v3).setCell (p := ⟨g2, o + 4, none⟩) hg v4).setCell (p := ⟨g2, o + 5, none⟩) hg v5).setCell (p := ⟨g2, o + 6, none⟩) hg v6).setCell (p := ⟨g2, o + 7, none⟩) hg v7

/-- Where the program's loop has come to: the slice at gb is being written. -/
structure AtMade (w wx : World) (m : Nat) (p : Int) (a : Option Addr) (n cap gb c : Nat) (rows : List (List Int)) (len : Nat) : Prop where
 box : At3 wx w.heap.size (.int .i64 m) (.int .i64 p) (.slice a n cap)
 res : At3 wx (w.heap.size + 1) (.int .i64 0) (.int .i64 0) (.slice none 0 0)
 own : OwnA (w.heap.size + 1 + 1) wx (some ⟨gb, 0, none⟩) len c rows
 bel : Below w.heap.size w wx
 lo : w.heap.size + 1 + 1 ≤ gb
 hi : gb < wx.heap.size

theorem AtMade.below {w wx W : World} {m : Nat} {p : Int} {a : Option Addr} {n cap gb c len : Nat} {rows : List (List Int)} (h : AtMade w wx m p a n cap gb c rows len) (k : Below wx.heap.size wx W) : AtMade w W m p a n cap gb c rows len :=
 ⟨h.box.below k, h.res.below k, h.own.below k, h.bel.trans (k.mono h.bel.size), h.lo, Nat.lt_of_lt_of_le h.hi k.size⟩

theorem AtMade.store {w wx : World} {m : Nat} {p : Int} {a : Option Addr} {n cap gb c len : Nat} {rows : List (List Int)} (h : AtMade w wx m p a n cap gb c rows len) (j : Nat) (hj : j < len) (r : List Int) (hr : r.length = 8) :
  AtMade w ((((((((wx.setCell ⟨gb, j * 8, none⟩ (.int .u8 (at8 r 0))).setCell ⟨gb, j * 8 + 1, none⟩ (.int .u8 (at8 r 1))).setCell ⟨gb, j * 8 + 2, none⟩ (.int .u8 (at8 r 2))).setCell ⟨gb, j * 8 + 3, none⟩ (.int .u8 (at8 r 3))).setCell ⟨gb, j * 8 + 4, none⟩ (.int .u8 (at8 r 4))).setCell ⟨gb, j * 8 + 5, none⟩ (.int .u8 (at8 r 5))).setCell ⟨gb, j * 8 + 6, none⟩ (.int .u8 (at8 r 6))).setCell ⟨gb, j * 8 + 7, none⟩ (.int .u8 (at8 r 7))) m p a n cap gb c (rows.set j r) len :=
 have hlo := h.lo
 ⟨h.box.set8 (by omega) _ _ _ _ _ _ _ _, h.res.set8 (by omega) _ _ _ _ _ _ _ _, h.own.store j hj r hr, below_fill8a h.bel gb (by omega) _ _ _ _ _ _ _ _ _, h.lo, by have := h.hi; simpa [World.setCell] using this⟩

theorem rows_ext2 {a b : List (List Int)} (h1 : a.length = b.length) (h2 : ∀ j, j < a.length → rowAt a j = rowAt b j) : a = b := by
 refine List.ext_getElem h1 fun j h3 h4 => ?_
 have := h2 j h3
 rwa [rowAt_lt h3, rowAt_lt h4] at this

theorem OwnA.sub {B : Nat} {w : World} {gb n c : Nat} {rows : List (List Int)} (h : OwnA B w (some ⟨gb, 0, none⟩) n c rows) (f j : Nat) (_hf : f ≤ j) (hj : j ≤ n) : OwnS B w (some ⟨gb, f * 8, none⟩) (j - f) ((rows.take j).drop f) := by
 have hl := h.len
 have hb := h.lo _ rfl
 refine ⟨fun r hr => h.rows r (List.mem_of_mem_take (List.mem_of_mem_drop hr)), by simp; omega, .inr ⟨gb, f * 8, rfl, hb.1, hb.2, fun t ht i hi => ?_, fun k => h.frozenAt k⟩⟩
 have h1 := h.cellAt (f + t) (by omega) i hi
 rw [show f * 8 + t * 8 + i = (f + t) * 8 + i by omega, h1]
 congr 3
 simp [rowAt, List.getD, List.getElem?_drop, show f + t < j by omega]

/-- What the program's functions hand back: a normal form, its factors the call's own. -/
def RetNS (B : Nat) (w : World) (s p : Int) (rs : List (List Int)) (e : Ending) (w' : World) : Prop :=
 ∃ a n cap, e = .returned (.agg #[.int .i64 s, .int .i64 p, .slice a n cap]) ∧ n ≤ cap ∧ OwnS B w' a n rs ∧ Below w.heap.size w w'

theorem ReadsA.news_at {w : World} {a : Option Addr} {m : Nat} {ys : List (List Int)} (h : ReadsA w a m ys) {ad : Addr} (ha : a = some ad) : ∀ j u, (flat8 ys)[j]? = some u → w.cell? (ad.add j) = some u := by
 subst ha
 exact h.news

/-- A slice that grew out of another one is the call's own. -/
theorem owned_new {B m n : Nat} {W w5 : World} {v : Value} {l : List (List Int)} {s : List Int} (h : w5.ownsRow W.heap.size 53 8 v (n + 1) (flat8 l ++ flat8 [s])) (hB : B ≤ W.heap.size) (hl : Sims m l) (hs : Sim m s) :
  ∃ gb c, v = .slice (some ⟨gb, 0, none⟩) (n + 1) c ∧ OwnA B w5 (some ⟨gb, 0, none⟩) (n + 1) c (l ++ [s]) ∧ B ≤ gb ∧ gb < w5.heap.size := by
 have h1 : OwnAV W.heap.size w5 v (n + 1) (l ++ [s]) := by
  refine ⟨fun r hr => ?_, by rw [flat8_append]; exact h⟩
  rcases List.mem_append.1 hr with hr | hr
  ·exact (hl r hr).len
  ·rw [List.mem_singleton.1 hr]; exact hs.len
 obtain ⟨a, c, rfl, ho⟩ := h1.form
 obtain ⟨g, rfl, hg1, hg2⟩ := ho.block (Nat.succ_pos n)
 exact ⟨g, c, rfl, ho.mono hB, Nat.le_trans hB hg1, hg2⟩

theorem below_grown0 {B : Nat} {w wr w1 : World} (hbl : Below B w wr) (hg : wr.grownBy w1 none) (hs : B ≤ wr.heap.size) : Below B w w1 := hbl.grown hg hs (fun k hk => by cases hk)

end Go.Proofs.Ytpkhddndapcpjaa

