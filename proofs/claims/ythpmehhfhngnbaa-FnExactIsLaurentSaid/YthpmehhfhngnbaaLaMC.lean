/- Simple braids: the program's rows: nothing, the half turn, one after the other, the way back. The model: one simple braid after the other. The model: the half turn and nothing. The turn of a simple braid, both. The model: the way back. Complements, both. The model: the letters that begin a simple braid. Exchanges of neighbours, both. The library's sort of at most eight bytes, by its text: exchanges of neighbours. The program: is a row a simple braid? The program: the letters that begin a simple braid. Left complements, both. Copies and comparisons of simple braids. A law for the walk: a slice of numbers is appended to one that is the call's own; the appended one may be nil or empty. No function of the program is spoken of. Laws for the walk: numbers are appended to a slice that is the call's own, beside another slice that stays. No function of the program is spoken of. Laws for the walk: rows of eight bytes are appended to a slice that is the call's own. No function of the program is spoken of. Predicates on memory: a slice of rows of the call's own beside boxes of rows. No function of the program is spoken of. Contracts of the small functions that the laws on normal forms call: sizes, copies. Contracts of the small functions that every law calls, continued: braids are copied, compared, marked. Contracts of the small functions that every law calls, continued: numbers are written into a braid's letters and found there again. The contracts that the laws' walks use, in the words of intervals of blocks. Comparisons and marks of slices of numbers, in the forms in which the laws' walks use them. Contracts of the small functions that the laws on normal forms call, continued: comparisons. Contracts of the small functions that the laws on normal forms call, continued: numbers are written into the factors and found there again. A slice of rows of the call's own that need not begin where its block begins: numbers are written into it. What a list of exchanges makes: the program. What is a braid: the model's answer and the program's. The model: is a row a simple braid? The model: are both rows simple braids? Normal forms: small bounds; equal ones are found equal by the laws' own function. The program: a simple braid turned so many times. The model: simple braids turned. -/
import Derived.Test.YthpmehhfhngnbaaLaMA
import Derived.Deep.RegionHeld3
import Derived.BigQuiet
import Derived.IntWalk
import Derived.Deep.DeepCutAuto
import Derived.Test.YthpmehhfhngnbaaProg
import Derived.ChangeKeysEq
import Derived.Laws.AppendOwnNone
import Derived.Maps.AppendAt
import Derived.Deep.LoopGhost
import Derived.OpenShut
import Derived.Test.YthpmehhfhngnbaaLaMB
namespace Go.Proofs.Ythpmehhfhngnbaa
open Go.RowKit Go.ChangeShapes

end Go.Proofs.Ythpmehhfhngnbaa

namespace Go.Proofs.Ythpmehhfhngnbaa
open Go.RowKit Go.ChangeShapes

end Go.Proofs.Ythpmehhfhngnbaa

namespace Go.Proofs.Ythpmehhfhngnbaa
open Go.RowKit Go.ChangeShapes

end Go.Proofs.Ythpmehhfhngnbaa

namespace Go.Proofs.Ythpmehhfhngnbaa
open Go.RowKit Go.ChangeShapes

end Go.Proofs.Ythpmehhfhngnbaa

namespace Go.Proofs.Ythpmehhfhngnbaa
open Go.RowKit Go.ChangeShapes

end Go.Proofs.Ythpmehhfhngnbaa

namespace Go.Proofs.Ythpmehhfhngnbaa
open Go.RowKit Go.ChangeShapes

end Go.Proofs.Ythpmehhfhngnbaa

namespace Go.Proofs.Ythpmehhfhngnbaa
open Go.RowKit Go.ChangeShapes

end Go.Proofs.Ythpmehhfhngnbaa

namespace Go.Proofs.Ythpmehhfhngnbaa
open Go.RowKit Go.ChangeShapes

end Go.Proofs.Ythpmehhfhngnbaa

namespace Go.Proofs.Ythpmehhfhngnbaa
open Go.RowKit Go.ChangeShapes

theorem Wrote.trans {lo hi : Nat} {w w1 w2 : World} (h : Wrote lo hi w w1) (k : Wrote lo hi w1 w2) : Wrote lo hi w w2 :=
 ⟨k.os.trans h.os, k.tape.trans h.tape, k.output.trans h.output, Nat.le_trans h.size k.size, fun j hj hd => (k.block j (Nat.lt_of_lt_of_le hj h.size) hd).trans (h.block j hj hd)⟩
theorem Wrote.set {lo hi : Nat} {w w1 : World} (h : Wrote lo hi w w1) {p : Addr} (h1 : lo ≤ p.block) (h2 : p.block < hi) (x : Value) : Wrote lo hi w (w1.setCell p x) :=
 h.trans ⟨rfl, rfl, rfl, by simp [World.setCell], fun k _ hd => Below.heap_setCell _ _ _ _ (by omega)⟩
end Go.Proofs.Ythpmehhfhngnbaa

namespace Go.Proofs.Ythpmehhfhngnbaa
open Go.RowKit Go.ChangeShapes

end Go.Proofs.Ythpmehhfhngnbaa

namespace Go.Proofs.Ythpmehhfhngnbaa
open Go.RowKit Go.ChangeShapes

end Go.Proofs.Ythpmehhfhngnbaa

namespace Go.Proofs.Ythpmehhfhngnbaa
open Go.RowKit Go.ChangeShapes

end Go.Proofs.Ythpmehhfhngnbaa

namespace Go.Proofs.Ythpmehhfhngnbaa
open Go.RowKit Go.ChangeShapes

end Go.Proofs.Ythpmehhfhngnbaa

namespace Go.Proofs.Ythpmehhfhngnbaa
open Go.RowKit

end Go.Proofs.Ythpmehhfhngnbaa

namespace Go.Proofs.Ythpmehhfhngnbaa
open Go.RowKit

/-- The slice at a lies in another block than the growing slice v. -/
def Sep (w : World) (v : Value) (a : Option Addr) : Prop := ∀ x, a = some x → x.block < w.heap.size ∧ v.ownBlock ≠ some x.block

theorem Sep.below {w w' : World} {v : Value} {a : Option Addr} (h : Sep w v a) (hs : w.heap.size ≤ w'.heap.size) : Sep w' v a := fun x hx => ⟨Nat.lt_of_lt_of_le (h x hx).1 hs, (h x hx).2⟩

end Go.Proofs.Ythpmehhfhngnbaa

namespace Go.Proofs.Ythpmehhfhngnbaa
open Go.RowKit Go.ChangeShapes

/-- The slice value v of n rows is the call's own, in blocks from B on. -/
def OwnAV (B : Nat) (w : World) (v : Value) (n : Nat) (rs : List (List Int)) : Prop := Rows8 rs ∧ w.ownsRow B 78 8 v n (flat8 rs)

theorem OwnAV.form {B : Nat} {w : World} {v : Value} {n : Nat} {rs : List (List Int)} (h : OwnAV B w v n rs) : ∃ a cap, v = .slice a n cap ∧ OwnA B w a n cap rs := by
 obtain ⟨h8, hh⟩ := h
 have h1 := hh
 rcases h1.2 with ⟨hv, h0⟩ | ⟨g, c, cur, hv, _⟩
 ·subst h0
  exact ⟨none, 0, hv, h8, by rw [hv] at hh; exact hh⟩
 ·exact ⟨_, c, hv, h8, by rw [hv] at hh; exact hh⟩

theorem OwnAV.of {B : Nat} {w : World} {a : Option Addr} {n cap : Nat} {rs : List (List Int)} (h : OwnA B w a n cap rs) : OwnAV B w (.slice a n cap) n rs := h

theorem OwnAV.rows {B : Nat} {w : World} {v : Value} {n : Nat} {rs : List (List Int)} (h : OwnAV B w v n rs) : Rows8 rs := h.1

theorem OwnAV.len {B : Nat} {w : World} {v : Value} {n : Nat} {rs : List (List Int)} (h : OwnAV B w v n rs) : rs.length = n := by
 have := h.2.1
 rw [flat8_len] at this
 omega

theorem OwnAV.nil (B : Nat) (w : World) : OwnAV B w (.slice none 0 0) 0 [] := OwnA.nil B w

theorem OwnAV.empty (w : World) : OwnAV w.heap.size (w.alloc (.cells #[] 78)) (.slice (some ⟨w.heap.size, 0, none⟩) 0 0) 0 [] := by
 have := World.ownsRow_lit (base := w.heap.size) (size := 8) (e := 78) w #[] 0 (Nat.le_refl _) (Nat.zero_le _) rfl
 exact ⟨(fun _ hr => absurd hr List.not_mem_nil), this⟩

theorem OwnAV.low {B B' : Nat} {w : World} {v : Value} {n : Nat} {rs : List (List Int)} (h : OwnAV B w v n rs) (hB : B' ≤ B) : OwnAV B' w v n rs := by
 obtain ⟨a, cap, rfl, ho⟩ := h.form
 exact ho.mono hB

theorem OwnAV.drew {B : Nat} {w : World} {v : Value} {n : Nat} {rs : List (List Int)} (h : OwnAV B w v n rs) : OwnAV B w.drew v n rs := h

end Go.Proofs.Ythpmehhfhngnbaa

namespace Go.Proofs.Ythpmehhfhngnbaa
open Go.RowKit Go.ChangeShapes

/-- The slice at gb holds the rows; below the size of w all is as it was. -/
structure AtWei (w wx : World) (gb n c : Nat) (rows : List (List Int)) : Prop where
 own : OwnA w.heap.size wx (some ⟨gb, 0, none⟩) n c rows
 bel : Below w.heap.size w wx
 lo : w.heap.size ≤ gb
 hi : gb < wx.heap.size

theorem AtWei.below {w wx W : World} {gb n c : Nat} {rows : List (List Int)} (h : AtWei w wx gb n c rows) (hb : Below wx.heap.size wx W) : AtWei w W gb n c rows :=
 ⟨h.own.below hb, below_go h.bel hb h.bel.size, h.lo, Nat.lt_of_lt_of_le h.hi hb.size⟩
theorem AtWei.drew {w wx : World} {gb n c : Nat} {rows : List (List Int)} (h : AtWei w wx gb n c rows) : AtWei w wx.drew gb n c rows := h.below (Below.refl _ _).drew
theorem AtWei.alloc {w wx : World} {gb n c : Nat} {rows : List (List Int)} (h : AtWei w wx gb n c rows) (o : Obj) : AtWei w (wx.alloc o) gb n c rows := h.below ((Below.refl _ _).alloc (Nat.le_refl _) o)

theorem AtWei.setCell {w wx : World} {gb n c : Nat} {rows : List (List Int)} (h : AtWei w wx gb n c rows) {p : Addr} (hp : p.block ≠ gb) (hl : w.heap.size ≤ p.block) (v : Value) : AtWei w (wx.setCell p v) gb n c rows := by
 refine ⟨?_, h.bel.setCell hl v, h.lo, by simpa [World.setCell] using h.hi⟩
 obtain ⟨h0, h1, h2⟩ := h.own
 refine ⟨h0, h1, ?_⟩
 rcases h2 with h2 | ⟨g, c', cur, hv, hg, hh, r⟩
 ·exact .inl h2
 ·refine .inr ⟨g, c', cur, hv, hg, ?_, r⟩
  simp only [Value.slice.injEq, Option.some.injEq, Addr.mk.injEq] at hv
  rw [Below.heap_setCell _ _ _ _ (fun e => hp (by rw [hv.1.1]; exact e.symm)), hh]

/-- A row is stored. -/
theorem AtWei.store {w wx : World} {gb n c : Nat} {rows : List (List Int)} (h : AtWei w wx gb n c rows) (k : Nat) (hk : k < n) (r : List Int) (hr : r.length = 8) :
  AtWei w ((((((((wx.setCell ⟨gb, k * 8, none⟩ (.int .u8 (at8 r 0))).setCell ⟨gb, k * 8 + 1, none⟩ (.int .u8 (at8 r 1))).setCell ⟨gb, k * 8 + 2, none⟩ (.int .u8 (at8 r 2))).setCell ⟨gb, k * 8 + 3, none⟩ (.int .u8 (at8 r 3))).setCell ⟨gb, k * 8 + 4, none⟩ (.int .u8 (at8 r 4))).setCell ⟨gb, k * 8 + 5, none⟩ (.int .u8 (at8 r 5))).setCell ⟨gb, k * 8 + 6, none⟩ (.int .u8 (at8 r 6))).setCell ⟨gb, k * 8 + 7, none⟩ (.int .u8 (at8 r 7))) gb n c (rows.set k r) :=
 ⟨h.own.store k hk r hr, (((((((h.bel.setCell (p := ⟨gb, k * 8, none⟩) h.lo _).setCell (p := ⟨gb, k * 8 + 1, none⟩) h.lo _).setCell (p := ⟨gb, k * 8 + 2, none⟩) h.lo _).setCell (p := ⟨gb, k * 8 + 3, none⟩) h.lo _).setCell (p := ⟨gb, k * 8 + 4, none⟩) h.lo _).setCell (p := ⟨gb, k * 8 + 5, none⟩) h.lo _).setCell (p := ⟨gb, k * 8 + 6, none⟩) h.lo _).setCell (p := ⟨gb, k * 8 + 7, none⟩) h.lo _, h.lo, by have := h.hi; simpa [World.setCell] using this⟩

theorem AtWei.row {w wx : World} {gb n c : Nat} {rows : List (List Int)} (h : AtWei w wx gb n c rows) (k : Nat) (hk : k < n) : Cells8 wx gb (k * 8) (rowAt rows k) := h.own.cellAt k hk

theorem AtWei.cap {w wx : World} {gb n c : Nat} {rows : List (List Int)} (h : AtWei w wx gb n c rows) : n ≤ c := by
 rcases h.own.2.2 with ⟨hv, h0⟩ | ⟨g, c', cur, hv, _, _, h1, _⟩
 ·omega
 ·simp only [Value.slice.injEq] at hv
  omega

end Go.Proofs.Ythpmehhfhngnbaa

namespace Go.Proofs.Ythpmehhfhngnbaa
open Go.RowKit Go.ChangeShapes

end Go.Proofs.Ythpmehhfhngnbaa

namespace Go.Proofs.Ythpmehhfhngnbaa
open Go.RowKit

/-- What a function that makes a braid hands back. -/
def MadeBraid (w : World) (s : Int) (xs : List Int) (e : Ending) (w' : World) : Prop :=
 ∃ a n cap, e = .returned (.agg #[.int .i64 s, .slice a n cap]) ∧ Own w.heap.size w' a n cap xs ∧ Below w.heap.size w w'

/-- Two slices of different lengths differ. -/
theorem eqInt64S_len (a b : Option Addr) (n m ca cb : Nat) (w : World) (h : n ≠ m) :
  Calls Try.prog 58 #[.slice a n ca, .slice b m cb] w fun e w' => e = .returned (.bool false) ∧ w = w' := by
 have h1 : ((n : Int) != (m : Int)) = true := by simp; omega
 go_enter Try.func58, Try.ntmps58
 go_wp2
 go_ret
 exact ⟨rfl, rfl⟩

set_option maxHeartbeats 400000 in
theorem eqInt64S_same (a b : Option Addr) (n ca cb : Nat) (xs ys : List Int) (w : World) (ha : Reads w a n xs) (hb : Reads w b n ys) (hn : n ≤ maxLen) :
  Calls Try.prog 58 #[.slice a n ca, .slice b n cb] w fun e w' => e = .returned (.bool (decide (xs = ys))) ∧ Below w.heap.size w w' := by
 unfold maxLen at hn
 have h1 : ((n : Int) != (n : Int)) = false := by simp
 have hla := ha.len
 have hlb := hb.len
 have HLA := Lib.hid hla; clear hla
 have HLB := Lib.hid hlb; clear hlb
 rcases Nat.eq_zero_or_pos n with h0 | h0
 ·subst h0
  have HA := Lib.hid ha; clear ha
  have HB := Lib.hid hb; clear hb
  have hx : xs = [] := List.eq_nil_of_length_eq_zero HLA.out
  have hy : ys = [] := List.eq_nil_of_length_eq_zero HLB.out
  have HX := Lib.hid hx; clear hx
  have HY := Lib.hid hy; clear hy
  go_enter Try.func58, Try.ntmps58
  go_wp2
  refine wp_loop_rounds 1 ?_; rw [rounds_succ]
  go_wp2
  go_ret
  rw [HX.out, HY.out]
  exact ⟨rfl, Below.refl _ _⟩
 ·obtain ⟨ba, oa, rfl, hba, hca⟩ := ha.cells h0
  obtain ⟨bb, ob, rfl, hbb, hcb⟩ := hb.cells h0
  have HCA := Lib.hid hca; clear hca
  have HCB := Lib.hid hcb; clear hcb
  clear ha hb
  go_enter Try.func58, Try.ntmps58
  go_wp2
  go_loopw [5] (fun i wr => ∃ k : Nat, k ≤ n ∧ i = .int .i64 k ∧ Hid (∀ j, j < k → xs.getD j 0 = ys.getD j 0) ∧ Below w.heap.size w wr) (fun i _ => n - (intOf i).toNat)
  case atStart => exact ⟨0, Nat.zero_le _, rfl, Lib.hid (fun j hj => absurd hj (Nat.not_lt_zero _)), Below.refl _ _⟩
  case round =>
   obtain ⟨k, hk, rfl, HS, hbl⟩ := hrel
   by_cases hlt : k < n
   ·obtain ⟨x, hx⟩ : ∃ x, x = xs.getD k 0 := ⟨_, rfl⟩
    obtain ⟨y, hy⟩ : ∃ y, y = ys.getD k 0 := ⟨_, rfl⟩
    have c1 : wr.cell? ⟨ba, oa + k, none⟩ = some (.int .i64 x) := by rw [hx]; exact (hbl.cell (by exact hba)).trans (HCA.out k hlt)
    have c2 : wr.cell? ⟨bb, ob + k, none⟩ = some (.int .i64 y) := by rw [hy]; exact (hbl.cell (by exact hbb)).trans (HCB.out k hlt)
    have HX := Lib.hid hx; clear hx
    have HY := Lib.hid hy; clear hy
    have g0 : 0 ≤ (k : Int) := by omega
    have g1 : (k : Int) < (n : Int) := by omega
    by_cases hxy : x = y
    ·have t1 : (x != y) = false := by simp [hxy]
     have HXY := Lib.hid hxy; clear hxy
     go_wp2
     go_quiet (fail)
     go_wp2
     go_roundw
     case rel =>
      refine ⟨k + 1, by omega, by go_num, Lib.hid ?_, hbl.trans (below_draws _ _ _)⟩
      intro j hj
      by_cases hjk : j = k
      ·rw [hjk, ← HX.out, ← HY.out, HXY.out]
      ·exact HS.out j (by omega)
     case measure => simp [intOf]; omega
    ·have t1 : (x != y) = true := by simp [hxy]
     have HXY := Lib.hid hxy; clear hxy
     go_wp2
     go_quiet (fail)
     go_wp2
     go_ret
     refine ⟨?_, hbl.trans (below_draws _ _ _)⟩
     have : xs ≠ ys := fun e => HXY.out (by rw [HX.out, HY.out, e])
     simp [this]
   ·have hkn : k = n := by omega
    have HK := Lib.hid hkn; clear hkn
    go_wp2
    go_ret
    refine ⟨?_, hbl⟩
    have : xs = ys := eq_of_getD xs ys (HLA.out.trans HLB.out.symm) (by rw [HLA.out, ← HK.out]; exact HS.out)
    simp [this]

theorem eqInt64S_any (a b : Option Addr) (n m ca cb : Nat) (xs ys : List Int) (w : World) (ha : Reads w a n xs) (hb : Reads w b m ys) (hn : n ≤ maxLen) :
  Calls Try.prog 58 #[.slice a n ca, .slice b m cb] w fun e w' => e = .returned (.bool (decide (xs = ys))) ∧ Below w.heap.size w w' := by
 by_cases h : n = m
 ·subst h
  exact eqInt64S_same a b n ca cb xs ys w ha hb hn
 ·refine (eqInt64S_len a b n m ca cb w h).mono fun e w' ⟨he, hw⟩ => ?_
  subst hw
  refine ⟨?_, Below.refl _ _⟩
  have : xs ≠ ys := fun e => h (by rw [← ha.len, ← hb.len, e])
  rw [he]
  simp [this]

end Go.Proofs.Ythpmehhfhngnbaa

namespace Go.Proofs.Ythpmehhfhngnbaa
open Go.RowKit

end Go.Proofs.Ythpmehhfhngnbaa

namespace Go.Proofs.Ythpmehhfhngnbaa
open Go.RowKit

end Go.Proofs.Ythpmehhfhngnbaa

namespace Go.Proofs.Ythpmehhfhngnbaa
open Go.RowKit Go.ChangeShapes

end Go.Proofs.Ythpmehhfhngnbaa

namespace Go.Proofs.Ythpmehhfhngnbaa
open Go.RowKit Go.ChangeShapes

theorem At3.cells {w : World} {g : Nat} {u v x : Value} (h : At3 w g u v x) : w.cell? ⟨g, 0, none⟩ = some u ∧ w.cell? ⟨g, 1, none⟩ = some v ∧ w.cell? ⟨g, 2, none⟩ = some x := h.2.1

theorem ReadsA.same {w : World} {a b : Option Addr} {n m : Nat} {rs : List (List Int)} (ha : ReadsA w a n rs) (hb : ReadsA w b m rs) : n = m := by rw [← ha.len, ← hb.len]

end Go.Proofs.Ythpmehhfhngnbaa

namespace Go.Proofs.Ythpmehhfhngnbaa
open Go.RowKit Go.ChangeShapes

/-- The slice of rows is the call's own, in a block from lo to hi - 1. -/
def OwnAIn (lo hi : Nat) (w : World) (a : Option Addr) (n cap : Nat) (rs : List (List Int)) : Prop := OwnA lo w a n cap rs ∧ ∀ x, a = some x → x.block < hi

theorem OwnAIn.below {lo hi : Nat} {w w' : World} {a : Option Addr} {n cap : Nat} {rs : List (List Int)} (h : OwnAIn lo hi w a n cap rs) (k : Below w.heap.size w w') : OwnAIn lo hi w' a n cap rs := ⟨h.1.below k, h.2⟩
theorem OwnAIn.alloc {lo hi : Nat} {w : World} {a : Option Addr} {n cap : Nat} {rs : List (List Int)} (h : OwnAIn lo hi w a n cap rs) (o : Obj) : OwnAIn lo hi (w.alloc o) a n cap rs := ⟨h.1.alloc o, h.2⟩
theorem OwnAIn.drew {lo hi : Nat} {w : World} {a : Option Addr} {n cap : Nat} {rs : List (List Int)} (h : OwnAIn lo hi w a n cap rs) : OwnAIn lo hi w.drew a n cap rs := h
theorem OwnAIn.reads {lo hi : Nat} {w : World} {a : Option Addr} {n cap : Nat} {rs : List (List Int)} (h : OwnAIn lo hi w a n cap rs) : ReadsA w a n rs := h.1.reads
theorem OwnA.within {B : Nat} {w : World} {a : Option Addr} {n cap : Nat} {rs : List (List Int)} (h : OwnA B w a n cap rs) : OwnAIn B w.heap.size w a n cap rs := ⟨h, fun x hx => (h.lo x hx).2⟩

/-- The slice of rows that was there before. -/
def ReadsAOld (hi : Nat) (w : World) (a : Option Addr) (n : Nat) (rs : List (List Int)) : Prop := ReadsA w a n rs ∧ (n = 0 ∨ ∃ b off, a = some ⟨b, off, none⟩ ∧ b < hi)

theorem ReadsA.old {w : World} {a : Option Addr} {n : Nat} {rs : List (List Int)} (h : ReadsA w a n rs) : ReadsAOld w.heap.size w a n rs := by
 refine ⟨h, ?_⟩
 rcases Nat.eq_zero_or_pos n with h0 | h0
 ·exact .inl h0
 ·obtain ⟨b, off, ha, hb, _⟩ := h.cells h0
  exact .inr ⟨b, off, ha, hb⟩

theorem ReadsAOld.below {hi : Nat} {w w' : World} {a : Option Addr} {n : Nat} {rs : List (List Int)} (h : ReadsAOld hi w a n rs) (k : Below w.heap.size w w') : ReadsAOld hi w' a n rs := ⟨h.1.below k, h.2⟩
theorem ReadsAOld.alloc {hi : Nat} {w : World} {a : Option Addr} {n : Nat} {rs : List (List Int)} (h : ReadsAOld hi w a n rs) (o : Obj) : ReadsAOld hi (w.alloc o) a n rs := ⟨h.1.alloc o, h.2⟩
theorem ReadsAOld.drew {hi : Nat} {w : World} {a : Option Addr} {n : Nat} {rs : List (List Int)} (h : ReadsAOld hi w a n rs) : ReadsAOld hi w.drew a n rs := h

end Go.Proofs.Ythpmehhfhngnbaa

namespace Go.Proofs.Ythpmehhfhngnbaa
open Go.RowKit Go.ChangeShapes

/-- The slice is empty, or leads to rows of the call's own in a block from B on, and holds the rows. -/
def OwnS (B : Nat) (w : World) (a : Option Addr) (n : Nat) (rs : List (List Int)) : Prop :=
 Rows8 rs ∧ rs.length = n ∧ (n = 0 ∨ ∃ g off, a = some ⟨g, off, none⟩ ∧ B ≤ g ∧ g < w.heap.size ∧ (∀ j, j < n → ∀ i, i < 8 → w.cell? ⟨g, off + j * 8 + i, none⟩ = some (.int .u8 (at8 (rowAt rs j) i))) ∧ ∀ k, w.frozen? ⟨g, k, none⟩ = false)

theorem OwnS.nil (B : Nat) (w : World) (a : Option Addr) : OwnS B w a 0 [] := ⟨(fun _ hr => absurd hr List.not_mem_nil), rfl, .inl rfl⟩

theorem OwnS.heap {B : Nat} {w w' : World} {a : Option Addr} {n : Nat} {rs : List (List Int)} (h : OwnS B w a n rs) (hs : w.heap.size ≤ w'.heap.size) (hb : ∀ x, a = some x → x.block < w.heap.size → B ≤ x.block → w'.heap[x.block]? = w.heap[x.block]?) : OwnS B w' a n rs := by
 obtain ⟨h1, h2, h | ⟨g, off, ha, hB, hg, hc, hf⟩⟩ := h
 ·exact ⟨h1, h2, .inl h⟩
 ·have e := hb _ ha hg hB
  exact ⟨h1, h2, .inr ⟨g, off, ha, hB, Nat.lt_of_lt_of_le hg hs, fun j hj i hi => by rw [World.cell?_of_block (w := w) (a := ⟨g, off + j * 8 + i, none⟩) e]; exact hc j hj i hi, fun k => by rw [World.frozen?_of_block (w := w) (a := ⟨g, k, none⟩) e]; exact hf k⟩⟩

theorem OwnS.below {B : Nat} {w w' : World} {a : Option Addr} {n : Nat} {rs : List (List Int)} (h : OwnS B w a n rs) (k : Below w.heap.size w w') : OwnS B w' a n rs := h.heap k.size fun _ _ hx _ => k.block _ hx
theorem OwnS.alloc {B : Nat} {w : World} {a : Option Addr} {n : Nat} {rs : List (List Int)} (h : OwnS B w a n rs) (o : Obj) : OwnS B (w.alloc o) a n rs := h.below ((Below.refl _ _).alloc (Nat.le_refl _) o)
theorem OwnS.drew {B : Nat} {w : World} {a : Option Addr} {n : Nat} {rs : List (List Int)} (h : OwnS B w a n rs) : OwnS B w.drew a n rs := h
theorem OwnS.mono {B B' : Nat} {w : World} {a : Option Addr} {n : Nat} {rs : List (List Int)} (h : OwnS B w a n rs) (hB : B' ≤ B) : OwnS B' w a n rs := by
 obtain ⟨h1, h2, h | ⟨g, off, ha, hg, r⟩⟩ := h
 ·exact ⟨h1, h2, .inl h⟩
 ·exact ⟨h1, h2, .inr ⟨g, off, ha, Nat.le_trans hB hg, r⟩⟩
theorem OwnS.rows {B : Nat} {w : World} {a : Option Addr} {n : Nat} {rs : List (List Int)} (h : OwnS B w a n rs) : Rows8 rs := h.1
theorem OwnS.len {B : Nat} {w : World} {a : Option Addr} {n : Nat} {rs : List (List Int)} (h : OwnS B w a n rs) : rs.length = n := h.2.1
theorem OwnS.reads {B : Nat} {w : World} {a : Option Addr} {n : Nat} {rs : List (List Int)} (h : OwnS B w a n rs) : ReadsA w a n rs := by
 obtain ⟨h1, h2, h | ⟨g, off, ha, _, _, hc, _⟩⟩ := h
 ·exact ⟨h2, h1, .inl h⟩
 ·exact ⟨h2, h1, .inr ⟨g, off, ha, hc⟩⟩
theorem OwnS.setCell_below {B : Nat} {w : World} {a : Option Addr} {n : Nat} {rs : List (List Int)} (h : OwnS B w a n rs) {p : Addr} (hp : p.block < B) (u : Value) : OwnS B (w.setCell p u) a n rs :=
 h.heap (by simp [World.setCell]) fun x _ _ hx => Below.heap_setCell _ _ _ _ (fun e => by omega)
/-- .. in a block from lo to hi - 1. -/
def OwnSIn (lo hi : Nat) (w : World) (a : Option Addr) (n : Nat) (rs : List (List Int)) : Prop := OwnS lo w a n rs ∧ (n = 0 ∨ ∀ x, a = some x → x.block < hi)

theorem OwnSIn.below {lo hi : Nat} {w w' : World} {a : Option Addr} {n : Nat} {rs : List (List Int)} (h : OwnSIn lo hi w a n rs) (k : Below w.heap.size w w') : OwnSIn lo hi w' a n rs := ⟨h.1.below k, h.2⟩
theorem OwnSIn.alloc {lo hi : Nat} {w : World} {a : Option Addr} {n : Nat} {rs : List (List Int)} (h : OwnSIn lo hi w a n rs) (o : Obj) : OwnSIn lo hi (w.alloc o) a n rs := ⟨h.1.alloc o, h.2⟩
theorem OwnSIn.drew {lo hi : Nat} {w : World} {a : Option Addr} {n : Nat} {rs : List (List Int)} (h : OwnSIn lo hi w a n rs) : OwnSIn lo hi w.drew a n rs := h
theorem OwnSIn.reads {lo hi : Nat} {w : World} {a : Option Addr} {n : Nat} {rs : List (List Int)} (h : OwnSIn lo hi w a n rs) : ReadsA w a n rs := h.1.reads
theorem OwnS.within {B : Nat} {w : World} {a : Option Addr} {n : Nat} {rs : List (List Int)} (h : OwnS B w a n rs) : OwnSIn B w.heap.size w a n rs := by
 refine ⟨h, ?_⟩
 rcases h.2.2 with h0 | ⟨g, off, rfl, _, hg, _⟩
 ·exact .inl h0
 ·exact .inr fun x hx => by cases hx; exact hg
end Go.Proofs.Ythpmehhfhngnbaa

namespace Go.Proofs.Ythpmehhfhngnbaa
open Go.RowKit Go.ChangeShapes

end Go.Proofs.Ythpmehhfhngnbaa

namespace Go.Proofs.Ythpmehhfhngnbaa
open Go.RowKit Go.ChangeShapes

theorem l01In_any (n lo hi : Int) (w : World) :
  Calls Try.prog 90 #[.int .i64 n, .int .i64 lo, .int .i64 hi] w fun e w' => e = .returned (.bool (inB n lo hi)) ∧ w = w' := by
 by_cases h1 : lo ≤ n
 ·by_cases h2 : n ≤ hi
  all_goals
   go_enter Try.func90, Try.ntmps90
   go_wp2
   go_ret
   exact ⟨ret_bool (by simp [inB, h1, h2]), rfl⟩
 ·go_enter Try.func90, Try.ntmps90
  go_wp2
  go_ret
  exact ⟨ret_bool (by simp [inB]; omega), rfl⟩

end Go.Proofs.Ythpmehhfhngnbaa

namespace Go.Proofs.Ythpmehhfhngnbaa
open Go.RowKit Go.ChangeShapes

/-- Eight bools in a block. -/
structure Bool8 (w : World) (g : Nat) (f : Nat → Bool) : Prop where
 lt : g < w.heap.size
 cell : ∀ j, j < 8 → w.cell? ⟨g, j, none⟩ = some (.bool (f j))
 free : ∀ j, j < 8 → w.frozen? ⟨g, j, none⟩ = false

theorem Bool8.place (w : World) (t : TypeId) (g : Nat) (hg : w.heap.size = g) : Bool8 (w.alloc (.cells #[.bool false, .bool false, .bool false, .bool false, .bool false, .bool false, .bool false, .bool false] t)) g (fun _ => false) := by
 subst hg
 refine ⟨by simp, fun j hj => ?_, fun j hj => ?_⟩
 ·have : j = 0 ∨ j = 1 ∨ j = 2 ∨ j = 3 ∨ j = 4 ∨ j = 5 ∨ j = 6 ∨ j = 7 := by omega
  rcases this with rfl | rfl | rfl | rfl | rfl | rfl | rfl | rfl <;> simp
 ·simp

theorem Bool8.store {w : World} {g : Nat} {f : Nat → Bool} (h : Bool8 w g f) (i : Nat) (hi : i < 8) (x : Bool) : Bool8 (w.setCell ⟨g, i, none⟩ (.bool x)) g (fun j => if i = j then x else f j) := by
 refine ⟨by simpa [World.setCell] using h.lt, fun j hj => ?_, fun j hj => by simpa using h.free j hj⟩
 by_cases e : i = j
 ·subst e
  rw [if_pos rfl]
  exact World.cell?_setCell_same _ _ _ (h.cell i hi)
 ·rw [if_neg e]
  refine (World.cell?_setCell_other _ _ _ _ ?_).trans (h.cell j hj)
  simp

theorem Bool8.congr {w : World} {g : Nat} {f f' : Nat → Bool} (h : Bool8 w g f) (e : ∀ j, j < 8 → f j = f' j) : Bool8 w g f' := ⟨h.lt, fun j hj => by rw [← e j hj]; exact h.cell j hj, h.free⟩

end Go.Proofs.Ythpmehhfhngnbaa

namespace Go.Proofs.Ythpmehhfhngnbaa
open Go.RowKit Go.ChangeShapes

end Go.Proofs.Ythpmehhfhngnbaa

namespace Go.Proofs.Ythpmehhfhngnbaa
open Go.RowKit Go.ChangeShapes

end Go.Proofs.Ythpmehhfhngnbaa

namespace Go.Proofs.Ythpmehhfhngnbaa
open Go.RowKit Go.ChangeShapes

end Go.Proofs.Ythpmehhfhngnbaa

namespace Go.Proofs.Ythpmehhfhngnbaa
open Go.RowKit Go.ChangeShapes

end Go.Proofs.Ythpmehhfhngnbaa

