/- Merged texts. -/
import Derived.Test.YtpkhddndapcpjaaSuIIs
import Derived.Maps.RangeRun
import Derived.Carry
import Derived.Test.YtpkhddndapcpjaaSuSort
import Derived.Maps.RangeWalk
import Derived.Deep.WholeRow
import Derived.Test.YtpkhddndapcpjaaSuIBeg
import Derived.Test.YtpkhddndapcpjaaSuPB
import Derived.Test.YtpkhddndapcpjaaSuExch
import Derived.Test.YtpkhddndapcpjaaSuIRows
import Derived.Deep.RegionHeld3
import Derived.Deep.DeepCutAuto
import Derived.Test.YtpkhddndapcpjaaSuQA
import Derived.BigQuiet
import Derived.IntWalk
import Derived.Test.YtpkhddndapcpjaaSuSB
import Derived.Test.YtpkhddndapcpjaaSuSIs

/- A map of arrays of eight bytes by such arrays, its entries written out: the operations on it. -/
namespace Go.Proofs.Ytpkhddndapcpjaa
open Go.RowKit Go.ChangeShapes
open Go.ChangeMaps (setBlock)

/-- Entry number i. -/
def ent (x : List Int × List Int) (i : Nat) : MapEntry := { key := arr8 .u8 x.1, val := arr8 .u8 x.2, born := i }

def entsF : Nat → List (List Int × List Int) → List MapEntry
 | _, [] => []
 | i, x :: L => ent x i :: entsF (i + 1) L

/-- The block b is a map with these entries. -/
def MapA (w : World) (b : Nat) (L : List (List Int × List Int)) : Prop := w.heap[b]? = some (.map (entsF 0 L).toArray L.length)

/-- All keys are rows of eight. -/
def Keys8 (L : List (List Int × List Int)) : Prop := ∀ x ∈ L, x.1.length = 8

theorem MapA.lt {w : World} {b : Nat} {L : List (List Int × List Int)} (h : MapA w b L) : b < w.heap.size := (Array.getElem?_eq_some_iff.1 h).1
theorem MapA.heap {w w' : World} {b : Nat} {L : List (List Int × List Int)} (h : MapA w b L) (hb : w'.heap[b]? = w.heap[b]?) : MapA w' b L := hb.trans h
theorem MapA.below {w w' : World} {b : Nat} {L : List (List Int × List Int)} (h : MapA w b L) (k : Below w.heap.size w w') : MapA w' b L := h.heap (k.block b h.lt)
theorem MapA.alloc {w : World} {b : Nat} {L : List (List Int × List Int)} (h : MapA w b L) (o : Obj) : MapA (w.alloc o) b L := h.below ((Below.refl _ _).alloc (Nat.le_refl _) o)
theorem MapA.drew {w : World} {b : Nat} {L : List (List Int × List Int)} (h : MapA w b L) : MapA w.drew b L := h
theorem MapA.setCell {w : World} {b : Nat} {L : List (List Int × List Int)} (h : MapA w b L) {p : Addr} (hp : p.block ≠ b) (x : Value) : MapA (w.setCell p x) b L := h.heap (Below.heap_setCell _ _ _ _ (fun e => hp e.symm))

end Go.Proofs.Ytpkhddndapcpjaa

/- A map of arrays by arrays: ranging over it, at the operations. -/
namespace Go.Proofs.Ytpkhddndapcpjaa
open Go.RowKit Go.ChangeShapes
open Go.ChangeMaps (setBlock)

/-- The block r ranges over the map b; the entries seen have come. -/
def IterA (w : World) (r b : Nat) (L : List (List Int × List Int)) (seen : Array Nat) : Prop := w.heap[r]? = some (.mapIter (some b) L.length seen L.length)

theorem IterA.lt {w : World} {r b : Nat} {L : List (List Int × List Int)} {seen : Array Nat} (h : IterA w r b L seen) : r < w.heap.size := (Array.getElem?_eq_some_iff.1 h).1
theorem IterA.heap {w w' : World} {r b : Nat} {L : List (List Int × List Int)} {seen : Array Nat} (h : IterA w r b L seen) (hb : w'.heap[r]? = w.heap[r]?) : IterA w' r b L seen := hb.trans h
theorem IterA.below {w w' : World} {r b : Nat} {L : List (List Int × List Int)} {seen : Array Nat} (h : IterA w r b L seen) (k : Below w.heap.size w w') : IterA w' r b L seen := h.heap (k.block r h.lt)
theorem IterA.alloc {w : World} {r b : Nat} {L : List (List Int × List Int)} {seen : Array Nat} (h : IterA w r b L seen) (o : Obj) : IterA (w.alloc o) r b L seen := h.below ((Below.refl _ _).alloc (Nat.le_refl _) o)

end Go.Proofs.Ytpkhddndapcpjaa

/- The least common letter of the rows of a map: the program. -/
namespace Go.Proofs.Ytpkhddndapcpjaa
open Go.RowKit Go.ChangeShapes

/-- The rows of a map. -/
def valsL (L : List (List Int × List Int)) : List (List Int) := L.map (·.2)

end Go.Proofs.Ytpkhddndapcpjaa

/- A map of arrays whose rows are written while it is ranged over: lemmas. -/
namespace Go.Proofs.Ytpkhddndapcpjaa
open Go.RowKit Go.ChangeShapes
open Go.ChangeMaps (setBlock)

/-- No key stands twice. -/
def KeysApart (L : List (List Int × List Int)) : Prop := ∀ (i j : Nat) (x y : List Int × List Int), L[i]? = some x → L[j]? = some y → x.1 = y.1 → i = j

theorem IterA.len {w : World} {r b : Nat} {A B : List (List Int × List Int)} {seen : Array Nat} (h : IterA w r b A seen) (e : A.length = B.length) : IterA w r b B seen := by
 unfold IterA at h ⊢
 rw [← e]
 exact h

theorem Wrote.far {lo hi lo2 hi2 : Nat} {w w1 w2 : World} (h : Wrote lo hi w w1) (k : Wrote lo2 hi2 w1 w2) (hl : w.heap.size ≤ lo2) : Wrote lo hi w w2 :=
 ⟨k.os.trans h.os, k.tape.trans h.tape, k.output.trans h.output, Nat.le_trans h.size k.size, fun j hj hd => (k.block j (Nat.lt_of_lt_of_le hj h.size) (.inl (Nat.lt_of_lt_of_le hj hl))).trans (h.block j hj hd)⟩

end Go.Proofs.Ytpkhddndapcpjaa

/- Common letters are taken as long as there are any: the program. -/
namespace Go.Proofs.Ytpkhddndapcpjaa
open Go.RowKit Go.ChangeShapes

/-- How long a slice is. -/
def lenOf (v : Value) : Nat := match v with
 | .slice _ n _ => n
 | _ => 0

theorem OwnV.lenOf {B : Nat} {w : World} {v : Value} {n : Nat} {xs : List Int} (h : OwnV B w v n xs) : lenOf v = n := by
 obtain ⟨a, cap, rfl, _⟩ := h.form
 rfl

theorem OwnV.wrote {B lo hi : Nat} {w w1 : World} {v : Value} {n : Nat} {xs : List Int} (h : OwnV B w v n xs) (k : Wrote lo hi w w1) (hB : hi ≤ B) : OwnV B w1 v n xs := by
 refine ⟨h.1, ?_⟩
 rcases h.2 with h2 | ⟨g, c, cur, hv, hg, hh, r⟩
 ·exact .inl h2
 ·exact .inr ⟨g, c, cur, hv, hg, by rw [k.block g (Array.getElem?_eq_some_iff.1 hh).1 (.inr (Nat.le_trans hB hg))]; exact hh, r⟩

theorem MapA.appended {B : Nat} {w w1 : World} {b : Nat} {L : List (List Int × List Int)} {v : Value} {n : Nat} {xs : List Int} {o : Obj} (h : MapA w b L) (hB : b < B) (ho : OwnV B w v n xs) (hg : (w.alloc o).grownBy w1 v.ownBlock) : MapA w1 b L := by
 refine (h.alloc o).heap (hg.block b (h.alloc o).lt fun e => ?_)
 have := (World.ownsRow.lt ho b e.symm).1
 omega

/-- What holds of the map while letters are taken. -/
structure Rests (n b : Nat) (L : List (List Int × List Int)) (vs : List (List Int)) (got : List Int) : Prop where
 keys : Keys8 L
 apart : KeysApart L
 sims : ∀ u ∈ valsL L, Sim n u
 have0 : L ≠ []
 rest : takeR n vs = got ++ takeR n (valsL L)
 room : ∀ u us, valsL L = u :: us → got.length + far u ≤ 196

theorem Rests.step {n b k : Nat} {L : List (List Int × List Int)} {vs : List (List Int)} {got : List Int} (h : Rests n b L vs got) (hc : common (valsL L) (n - 1) 0 = some k) : Rests n b (L.map fun x => (x.1, thenR n (exR n k) x.2)) vs (got ++ [(k : Int) + 1]) := by
 have hvals : valsL (L.map fun x => (x.1, thenR n (exR n k) x.2)) = strip n k (valsL L) := by simp [valsL, strip]
 obtain ⟨_, h2, h3, _⟩ := common_some hc
 refine ⟨fun x hx => ?_, fun i j x y hx hy e => ?_, fun u hu => ?_, ?_, ?_, ?_⟩
 ·obtain ⟨y, hy, rfl⟩ := List.mem_map.1 hx
  exact h.keys y hy
 ·rw [List.getElem?_map] at hx hy
  cases hi : L[i]? with
  | none => rw [hi] at hx; cases hx
  | some p =>
   cases hj : L[j]? with
   | none => rw [hj] at hy; cases hy
   | some q =>
    rw [hi] at hx
    rw [hj] at hy
    simp only [Option.map_some, Option.some.injEq] at hx hy
    exact h.apart i j p q hi hj (by rw [← hx, ← hy] at e; exact e)
 ·rw [hvals] at hu
  obtain ⟨x, hx, rfl⟩ := List.mem_map.1 hu
  have hx := h.sims x hx
  exact thenR_sim (exR_sim n k hx.hi (by omega)) hx
 ·simp
  exact h.have0
 ·rw [hvals]
  cases hv : valsL L with
  | nil =>
   have : L = [] := by simpa [valsL] using hv
   exact absurd this h.have0
  | cons u us =>
   rw [h.rest, hv, takeR_some (by rw [← hv]; exact h.sims) (by rw [← hv]; exact hc)]
   simp
 ·intro u us hu
  rw [hvals] at hu
  cases hv : valsL L with
  | nil => rw [hv] at hu; cases hu
  | cons v us' =>
   rw [hv] at hu
   simp only [strip, List.map_cons, List.cons.injEq] at hu
   rw [← hu.1, List.length_append, List.length_singleton]
   have hvs := h.sims v (by rw [hv]; simp)
   have hd : at8 v (k + 1) < at8 v k := by
    have := h3
    rw [hv] at this
    simp [allBeg] at this
    exact this.1
   have := far_less hvs (show k + 1 < n by omega) hd
   have := h.room v us' hv
   omega

end Go.Proofs.Ytpkhddndapcpjaa

/- The word of a simple braid: the model. -/
namespace Go.Proofs.Ytpkhddndapcpjaa
open Go.RowKit Go.ChangeShapes

theorem OwnV.low {B g : Nat} {w : World} {v : Value} {n : Nat} {xs : List Int} (h : OwnV B w v n xs) (hg : g < B) : some g ≠ v.ownBlock := fun e => by
 have := (World.ownsRow.lt h g e.symm).1
 omega

theorem OwnV.drew {B : Nat} {w : World} {v : Value} {n : Nat} {xs : List Int} (h : OwnV B w v n xs) : OwnV B w.drew v n xs := h

/-- A call's block is not what was one's own before. -/
theorem OwnV.apart {B g : Nat} {w0 : World} {v : Value} {n : Nat} {xs : List Int} (h : OwnV B w0 v n xs) (hg : w0.heap.size ≤ g) : some g ≠ v.ownBlock := fun e => by
 have := (World.ownsRow.lt h g e.symm).2
 omega

end Go.Proofs.Ytpkhddndapcpjaa

/- The meet of two simple braids: the model. -/
namespace Go.Proofs.Ytpkhddndapcpjaa
open Go.RowKit Go.ChangeShapes

/-- How far the row in a block is from ascending. -/
def farAt (w : World) (g : Nat) : Nat :=
 let c := fun j => intOf ((w.cell? ⟨g, j, none⟩).getD (.int .u8 0))
 (196 - (c 1 + 2 * c 2 + 3 * c 3 + 4 * c 4 + 5 * c 5 + 6 * c 6 + 7 * c 7)).toNat

theorem exsR_snoc (n k : Nat) (xs : List Int) : exsR n (xs ++ [(k : Int) + 1]) = thenR n (exsR n xs) (exR n k) := by
 unfold exsR
 rw [List.foldl_append, List.foldl_cons, List.foldl_nil]
 congr 2
 omega

theorem farAt_row {w : World} {g : Nat} {u : List Int} (h : Row8 w g .u8 u) : farAt w g = far u := by
 unfold farAt far wgt
 simp only [h.cell 1 (by omega), h.cell 2 (by omega), h.cell 3 (by omega), h.cell 4 (by omega), h.cell 5 (by omega), h.cell 6 (by omega), h.cell 7 (by omega), Option.getD_some, intOf]

set_option maxRecDepth 100000 in
set_option maxHeartbeats 1000000 in
theorem l02Meet_any (n : Nat) (a b : List Int) (sa : Sim n a) (sb : Sim n b) (w : World) :
  Calls Try.prog 61 #[arr8 .u8 a, arr8 .u8 b, .int .i64 n] w (RetArr .u8 w (exsR n (takeR n [a, b]))) := by
 have h8 := sa.hi
 have SA := Lib.hid sa
 have SB := Lib.hid sb
 have h1 := sa.lo
 clear sa sb
 go_enter Try.func61, Try.ntmps61
 have RA := Lib.hid (((Row8.place w .u8 a 53 w.heap.size rfl SA.out.len).alloc (.cells #[.int .u8 (at8 b 0), .int .u8 (at8 b 1), .int .u8 (at8 b 2), .int .u8 (at8 b 3), .int .u8 (at8 b 4), .int .u8 (at8 b 5), .int .u8 (at8 b 6), .int .u8 (at8 b 7)] 53)).alloc (.cells #[.int .u8 0, .int .u8 0, .int .u8 0, .int .u8 0, .int .u8 0, .int .u8 0, .int .u8 0, .int .u8 0] 53))
 have RB := Lib.hid ((Row8.place (w.alloc (.cells #[.int .u8 (at8 a 0), .int .u8 (at8 a 1), .int .u8 (at8 a 2), .int .u8 (at8 a 3), .int .u8 (at8 a 4), .int .u8 (at8 a 5), .int .u8 (at8 a 6), .int .u8 (at8 a 7)] 53)) .u8 b 53 (w.heap.size + 1) (by simp) SB.out.len).alloc (.cells #[.int .u8 0, .int .u8 0, .int .u8 0, .int .u8 0, .int .u8 0, .int .u8 0, .int .u8 0, .int .u8 0] 53))
 have RZ := Lib.hid (Row8.zeros ((w.alloc (.cells #[.int .u8 (at8 a 0), .int .u8 (at8 a 1), .int .u8 (at8 a 2), .int .u8 (at8 a 3), .int .u8 (at8 a 4), .int .u8 (at8 a 5), .int .u8 (at8 a 6), .int .u8 (at8 a 7)] 53)).alloc (.cells #[.int .u8 (at8 b 0), .int .u8 (at8 b 1), .int .u8 (at8 b 2), .int .u8 (at8 b 3), .int .u8 (at8 b 4), .int .u8 (at8 b 5), .int .u8 (at8 b 6), .int .u8 (at8 b 7)] 53)) .u8 53 (w.heap.size + 1 + 1) (by simp))
 have BB := Lib.hid (below3 w (.cells #[.int .u8 (at8 a 0), .int .u8 (at8 a 1), .int .u8 (at8 a 2), .int .u8 (at8 a 3), .int .u8 (at8 a 4), .int .u8 (at8 a 5), .int .u8 (at8 a 6), .int .u8 (at8 a 7)] 53) (.cells #[.int .u8 (at8 b 0), .int .u8 (at8 b 1), .int .u8 (at8 b 2), .int .u8 (at8 b 3), .int .u8 (at8 b 4), .int .u8 (at8 b 5), .int .u8 (at8 b 6), .int .u8 (at8 b 7)] 53) (.cells #[.int .u8 0, .int .u8 0, .int .u8 0, .int .u8 0, .int .u8 0, .int .u8 0, .int .u8 0, .int .u8 0] 53))
 go_wp2_with fail
 refine (l02Same_any n h8 _).mono ?_
 rintro e w2 ⟨rfl, hb⟩
 replace RA := Lib.hid (RA.out.below hb)
 replace RB := Lib.hid (RB.out.below hb)
 replace RZ := Lib.hid (RZ.out.below hb)
 replace BB := Lib.hid (below_go BB.out hb BB.out.size)
 clear hb
 have zh := RZ.out.lt
 have RO := Lib.hid (Row8.place w2 .u8 (sameR n) 53 w2.heap.size rfl (mapR_len _ _ h8))
 replace RA := Lib.hid (RA.out.alloc (.cells #[.int .u8 (at8 (sameR n) 0), .int .u8 (at8 (sameR n) 1), .int .u8 (at8 (sameR n) 2), .int .u8 (at8 (sameR n) 3), .int .u8 (at8 (sameR n) 4), .int .u8 (at8 (sameR n) 5), .int .u8 (at8 (sameR n) 6), .int .u8 (at8 (sameR n) 7)] 53))
 replace RB := Lib.hid (RB.out.alloc (.cells #[.int .u8 (at8 (sameR n) 0), .int .u8 (at8 (sameR n) 1), .int .u8 (at8 (sameR n) 2), .int .u8 (at8 (sameR n) 3), .int .u8 (at8 (sameR n) 4), .int .u8 (at8 (sameR n) 5), .int .u8 (at8 (sameR n) 6), .int .u8 (at8 (sameR n) 7)] 53))
 replace RZ := Lib.hid (RZ.out.alloc (.cells #[.int .u8 (at8 (sameR n) 0), .int .u8 (at8 (sameR n) 1), .int .u8 (at8 (sameR n) 2), .int .u8 (at8 (sameR n) 3), .int .u8 (at8 (sameR n) 4), .int .u8 (at8 (sameR n) 5), .int .u8 (at8 (sameR n) 6), .int .u8 (at8 (sameR n) 7)] 53))
 replace BB := Lib.hid (BB.out.alloc BB.out.size (.cells #[.int .u8 (at8 (sameR n) 0), .int .u8 (at8 (sameR n) 1), .int .u8 (at8 (sameR n) 2), .int .u8 (at8 (sameR n) 3), .int .u8 (at8 (sameR n) 4), .int .u8 (at8 (sameR n) 5), .int .u8 (at8 (sameR n) 6), .int .u8 (at8 (sameR n) 7)] 53))

 go_upto_region 2 with fail
 obtain ⟨W, hW⟩ : ∃ W, W = w2.alloc (.cells #[.int .u8 (at8 (sameR n) 0), .int .u8 (at8 (sameR n) 1), .int .u8 (at8 (sameR n) 2), .int .u8 (at8 (sameR n) 3), .int .u8 (at8 (sameR n) 4), .int .u8 (at8 (sameR n) 5), .int .u8 (at8 (sameR n) 6), .int .u8 (at8 (sameR n) 7)] 53) := ⟨_, rfl⟩
 rw [← hW] at RA RB RZ RO BB ⊢
 clear hW
 obtain ⟨gh, hgh⟩ : ∃ gh, gh = w2.heap.size := ⟨_, rfl⟩
 rw [← hgh] at RO zh ⊢
 clear hgh
 go_wp2
 go_loopw [8] (fun i wr => ∃ (k : Nat) (got u v : List Int), k + 1 ≤ n ∧ i = .int .i64 ((k : Int) + 1) ∧ Sim n u ∧ Sim n v ∧ takeR n [a, b] = got ++ takeR n [u, v] ∧ (∀ j, j < k → allBeg [u, v] j = false) ∧ Lets n got ∧ Row8 wr w.heap.size .u8 u ∧ Row8 wr (w.heap.size + 1) .u8 v ∧ Row8 wr (w.heap.size + 1 + 1) .u8 [0, 0, 0, 0, 0, 0, 0, 0] ∧ Row8 wr gh .u8 (exsR n got) ∧ Below w.heap.size w wr) (fun i wr => farAt wr w.heap.size * 10 + (n - (intOf i).toNat))
 case atStart => exact ⟨0, [], a, b, h1, rfl, SA.out, SB.out, rfl, fun j hj => absurd hj (Nat.not_lt_zero _), (fun y hy => absurd hy List.not_mem_nil), RA.out, RB.out, RZ.out, RO.out, BB.out⟩
 case round =>
  obtain ⟨k, got, u, v, hk, rfl, hu, hv, ht, hno, hl, ra, rb, rz, ro, hb⟩ := hrel
  clear RA RB RZ RO BB
  have SU := Lib.hid hu
  have SV := Lib.hid hv
  have HT := Lib.hid ht
  have HNO := Lib.hid hno
  have HLT := Lib.hid hl
  have RA := Lib.hid ra
  have RB := Lib.hid rb
  have RZ := Lib.hid rz
  have RO := Lib.hid ro
  have BB := Lib.hid hb
  clear hu hv ht hno hl ra rb rz ro hb
  by_cases hlt : k + 1 < n
  ·have c1 := RA.out.cell k (by omega)
   have c2 := RA.out.cell (k + 1) (by omega)
   have c3 := RB.out.cell k (by omega)
   have c4 := RB.out.cell (k + 1) (by omega)
   have hw1 : IntKind.i64.wrap (k : Int) = k := IntWalk.i64_in _ (by omega)
   have b1 : (k : Int) + 1 < 8 := by omega
   have b2 : (k : Int) < 8 := by omega
   by_cases hd1 : at8 u (k + 1) < at8 u k
   ·by_cases hd2 : at8 v (k + 1) < at8 v k
    ·have z1 := RA.out.lt
     have z2 := RB.out.lt
     go_wp2
     go_quiet (fail)
     clear hw1
     have hb := below_draws wr.heap.size wr nq
     obtain ⟨wq, hwq⟩ : ∃ wq, wq = wr.drewN nq := ⟨_, rfl⟩
     rw [← hwq] at hb ⊢
     have HC : Hid (common [u, v] (n - 1) 0 = some k) := Lib.hid (common_eq (Nat.zero_le k) (by omega) (by simp [allBeg, hd1, hd2]) (fun j _ hj => HNO.out j hj))
     have HF : Hid (far (thenR n (exR n k) u) < far u) := Lib.hid (far_less SU.out hlt hd1)
     have HM : Hid (farAt wr w.heap.size = far u) := Lib.hid (farAt_row RA.out)
     clear hwq c1 c2 c3 c4 z1 z2 hd1 hd2 b1 b2
     replace RA := Lib.hid (RA.out.below hb)
     replace RB := Lib.hid (RB.out.below hb)
     replace RZ := Lib.hid (RZ.out.below hb)
     replace RO := Lib.hid (RO.out.below hb)
     replace BB := Lib.hid (below_go BB.out hb BB.out.size)
     clear hb
     go_wp2_with fail
     refine (l02Exchange_any n k h8 hlt _).mono ?_
     rintro e w6 ⟨rfl, hb⟩
     replace RA := Lib.hid (RA.out.below hb)
     replace RB := Lib.hid (RB.out.below hb)
     replace RZ := Lib.hid (RZ.out.below hb)
     replace RO := Lib.hid (RO.out.below hb)
     replace BB := Lib.hid (below_go BB.out hb BB.out.size)
     clear hb
     have zo := RO.out.lt
     have RE := Lib.hid (Row8.place w6 .u8 (exR n k) 53 w6.heap.size rfl (exR_len n k h8))
     replace RA := Lib.hid (RA.out.alloc (.cells #[.int .u8 (at8 (exR n k) 0), .int .u8 (at8 (exR n k) 1), .int .u8 (at8 (exR n k) 2), .int .u8 (at8 (exR n k) 3), .int .u8 (at8 (exR n k) 4), .int .u8 (at8 (exR n k) 5), .int .u8 (at8 (exR n k) 6), .int .u8 (at8 (exR n k) 7)] 53))
     replace RB := Lib.hid (RB.out.alloc (.cells #[.int .u8 (at8 (exR n k) 0), .int .u8 (at8 (exR n k) 1), .int .u8 (at8 (exR n k) 2), .int .u8 (at8 (exR n k) 3), .int .u8 (at8 (exR n k) 4), .int .u8 (at8 (exR n k) 5), .int .u8 (at8 (exR n k) 6), .int .u8 (at8 (exR n k) 7)] 53))
     replace RZ := Lib.hid (RZ.out.alloc (.cells #[.int .u8 (at8 (exR n k) 0), .int .u8 (at8 (exR n k) 1), .int .u8 (at8 (exR n k) 2), .int .u8 (at8 (exR n k) 3), .int .u8 (at8 (exR n k) 4), .int .u8 (at8 (exR n k) 5), .int .u8 (at8 (exR n k) 6), .int .u8 (at8 (exR n k) 7)] 53))
     replace RO := Lib.hid (RO.out.alloc (.cells #[.int .u8 (at8 (exR n k) 0), .int .u8 (at8 (exR n k) 1), .int .u8 (at8 (exR n k) 2), .int .u8 (at8 (exR n k) 3), .int .u8 (at8 (exR n k) 4), .int .u8 (at8 (exR n k) 5), .int .u8 (at8 (exR n k) 6), .int .u8 (at8 (exR n k) 7)] 53))
     replace BB := Lib.hid (BB.out.alloc BB.out.size (.cells #[.int .u8 (at8 (exR n k) 0), .int .u8 (at8 (exR n k) 1), .int .u8 (at8 (exR n k) 2), .int .u8 (at8 (exR n k) 3), .int .u8 (at8 (exR n k) 4), .int .u8 (at8 (exR n k) 5), .int .u8 (at8 (exR n k) 6), .int .u8 (at8 (exR n k) 7)] 53))
     go_upto_region 7 with fail
     obtain ⟨W6, hW⟩ : ∃ W, W = w6.alloc (.cells #[.int .u8 (at8 (exR n k) 0), .int .u8 (at8 (exR n k) 1), .int .u8 (at8 (exR n k) 2), .int .u8 (at8 (exR n k) 3), .int .u8 (at8 (exR n k) 4), .int .u8 (at8 (exR n k) 5), .int .u8 (at8 (exR n k) 6), .int .u8 (at8 (exR n k) 7)] 53) := ⟨_, rfl⟩
     rw [← hW] at RA RB RZ RO RE BB ⊢
     clear hW
     obtain ⟨ge, hge⟩ : ∃ g, g = w6.heap.size := ⟨_, rfl⟩
     rw [← hge] at RE zo ⊢
     clear hge
     have SW8 := Lib.hid (exsR_sim n h1 h8 got HLT.out).wide
     have SW9 := Lib.hid (exR_sim n k h8 hlt).wide
     have SW10 := Lib.hid (exR_sim n k h8 hlt).wide
     obtain ⟨⟨q0, q1, q2, q3⟩, q4, q5, q6, q7⟩ := RO.out.all
     obtain ⟨⟨e0, e1, e2, e3⟩, e4, e5, e6, e7⟩ := RE.out.all
     go_wp2_with fail
     refine (l02Then_any n h8 (exsR n got) (exR n k) RO.out.len (exR_len n k h8) SW8.out _).mono ?_
     rintro e t8 ⟨rfl, hb⟩
     clear q0 q1 q2 q3 q4 q5 q6 q7 e0 e1 e2 e3 e4 e5 e6 e7
     replace RA := Lib.hid (RA.out.below hb)
     replace RB := Lib.hid (RB.out.below hb)
     replace RZ := Lib.hid (RZ.out.below hb)
     replace RE := Lib.hid (RE.out.below hb)
     replace RO := Lib.hid (RO.out.below hb)
     replace BB := Lib.hid (below_go BB.out hb BB.out.size)
     clear hb
     obtain ⟨⟨d0, d1, d2, d3⟩, d4, d5, d6, d7⟩ := RO.out.all
     obtain ⟨⟨f0, f1, f2, f3⟩, f4, f5, f6, f7⟩ := RO.out.frees
     have zq := RO.out.lt
     go_upto_region 8 with fail
     clear d0 d1 d2 d3 d4 d5 d6 d7 f0 f1 f2 f3 f4 f5 f6 f7 zq
     have RN := Lib.hid (RO.out.fill (thenR n (exsR n got) (exR n k)) (mapR_len _ _ h8))
     replace RA := Lib.hid (RA.out.past gh (by omega) (.int .u8 (at8 (thenR n (exsR n got) (exR n k)) 0)) (.int .u8 (at8 (thenR n (exsR n got) (exR n k)) 1)) (.int .u8 (at8 (thenR n (exsR n got) (exR n k)) 2)) (.int .u8 (at8 (thenR n (exsR n got) (exR n k)) 3)) (.int .u8 (at8 (thenR n (exsR n got) (exR n k)) 4)) (.int .u8 (at8 (thenR n (exsR n got) (exR n k)) 5)) (.int .u8 (at8 (thenR n (exsR n got) (exR n k)) 6)) (.int .u8 (at8 (thenR n (exsR n got) (exR n k)) 7)))
     replace RB := Lib.hid (RB.out.past gh (by omega) (.int .u8 (at8 (thenR n (exsR n got) (exR n k)) 0)) (.int .u8 (at8 (thenR n (exsR n got) (exR n k)) 1)) (.int .u8 (at8 (thenR n (exsR n got) (exR n k)) 2)) (.int .u8 (at8 (thenR n (exsR n got) (exR n k)) 3)) (.int .u8 (at8 (thenR n (exsR n got) (exR n k)) 4)) (.int .u8 (at8 (thenR n (exsR n got) (exR n k)) 5)) (.int .u8 (at8 (thenR n (exsR n got) (exR n k)) 6)) (.int .u8 (at8 (thenR n (exsR n got) (exR n k)) 7)))
     replace RZ := Lib.hid (RZ.out.past gh (by omega) (.int .u8 (at8 (thenR n (exsR n got) (exR n k)) 0)) (.int .u8 (at8 (thenR n (exsR n got) (exR n k)) 1)) (.int .u8 (at8 (thenR n (exsR n got) (exR n k)) 2)) (.int .u8 (at8 (thenR n (exsR n got) (exR n k)) 3)) (.int .u8 (at8 (thenR n (exsR n got) (exR n k)) 4)) (.int .u8 (at8 (thenR n (exsR n got) (exR n k)) 5)) (.int .u8 (at8 (thenR n (exsR n got) (exR n k)) 6)) (.int .u8 (at8 (thenR n (exsR n got) (exR n k)) 7)))
     replace RE := Lib.hid (RE.out.past gh (by omega) (.int .u8 (at8 (thenR n (exsR n got) (exR n k)) 0)) (.int .u8 (at8 (thenR n (exsR n got) (exR n k)) 1)) (.int .u8 (at8 (thenR n (exsR n got) (exR n k)) 2)) (.int .u8 (at8 (thenR n (exsR n got) (exR n k)) 3)) (.int .u8 (at8 (thenR n (exsR n got) (exR n k)) 4)) (.int .u8 (at8 (thenR n (exsR n got) (exR n k)) 5)) (.int .u8 (at8 (thenR n (exsR n got) (exR n k)) 6)) (.int .u8 (at8 (thenR n (exsR n got) (exR n k)) 7)))
     replace BB := Lib.hid (below_fill8 BB.out gh (by omega) (.int .u8 (at8 (thenR n (exsR n got) (exR n k)) 0)) (.int .u8 (at8 (thenR n (exsR n got) (exR n k)) 1)) (.int .u8 (at8 (thenR n (exsR n got) (exR n k)) 2)) (.int .u8 (at8 (thenR n (exsR n got) (exR n k)) 3)) (.int .u8 (at8 (thenR n (exsR n got) (exR n k)) 4)) (.int .u8 (at8 (thenR n (exsR n got) (exR n k)) 5)) (.int .u8 (at8 (thenR n (exsR n got) (exR n k)) 6)) (.int .u8 (at8 (thenR n (exsR n got) (exR n k)) 7)))
     obtain ⟨W8, hW⟩ : ∃ W, W = ((((((((t8.setCell ⟨gh, 0, none⟩ (.int .u8 (at8 (thenR n (exsR n got) (exR n k)) 0))).setCell ⟨gh, 1, none⟩ (.int .u8 (at8 (thenR n (exsR n got) (exR n k)) 1))).setCell ⟨gh, 2, none⟩ (.int .u8 (at8 (thenR n (exsR n got) (exR n k)) 2))).setCell ⟨gh, 3, none⟩ (.int .u8 (at8 (thenR n (exsR n got) (exR n k)) 3))).setCell ⟨gh, 4, none⟩ (.int .u8 (at8 (thenR n (exsR n got) (exR n k)) 4))).setCell ⟨gh, 5, none⟩ (.int .u8 (at8 (thenR n (exsR n got) (exR n k)) 5))).setCell ⟨gh, 6, none⟩ (.int .u8 (at8 (thenR n (exsR n got) (exR n k)) 6))).setCell ⟨gh, 7, none⟩ (.int .u8 (at8 (thenR n (exsR n got) (exR n k)) 7))) := ⟨_, rfl⟩
     rw [← hW] at RA RB RZ RE RN BB ⊢
     clear hW RO
     have RO := RN
     clear RN

     obtain ⟨⟨q0, q1, q2, q3⟩, q4, q5, q6, q7⟩ := RE.out.all
     obtain ⟨⟨e0, e1, e2, e3⟩, e4, e5, e6, e7⟩ := RA.out.all
     go_wp2_with fail
     refine (l02Then_any n h8 (exR n k) u (exR_len n k h8) SU.out.len SW9.out _).mono ?_
     rintro e t9 ⟨rfl, hb⟩
     clear q0 q1 q2 q3 q4 q5 q6 q7 e0 e1 e2 e3 e4 e5 e6 e7
     replace RO := Lib.hid (RO.out.below hb)
     replace RB := Lib.hid (RB.out.below hb)
     replace RZ := Lib.hid (RZ.out.below hb)
     replace RE := Lib.hid (RE.out.below hb)
     replace RA := Lib.hid (RA.out.below hb)
     replace BB := Lib.hid (below_go BB.out hb BB.out.size)
     clear hb
     obtain ⟨⟨d0, d1, d2, d3⟩, d4, d5, d6, d7⟩ := RA.out.all
     obtain ⟨⟨f0, f1, f2, f3⟩, f4, f5, f6, f7⟩ := RA.out.frees
     have zq := RA.out.lt
     go_upto_region 9 with fail
     clear d0 d1 d2 d3 d4 d5 d6 d7 f0 f1 f2 f3 f4 f5 f6 f7 zq
     have RN := Lib.hid (RA.out.fill (thenR n (exR n k) u) (mapR_len _ _ h8))
     replace RO := Lib.hid (RO.out.past w.heap.size (by omega) (.int .u8 (at8 (thenR n (exR n k) u) 0)) (.int .u8 (at8 (thenR n (exR n k) u) 1)) (.int .u8 (at8 (thenR n (exR n k) u) 2)) (.int .u8 (at8 (thenR n (exR n k) u) 3)) (.int .u8 (at8 (thenR n (exR n k) u) 4)) (.int .u8 (at8 (thenR n (exR n k) u) 5)) (.int .u8 (at8 (thenR n (exR n k) u) 6)) (.int .u8 (at8 (thenR n (exR n k) u) 7)))
     replace RB := Lib.hid (RB.out.past w.heap.size (by omega) (.int .u8 (at8 (thenR n (exR n k) u) 0)) (.int .u8 (at8 (thenR n (exR n k) u) 1)) (.int .u8 (at8 (thenR n (exR n k) u) 2)) (.int .u8 (at8 (thenR n (exR n k) u) 3)) (.int .u8 (at8 (thenR n (exR n k) u) 4)) (.int .u8 (at8 (thenR n (exR n k) u) 5)) (.int .u8 (at8 (thenR n (exR n k) u) 6)) (.int .u8 (at8 (thenR n (exR n k) u) 7)))
     replace RZ := Lib.hid (RZ.out.past w.heap.size (by omega) (.int .u8 (at8 (thenR n (exR n k) u) 0)) (.int .u8 (at8 (thenR n (exR n k) u) 1)) (.int .u8 (at8 (thenR n (exR n k) u) 2)) (.int .u8 (at8 (thenR n (exR n k) u) 3)) (.int .u8 (at8 (thenR n (exR n k) u) 4)) (.int .u8 (at8 (thenR n (exR n k) u) 5)) (.int .u8 (at8 (thenR n (exR n k) u) 6)) (.int .u8 (at8 (thenR n (exR n k) u) 7)))
     replace RE := Lib.hid (RE.out.past w.heap.size (by omega) (.int .u8 (at8 (thenR n (exR n k) u) 0)) (.int .u8 (at8 (thenR n (exR n k) u) 1)) (.int .u8 (at8 (thenR n (exR n k) u) 2)) (.int .u8 (at8 (thenR n (exR n k) u) 3)) (.int .u8 (at8 (thenR n (exR n k) u) 4)) (.int .u8 (at8 (thenR n (exR n k) u) 5)) (.int .u8 (at8 (thenR n (exR n k) u) 6)) (.int .u8 (at8 (thenR n (exR n k) u) 7)))
     replace BB := Lib.hid (below_fill8 BB.out w.heap.size (by omega) (.int .u8 (at8 (thenR n (exR n k) u) 0)) (.int .u8 (at8 (thenR n (exR n k) u) 1)) (.int .u8 (at8 (thenR n (exR n k) u) 2)) (.int .u8 (at8 (thenR n (exR n k) u) 3)) (.int .u8 (at8 (thenR n (exR n k) u) 4)) (.int .u8 (at8 (thenR n (exR n k) u) 5)) (.int .u8 (at8 (thenR n (exR n k) u) 6)) (.int .u8 (at8 (thenR n (exR n k) u) 7)))
     obtain ⟨W9, hW⟩ : ∃ W, W = ((((((((t9.setCell ⟨w.heap.size, 0, none⟩ (.int .u8 (at8 (thenR n (exR n k) u) 0))).setCell ⟨w.heap.size, 1, none⟩ (.int .u8 (at8 (thenR n (exR n k) u) 1))).setCell ⟨w.heap.size, 2, none⟩ (.int .u8 (at8 (thenR n (exR n k) u) 2))).setCell ⟨w.heap.size, 3, none⟩ (.int .u8 (at8 (thenR n (exR n k) u) 3))).setCell ⟨w.heap.size, 4, none⟩ (.int .u8 (at8 (thenR n (exR n k) u) 4))).setCell ⟨w.heap.size, 5, none⟩ (.int .u8 (at8 (thenR n (exR n k) u) 5))).setCell ⟨w.heap.size, 6, none⟩ (.int .u8 (at8 (thenR n (exR n k) u) 6))).setCell ⟨w.heap.size, 7, none⟩ (.int .u8 (at8 (thenR n (exR n k) u) 7))) := ⟨_, rfl⟩
     rw [← hW] at RO RB RZ RE RN BB ⊢
     clear hW RA
     have RA := RN
     clear RN

     obtain ⟨⟨q0, q1, q2, q3⟩, q4, q5, q6, q7⟩ := RE.out.all
     obtain ⟨⟨e0, e1, e2, e3⟩, e4, e5, e6, e7⟩ := RB.out.all
     go_wp2_with fail
     refine (l02Then_any n h8 (exR n k) v (exR_len n k h8) SV.out.len SW10.out _).mono ?_
     rintro e t10 ⟨rfl, hb⟩
     clear q0 q1 q2 q3 q4 q5 q6 q7 e0 e1 e2 e3 e4 e5 e6 e7
     replace RO := Lib.hid (RO.out.below hb)
     replace RA := Lib.hid (RA.out.below hb)
     replace RZ := Lib.hid (RZ.out.below hb)
     replace RE := Lib.hid (RE.out.below hb)
     replace RB := Lib.hid (RB.out.below hb)
     replace BB := Lib.hid (below_go BB.out hb BB.out.size)
     clear hb
     obtain ⟨⟨d0, d1, d2, d3⟩, d4, d5, d6, d7⟩ := RB.out.all
     obtain ⟨⟨f0, f1, f2, f3⟩, f4, f5, f6, f7⟩ := RB.out.frees
     have zq := RB.out.lt
     go_upto_region 10 with fail
     clear d0 d1 d2 d3 d4 d5 d6 d7 f0 f1 f2 f3 f4 f5 f6 f7 zq
     have RN := Lib.hid (RB.out.fill (thenR n (exR n k) v) (mapR_len _ _ h8))
     replace RO := Lib.hid (RO.out.past (w.heap.size + 1) (by omega) (.int .u8 (at8 (thenR n (exR n k) v) 0)) (.int .u8 (at8 (thenR n (exR n k) v) 1)) (.int .u8 (at8 (thenR n (exR n k) v) 2)) (.int .u8 (at8 (thenR n (exR n k) v) 3)) (.int .u8 (at8 (thenR n (exR n k) v) 4)) (.int .u8 (at8 (thenR n (exR n k) v) 5)) (.int .u8 (at8 (thenR n (exR n k) v) 6)) (.int .u8 (at8 (thenR n (exR n k) v) 7)))
     replace RA := Lib.hid (RA.out.past (w.heap.size + 1) (by omega) (.int .u8 (at8 (thenR n (exR n k) v) 0)) (.int .u8 (at8 (thenR n (exR n k) v) 1)) (.int .u8 (at8 (thenR n (exR n k) v) 2)) (.int .u8 (at8 (thenR n (exR n k) v) 3)) (.int .u8 (at8 (thenR n (exR n k) v) 4)) (.int .u8 (at8 (thenR n (exR n k) v) 5)) (.int .u8 (at8 (thenR n (exR n k) v) 6)) (.int .u8 (at8 (thenR n (exR n k) v) 7)))
     replace RZ := Lib.hid (RZ.out.past (w.heap.size + 1) (by omega) (.int .u8 (at8 (thenR n (exR n k) v) 0)) (.int .u8 (at8 (thenR n (exR n k) v) 1)) (.int .u8 (at8 (thenR n (exR n k) v) 2)) (.int .u8 (at8 (thenR n (exR n k) v) 3)) (.int .u8 (at8 (thenR n (exR n k) v) 4)) (.int .u8 (at8 (thenR n (exR n k) v) 5)) (.int .u8 (at8 (thenR n (exR n k) v) 6)) (.int .u8 (at8 (thenR n (exR n k) v) 7)))
     replace RE := Lib.hid (RE.out.past (w.heap.size + 1) (by omega) (.int .u8 (at8 (thenR n (exR n k) v) 0)) (.int .u8 (at8 (thenR n (exR n k) v) 1)) (.int .u8 (at8 (thenR n (exR n k) v) 2)) (.int .u8 (at8 (thenR n (exR n k) v) 3)) (.int .u8 (at8 (thenR n (exR n k) v) 4)) (.int .u8 (at8 (thenR n (exR n k) v) 5)) (.int .u8 (at8 (thenR n (exR n k) v) 6)) (.int .u8 (at8 (thenR n (exR n k) v) 7)))
     replace BB := Lib.hid (below_fill8 BB.out (w.heap.size + 1) (by omega) (.int .u8 (at8 (thenR n (exR n k) v) 0)) (.int .u8 (at8 (thenR n (exR n k) v) 1)) (.int .u8 (at8 (thenR n (exR n k) v) 2)) (.int .u8 (at8 (thenR n (exR n k) v) 3)) (.int .u8 (at8 (thenR n (exR n k) v) 4)) (.int .u8 (at8 (thenR n (exR n k) v) 5)) (.int .u8 (at8 (thenR n (exR n k) v) 6)) (.int .u8 (at8 (thenR n (exR n k) v) 7)))
     obtain ⟨W10, hW⟩ : ∃ W, W = ((((((((t10.setCell ⟨(w.heap.size + 1), 0, none⟩ (.int .u8 (at8 (thenR n (exR n k) v) 0))).setCell ⟨(w.heap.size + 1), 1, none⟩ (.int .u8 (at8 (thenR n (exR n k) v) 1))).setCell ⟨(w.heap.size + 1), 2, none⟩ (.int .u8 (at8 (thenR n (exR n k) v) 2))).setCell ⟨(w.heap.size + 1), 3, none⟩ (.int .u8 (at8 (thenR n (exR n k) v) 3))).setCell ⟨(w.heap.size + 1), 4, none⟩ (.int .u8 (at8 (thenR n (exR n k) v) 4))).setCell ⟨(w.heap.size + 1), 5, none⟩ (.int .u8 (at8 (thenR n (exR n k) v) 5))).setCell ⟨(w.heap.size + 1), 6, none⟩ (.int .u8 (at8 (thenR n (exR n k) v) 6))).setCell ⟨(w.heap.size + 1), 7, none⟩ (.int .u8 (at8 (thenR n (exR n k) v) 7))) := ⟨_, rfl⟩
     rw [← hW] at RO RA RZ RE RN BB ⊢
     clear hW RB
     have RB := RN
     clear RN

     go_wp2
     go_roundw
     case rel =>
      refine ⟨0, got ++ [(k : Int) + 1], thenR n (exR n k) u, thenR n (exR n k) v, h1, by go_num, thenR_sim (exR_sim n k h8 hlt) SU.out, thenR_sim (exR_sim n k h8 hlt) SV.out, ?_, fun j hj => absurd hj (Nat.not_lt_zero _), fun y hy => ?_, RA.out, RB.out, RZ.out, ?_, BB.out⟩
      ·rw [HT.out, takeR_some (n := n) (v := u) (vs := [v]) (fun x hx => by
        rcases List.mem_cons.1 hx with rfl | hx
        ·exact SU.out
        ·rw [List.mem_singleton.1 hx]; exact SV.out) HC.out]
       simp [strip]
      ·rcases List.mem_append.1 hy with h | h
       ·exact HLT.out y h
       ·rw [List.mem_singleton.1 h]
        omega
      ·rw [exsR_snoc]
       exact RO.out
     case measure =>
      rw [farAt_row RA.out, HM.out]
      have := HF.out
      simp [intOf]
      omega
    ·have HD := hd2
     go_wp2
     go_quiet (fail)
     clear hw1
     have hb := below_draws wr.heap.size wr nq
     go_wp2
     go_roundw
     case rel =>
      refine ⟨k + 1, got, u, v, by omega, by go_num, SU.out, SV.out, HT.out, fun j hj => ?_, HLT.out, RA.out.below hb, RB.out.below hb, RZ.out.below hb, RO.out.below hb, below_go BB.out hb BB.out.size⟩
      by_cases e : j = k
      ·subst e
       simp [allBeg]
       omega
      ·exact HNO.out j (by omega)
     case measure =>
      rw [farAt_row (RA.out.below hb), farAt_row RA.out]
      simp [intOf]
      omega
   ·have HD := hd1
    have td : decide (at8 u (k + 1) < at8 u k) = false := decide_eq_false hd1
    have z1 := RA.out.lt
    have z2 := RB.out.lt
    go_wp2
    go_quiet (fail)
    clear hw1 td
    have hb := below_draws wr.heap.size wr nq
    go_wp2
    go_roundw
    case rel =>
     refine ⟨k + 1, got, u, v, by omega, by go_num, SU.out, SV.out, HT.out, fun j hj => ?_, HLT.out, RA.out.below hb, RB.out.below hb, RZ.out.below hb, RO.out.below hb, below_go BB.out hb BB.out.size⟩
     by_cases e : j = k
     ·subst e
      simp [allBeg]
      omega
     ·exact HNO.out j (by omega)
    case measure =>
     rw [farAt_row (RA.out.below hb), farAt_row RA.out]
     simp [intOf]
     omega
  ·have hkn : n = k + 1 := by omega
   have HC : Hid (common [u, v] (n - 1) 0 = none) := Lib.hid (common_no fun j _ hj => HNO.out j (by omega))
   have HE : Hid (takeR n [a, b] = got) := Lib.hid (by rw [HT.out, takeR_none HC.out, List.append_nil])
   clear hkn
   obtain ⟨⟨q0, q1, q2, q3⟩, q4, q5, q6, q7⟩ := RO.out.all
   obtain ⟨⟨d0, d1, d2, d3⟩, d4, d5, d6, d7⟩ := RZ.out.all
   obtain ⟨⟨f0, f1, f2, f3⟩, f4, f5, f6, f7⟩ := RZ.out.frees
   have zq := RZ.out.lt
   go_wp2
   obtain ⟨⟨e0, e1, e2, e3⟩, e4, e5, e6, e7⟩ := (RZ.out.fill (exsR n got) RO.out.len).all
   refine bodyPost_ret (v := arr8 .u8 (exsR n got)) (by simp [results, Try.results61, go_sem, e0, e1, e2, e3, e4, e5, e6, e7]) rfl ⟨by rw [HE.out], ?_⟩
   exact below_fill8 BB.out _ (by omega) _ _ _ _ _ _ _ _

end Go.Proofs.Ytpkhddndapcpjaa
