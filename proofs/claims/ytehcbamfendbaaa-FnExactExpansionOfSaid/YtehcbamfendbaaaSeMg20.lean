/- Merged texts. -/
import Derived.Test.YtehcbamfendbaaaSeMg18
import Derived.Test.YtehcbamfendbaaaSePureP
import Derived.ChangeKeysEq
import Derived.Test.YtehcbamfendbaaaSeQA
import Derived.Test.YtehcbamfendbaaaProg
import Derived.Deep.RegionHeld3
import Derived.IntWalk
import Derived.Test.YtehcbamfendbaaaSeMg3

/- Is a braid pure: the program's answer. -/
namespace Go.Proofs.Ytehcbamfendbaaa
open Go.RowKit Go.ChangeShapes

theorem eqItems_all {P : Program} (d : Nat) (e : TypeId) (c : Nat) (xs ys : Array Value) (X Y : Nat → Value) (b : Nat → Bool) (w : World) (is : List Nat)
  (h : ∀ j ∈ is, (part e xs (j * c)).run P w = .ok (X j) w ∧ (part e ys (j * c)).run P w = .ok (Y j) w ∧ (Op.equalIn d e (X j) (Y j)).run P w = .ok (b j) w) :
  (Op.eqItems d e c xs ys is).run P w = .ok (is.all b) w := by
 induction is with
 | nil => simp [Op.eqItems]
 | cons j is ih =>
  obtain ⟨h1, h2, h3⟩ := h j (by simp)
  simp only [Op.eqItems, Sem.run_bind, h1, h2, h3, Result.andThen_ok, List.all_cons]
  cases hb : b j
  ·simp
  ·simp only [Bool.not_true, Bool.false_eq_true, if_false, Bool.true_and]
   exact ih fun i hi => h i (by simp [hi])

/-- Row j of a table. -/
def rowJ (l : List Int) (j : Nat) : List Int := (l.drop (j * 8)).take 8

theorem part_int (l : List Int) (j : Nat) (hj : j < l.length) (w : World) : (part 2 (cells l) (j * 1)).run Try.prog w = .ok (.int .i64 (at8 l j)) w := by
 have he : ∀ w, (isAgg 2).run Try.prog w = .ok false w := fun _ => by kernel_rfl
 have hc : (cells l)[j * 1]? = some (.int .i64 (at8 l j)) := by
  rw [Nat.mul_one]
  simp [cells, at8, List.getD, List.getElem?_eq_getElem hj]
 simp only [part, Sem.run_bind, he, Result.andThen_ok, Bool.false_eq_true, if_false, hc, Sem.run_pure]

theorem part_row (l : List Int) (j : Nat) (w : World) : (part 54 (cells l) (j * 8)).run Try.prog w = .ok (.agg (cells (rowJ l j))) w := by
 have he : ∀ w, (isAgg 54).run Try.prog w = .ok true w := fun _ => by kernel_rfl
 have hz : ∀ w, (sizeOf 54).run Try.prog w = .ok 8 w := fun _ => by kernel_rfl
 simp only [part, Sem.run_bind, he, Result.andThen_ok, if_true, hz, Sem.run_pure]
 congr 2
 apply Array.ext'
 simp [cells, rowJ, List.map_take, List.map_drop]

theorem equal_row (d : Nat) (l m : List Int) (hl : l.length = 8) (hm : m.length = 8) (w : World) :
  (Op.equalIn (d + 2) 54 (.agg (cells l)) (.agg (cells m))).run Try.prog w = .ok (decide (l = m)) w := by
 obtain ⟨i0, hi, _, _, _⟩ := info_parts infoInt
 have hu : Try.prog.underlying 54 = some (.array 8 2) := by kernel_rfl
 have hc : Try.prog.cellsOf 2 = 1 := by kernel_rfl
 have he : Try.prog.underlying 2 = some (.int .i64) := by kernel_rfl
 refine (run_equalIn_array w (d + 1) (cells l) (cells m) hu hi).trans ?_
 rw [hc, eqItems_all (d + 1) 2 1 (cells l) (cells m) (fun j => .int .i64 (at8 l j)) (fun j => .int .i64 (at8 m j)) (fun j => at8 l j == at8 m j) w _ (fun j hj => ?_)]
 ·refine congrArg (fun b => Result.ok b w) ?_
  rw [Bool.eq_iff_iff, List.all_eq_true, decide_eq_true_eq]
  constructor
  ·intro h
   exact ext8 hl hm fun j hj => by simpa using h j (List.mem_range.2 hj)
  ·intro h j _
   rw [h]
   simp
 ·have hj := List.mem_range.1 hj
  exact ⟨part_int l j (by omega) w, part_int m j (by omega) w, run_equalIn_int w d 2 .i64 .i64 _ _ he⟩

theorem equal_table (l m : List Int) (hl : l.length = 64) (hm : m.length = 64) (w : World) :
  Sem.run Try.prog (Op.equalIn 10000 70 (.agg (cells l)) (.agg (cells m))) w = .ok (decide (l = m)) w := by
 have hi : ∃ i, Try.prog.info? 54 = some i := by
  have h : (Try.prog.info? 54).isSome = true := by kernel_rfl
  exact Option.isSome_iff_exists.1 h
 obtain ⟨i0, hi⟩ := hi
 have hu : Try.prog.underlying 70 = some (.array 8 54) := by kernel_rfl
 have hc : Try.prog.cellsOf 54 = 8 := by kernel_rfl
 refine (run_equalIn_array w 9999 (cells l) (cells m) hu hi).trans ?_
 rw [hc, eqItems_all 9999 54 8 (cells l) (cells m) (fun j => .agg (cells (rowJ l j))) (fun j => .agg (cells (rowJ m j))) (fun j => decide (rowJ l j = rowJ m j)) w _ (fun j hj => ?_)]
 ·refine congrArg (fun b => Result.ok b w) ?_
  rw [Bool.eq_iff_iff, List.all_eq_true, decide_eq_true_eq]
  constructor
  ·intro h
   refine List.ext_getElem (by omega) fun i h1 h2 => ?_
   have := h (i / 8) (List.mem_range.2 (by omega))
   rw [decide_eq_true_eq] at this
   have e := congrArg (fun r => r[i % 8]?) this
   have hi8 : i % 8 < 8 := by omega
   simp only [rowJ, List.getElem?_take, List.getElem?_drop, if_pos hi8] at e
   rw [show i / 8 * 8 + i % 8 = i by omega, List.getElem?_eq_getElem h1, List.getElem?_eq_getElem h2] at e
   simpa using e
  ·intro h j _
   rw [h]
   simp
 ·have hj := List.mem_range.1 hj
  exact ⟨part_row l j w, part_row m j w, equal_row 9997 _ _ (by simp [rowJ]; omega) (by simp [rowJ]; omega) w⟩

set_option maxRecDepth 100000 in
set_option maxHeartbeats 2000000 in
theorem implPure_any {s : Int} {a : Option Addr} {n cap : Nat} {xs : List Int} {w : World} {fb : Bool} {fc : Int} (hr : Reads w a n xs) (_hf : Fits xs) (hn : n ≤ 1048576) (hM : mPure s xs = (fb, fc)) :
  Calls Try.prog 114 #[.agg #[.int .i64 s, .slice a n cap]] w fun e w' => e = .returned (.tuple #[.bool fb, .int .i64 fc]) ∧ Below w.heap.size w w' := by
 have HL := Lib.hid hr.len
 have R := Lib.hid hr; clear hr
 by_cases hbr : isBraid s xs = true
 ·simp only [mPure, if_pos hbr, Prod.mk.injEq] at hM
  obtain ⟨rfl, rfl⟩ := hM
  obtain ⟨h1, h2, h3, h4⟩ := (isBraid_iff s xs).1 hbr
  have hx : Letts 8 xs := fun x hx => by obtain ⟨y0, y1, y2⟩ := h4 x hx; exact ⟨y0, by omega, by omega⟩
  have hn2 : n ≤ 1000 := by rw [← HL.out]; omega
  have tok := runT_ok xs hx
  have K1 := Lib.hid (fun W (hR : Reads W a n xs) => crossingTableOf_any s a n cap xs W hR hx hn2)
  have K2 := Lib.hid (fun W => parities_any (runT xs).2 tok.tlen W)
  have HE := Lib.hid (even_pure xs hx tok.tlen)
  have HQ : Hid (∀ W, Sem.run Try.prog (Op.equalIn 10000 70 (.agg (cells (evens (runT xs).2 64))) (.agg (cells zeros64))) W = .ok (pureB xs) W) := Lib.hid (fun W => by
   have e64 : evens (runT xs).2 64 = (runT xs).2.map (· % 2) := by
    have := evens_all (runT xs).2
    rw [tok.tlen] at this
    exact this
   rw [e64, equal_table _ _ (by rw [List.length_map]; exact tok.tlen) (by simp [zeros64]) W, HE.out])
  clear tok hx h4
  go_enter Try.func114, Try.ntmps114
  go_wp2_with fail
  refine (implIsBraid_any _ _ _ _ xs _ (R.out.alloc _) hn).mono ?_
  rintro e w1 ⟨rfl, hb⟩
  have A1 := Lib.hid ((At2.new w (.int .i64 s) (.slice a n cap) 29).below hb)
  obtain ⟨q1, q2, q3, q4, q5⟩ := A1.out
  have R1 := Lib.hid ((R.out.alloc (.cells #[.int .i64 s, .slice a n cap] 29)).below hb)
  have BB := Lib.hid (below_go (below1 w _) hb (by simp)); clear hb
  go_wp2_with fail
  refine (K1.out _ R1.out).mono ?_
  rintro e w2 ⟨rfl, hb⟩
  replace BB := Lib.hid (below_go BB.out hb (by omega))
  clear hb
  clear q1 q2 q3 q4 q5
  go_wp2_with fail
  refine (K2.out _).mono ?_
  rintro e w3 ⟨rfl, hb⟩
  replace BB := Lib.hid (below_go BB.out hb BB.out.size)
  clear hb
  obtain ⟨E, hE⟩ : ∃ E, E = cells (evens (runT xs).2 64) := ⟨_, rfl⟩
  have HQ2 : Hid (∀ W, Sem.run Try.prog (Op.equalIn 10000 70 (.agg E) (.agg #[.int .i64 0, .int .i64 0, .int .i64 0, .int .i64 0, .int .i64 0, .int .i64 0, .int .i64 0, .int .i64 0, .int .i64 0, .int .i64 0, .int .i64 0, .int .i64 0, .int .i64 0, .int .i64 0, .int .i64 0, .int .i64 0, .int .i64 0, .int .i64 0, .int .i64 0, .int .i64 0, .int .i64 0, .int .i64 0, .int .i64 0, .int .i64 0, .int .i64 0, .int .i64 0, .int .i64 0, .int .i64 0, .int .i64 0, .int .i64 0, .int .i64 0, .int .i64 0, .int .i64 0, .int .i64 0, .int .i64 0, .int .i64 0, .int .i64 0, .int .i64 0, .int .i64 0, .int .i64 0, .int .i64 0, .int .i64 0, .int .i64 0, .int .i64 0, .int .i64 0, .int .i64 0, .int .i64 0, .int .i64 0, .int .i64 0, .int .i64 0, .int .i64 0, .int .i64 0, .int .i64 0, .int .i64 0, .int .i64 0, .int .i64 0, .int .i64 0, .int .i64 0, .int .i64 0, .int .i64 0, .int .i64 0, .int .i64 0, .int .i64 0, .int .i64 0])) W = .ok (pureB xs) W) := Lib.hid (by rw [hE]; exact HQ.out)
  rw [← hE]
  clear hE HQ
  have heq := HQ2.out w3
  go_wp2
  go_ret2
  exact ⟨rfl, BB.out⟩
 ·have hb0 : isBraid s xs = false := by simpa using hbr
  simp only [mPure, if_neg hbr, Prod.mk.injEq] at hM
  obtain ⟨rfl, rfl⟩ := hM
  clear hbr
  go_enter Try.func114, Try.ntmps114
  go_wp2_with (go_at_call 67; refine (implIsBraid_any _ _ _ _ xs _ (R.out.alloc _) hn).mono ?_; rintro e w1 ⟨rfl, hb⟩)
  go_ret2
  exact ⟨rfl, below_go (below1 w _) hb (by simp)⟩

end Go.Proofs.Ytehcbamfendbaaa

/- Merged texts. -/

/- Merged texts. -/

/- The library's sort of at most eight bytes, by its text: exchanges of neighbours. -/
namespace Go.Proofs.Ytehcbamfendbaaa
open Go.RowKit Go.ChangeShapes

theorem Wrote.trans {lo hi : Nat} {w w1 w2 : World} (h : Wrote lo hi w w1) (k : Wrote lo hi w1 w2) : Wrote lo hi w w2 :=
 ⟨k.os.trans h.os, k.tape.trans h.tape, k.output.trans h.output, Nat.le_trans h.size k.size, fun j hj hd => (k.block j (Nat.lt_of_lt_of_le hj h.size) hd).trans (h.block j hj hd)⟩
theorem Wrote.set {lo hi : Nat} {w w1 : World} (h : Wrote lo hi w w1) {p : Addr} (h1 : lo ≤ p.block) (h2 : p.block < hi) (x : Value) : Wrote lo hi w (w1.setCell p x) :=
 h.trans ⟨rfl, rfl, rfl, by simp [World.setCell], fun k _ hd => Below.heap_setCell _ _ _ _ (by omega)⟩
theorem Wrote.drawn {lo hi : Nat} {w w1 w2 : World} (h : Wrote lo hi w w1) (k : Below w1.heap.size w1 w2) : Wrote lo hi w w2 := h.trans (below_wrote k)

end Go.Proofs.Ytehcbamfendbaaa

/- Merged texts. -/

/- The program: is a row a simple braid? -/
namespace Go.Proofs.Ytehcbamfendbaaa
open Go.RowKit Go.ChangeShapes

/-- The cells of an array of eight numbers. -/
def cells8 (k : IntKind) (l : List Int) : Array Value := #[.int k (at8 l 0), .int k (at8 l 1), .int k (at8 l 2), .int k (at8 l 3), .int k (at8 l 4), .int k (at8 l 5), .int k (at8 l 6), .int k (at8 l 7)]

theorem part8 (l : List Int) (j : Nat) (hj : j < 8) (w : World) : (part 5 (cells8 .u8 l) (j * 1)).run Try.prog w = .ok (.int .u8 (at8 l j)) w := by
 have he : ∀ w, (isAgg 5).run Try.prog w = .ok false w := fun _ => by kernel_rfl
 have : j = 0 ∨ j = 1 ∨ j = 2 ∨ j = 3 ∨ j = 4 ∨ j = 5 ∨ j = 6 ∨ j = 7 := by omega
 rcases this with rfl | rfl | rfl | rfl | rfl | rfl | rfl | rfl <;> simp [part, he, cells8]

theorem eqItems8 (d : Nat) (l m : List Int) (w : World) (is : List Nat) (h : ∀ j ∈ is, j < 8) :
  (Op.eqItems (d + 1) 5 1 (cells8 .u8 l) (cells8 .u8 m) is).run Try.prog w = .ok (is.all fun j => at8 l j == at8 m j) w := by
 induction is with
 | nil => simp [Op.eqItems]
 | cons j is ih =>
  have hu : Try.prog.underlying 5 = some (.int .u8) := by kernel_rfl
  have h1 := part8 l j (h j (by simp)) w
  have h2 := part8 m j (h j (by simp)) w
  have h3 := run_equalIn_int w d 5 .u8 .u8 (at8 l j) (at8 m j) hu
  simp only [Op.eqItems, Sem.run_bind, h1, h2, h3, Result.andThen_ok, List.all_cons]
  cases hb : (at8 l j == at8 m j)
  ·simp
  ·simp only [Bool.not_true, Bool.false_eq_true, if_false, Bool.true_and]
   exact ih fun i hi => h i (by simp [hi])

theorem all8_eq (l m : List Int) (hl : l.length = 8) (hm : m.length = 8) : ((List.range 8).all fun j => at8 l j == at8 m j) = decide (l = m) := by
 rw [Bool.eq_iff_iff, List.all_eq_true, decide_eq_true_eq]
 constructor
 ·intro h
  exact ext8 hl hm fun j hj => by simpa using h j (List.mem_range.2 hj)
 ·intro h j _
  rw [h]
  simp

end Go.Proofs.Ytehcbamfendbaaa

/- Is a braid pure: the model's answer. -/
namespace Go.Proofs.Ytehcbamfendbaaa
open Go.RowKit Go.ChangeShapes

/-- Two arrays of eight bytes are compared. -/
theorem equal8b (l m : List Int) (hl : l.length = 8) (hm : m.length = 8) (w : World) :
  Sem.run Try.prog (Op.equalIn 10000 60 (arr8 .u8 l) (arr8 .u8 m)) w = .ok (decide (l = m)) w := by
 obtain ⟨i0, hi, hz0, hz1, hz2⟩ := info_parts infoByte
 have hu : Try.prog.underlying 60 = some (.array 8 5) := by kernel_rfl
 have hc : Try.prog.cellsOf 5 = 1 := by kernel_rfl
 refine (run_equalIn_array w 9999 (cells8 .u8 l) (cells8 .u8 m) hu hi).trans ?_
 rw [hc, eqItems8 9998 l m w _ (fun j hj => List.mem_range.1 hj), all8_eq l m hl hm]

end Go.Proofs.Ytehcbamfendbaaa

/- The code for an argument that has to be pure: the model and the program. -/
namespace Go.Proofs.Ytehcbamfendbaaa
open Go.RowKit Go.ChangeShapes

/-- The code for an argument that has to be pure. -/
def pureC (s : Int) (xs : List Int) : Int := if isBraid s xs = true then (if pureB xs = true then 0 else 5) else 1

theorem pureC_zero {s : Int} {xs : List Int} (h : pureC s xs = 0) : isBraid s xs = true ∧ pureB xs = true := by
 unfold pureC at h
 split at h
 ·split at h
  ·exact ⟨‹_›, ‹_›⟩
  ·cases h
 ·cases h

set_option maxRecDepth 100000 in
set_option maxHeartbeats 1000000 in
theorem pureCode_any {s : Int} {a : Option Addr} {n cap : Nat} {xs : List Int} {w : World} {fc : Int} (hr : Reads w a n xs) (hf : Fits xs) (hn : n ≤ 1048576) (hM : pureC s xs = fc) :
  Calls Try.prog 86 #[.agg #[.int .i64 s, .slice a n cap]] w fun e w' => e = .returned (.int .i64 fc) ∧ Below w.heap.size w w' := by
 have R := Lib.hid (hr.alloc (.cells #[.int .i64 s, .slice a n cap] 29)); clear hr
 have HF := Lib.hid hf; clear hf
 have A := Lib.hid (At2.new w (.int .i64 s) (.slice a n cap) 29)
 have BB := Lib.hid (below1 w (.cells #[.int .i64 s, .slice a n cap] 29))
 obtain ⟨qA1, qA2, qA3, qA4, qA5⟩ := A.out
 unfold pureC at hM
 by_cases hbr : isBraid s xs = true
 ·rw [if_pos hbr] at hM
  by_cases hp : pureB xs = true
  ·rw [if_pos hp] at hM
   have HM : Hid (mPure s xs = (true, 0)) := Lib.hid (by rw [mPure, if_pos hbr, hp])
   subst hM
   clear hbr hp
   go_enter Try.func86, Try.ntmps86
   go_wp2_with fail
   refine (implPure_any R.out HF.out hn HM.out).mono ?_
   rintro e w1 ⟨rfl, hb⟩
   clear qA1 qA2 qA3 qA4 qA5
   replace BB := Lib.hid (below_go BB.out hb BB.out.size); clear hb
   have t1 : ((0 : Int) == 0) = true := by simp
   go_wp2
   go_ret
   exact ⟨rfl, BB.out⟩
  ·rw [if_neg hp] at hM
   have hp' : pureB xs = false := by simpa using hp
   have HM : Hid (mPure s xs = (false, 0)) := Lib.hid (by rw [mPure, if_pos hbr, hp'])
   subst hM
   clear hbr hp hp'
   go_enter Try.func86, Try.ntmps86
   go_wp2_with fail
   refine (implPure_any R.out HF.out hn HM.out).mono ?_
   rintro e w1 ⟨rfl, hb⟩
   clear qA1 qA2 qA3 qA4 qA5
   replace BB := Lib.hid (below_go BB.out hb BB.out.size); clear hb
   have t1 : ((0 : Int) == 0) = true := by simp
   go_wp2
   go_ret
   exact ⟨rfl, BB.out⟩
 ·rw [if_neg hbr] at hM
  have HM : Hid (mPure s xs = (false, 1)) := Lib.hid (by rw [mPure, if_neg hbr])
  subst hM
  clear hbr
  go_enter Try.func86, Try.ntmps86
  go_wp2_with fail
  refine (implPure_any R.out HF.out hn HM.out).mono ?_
  rintro e w1 ⟨rfl, hb⟩
  clear qA1 qA2 qA3 qA4 qA5
  replace BB := Lib.hid (below_go BB.out hb BB.out.size); clear hb
  have t1 : ((1 : Int) == 0) = false := by simp
  go_wp2
  go_ret
  exact ⟨rfl, BB.out⟩

set_option maxRecDepth 100000 in
set_option maxHeartbeats 1000000 in
theorem l10Pure_any {s : Int} {a : Option Addr} {n cap : Nat} {xs : List Int} {w : World} {fc : Int} (hr : Reads w a n xs) (hf : Fits xs) (hn : n ≤ 1048576) (hM : pureC s xs = fc) :
  Calls Try.prog 84 #[.agg #[.int .i64 s, .slice a n cap]] w fun e w' => e = .returned (.int .i64 fc) ∧ Below w.heap.size w w' := by
 have R := Lib.hid hr; clear hr
 have HF := Lib.hid hf; clear hf
 unfold pureC at hM
 by_cases hbr : isBraid s xs = true
 ·rw [if_pos hbr] at hM
  obtain ⟨k, rfl, k1, k8, hx⟩ := braid_nat hbr
  have HBR := Lib.hid hbr
  clear hbr
  have KP := Lib.hid (fun W (hR : Reads W a n xs) => l01Perm_any k k8 a n cap xs W hR hx hn)
  have KN := Lib.hid (fun W => l01Perm_any k k8 none 0 0 [] W (.zero rfl) (fun x hx => by cases hx) (by omega))
  have HQ := Lib.hid (fun W => (equal8b (ends 8 (run8 (startM k) xs) k) (ends 8 (run8 (startM k) []) k) (ends_len _ _ _) (ends_len _ _ _) W).trans (by rw [perm_pure k k1 k8 xs hx]))
  clear hx
  obtain ⟨E1, hE1⟩ : ∃ E, E = ends 8 (run8 (startM k) xs) k := ⟨_, rfl⟩
  obtain ⟨E2, hE2⟩ : ∃ E, E = ends 8 (run8 (startM k) []) k := ⟨_, rfl⟩
  rw [← hE1] at KP HQ
  rw [← hE2] at KN HQ
  clear hE1 hE2
  obtain ⟨pb, hpb⟩ : ∃ pb, pb = pureB xs := ⟨_, rfl⟩
  rw [← hpb] at HQ hM
  clear hpb
  go_enter Try.func84, Try.ntmps84
  go_wp2_with fail
  refine (l01Is_any _ _ _ _ xs _ (R.out.alloc _) HF.out hn).mono ?_
  rw [HBR.out]
  rintro e w1 ⟨rfl, hb⟩
  have A1 := Lib.hid ((At2.new w (.int .i64 k) (.slice a n cap) 29).below hb)
  obtain ⟨q1, q2, q3, q4, q5⟩ := A1.out
  have R1 := Lib.hid ((R.out.alloc (.cells #[.int .i64 k, .slice a n cap] 29)).below hb)
  have BB := Lib.hid (below_go (below1 w _) hb (by simp)); clear hb
  have heq := HQ.out
  have zb := BB.out.size
  go_wp2
  go_region_held3 (fun w' => w'.cell? ⟨w.heap.size, 0, none⟩ = some (.int .i64 k) ∧ w'.cell? ⟨w.heap.size, 1, none⟩ = some (.slice a n cap)) (first | exact ⟨q2, q3⟩ | exact ⟨r2, r3⟩)
   (first
    | (go_at_call_of 78 (Value.slice a n cap); refine (KP.out _ R1.out.drew).mono ?_; rintro e w2 ⟨rfl, h1⟩; obtain ⟨r1, r2, r3, r4, r5⟩ := A1.out.drew.below h1)
    | (go_at_call 78; refine (KN.out _).mono ?_; rintro e w3 ⟨rfl, h2⟩; obtain ⟨r1, r2, r3, r4, r5⟩ := (A1.out.drew.below h1).below h2))
  clear heq
  cases pb with
  | true =>
   rw [if_pos rfl] at hM
   subst hM
   go_wp2
   go_ret
   exact ⟨rfl, below_go (below_go BB.out.drew h1 zb) h2 (Nat.le_trans zb h1.size)⟩
  | false =>
   rw [if_neg (by simp)] at hM
   subst hM
   go_wp2
   go_ret
   exact ⟨rfl, below_go (below_go BB.out.drew h1 zb) h2 (Nat.le_trans zb h1.size)⟩
 ·rw [if_neg hbr] at hM
  subst hM
  have hb0 : isBraid s xs = false := by simpa using hbr
  clear hbr
  have HB0 := Lib.hid hb0
  clear hb0
  go_enter Try.func84, Try.ntmps84
  go_wp2_with fail
  refine (l01Is_any _ _ _ _ xs _ (R.out.alloc _) HF.out hn).mono ?_
  rw [HB0.out]
  rintro e w1 ⟨rfl, hb⟩
  have BB := Lib.hid (below_go (below1 w _) hb (by simp)); clear hb
  go_wp2
  go_ret
  exact ⟨rfl, BB.out⟩

end Go.Proofs.Ytehcbamfendbaaa
