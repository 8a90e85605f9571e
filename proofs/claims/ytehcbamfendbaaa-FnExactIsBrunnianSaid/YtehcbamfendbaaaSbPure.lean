/- Is a braid pure: the program's answer. -/
import Derived.Test.YtehcbamfendbaaaSbMg10
import Derived.Test.YtehcbamfendbaaaSbPureP
import Derived.ChangeKeysEq
namespace Go.Proofs.Ytehcbamfendbaaa
open Go.RowKit Go.ChangeShapes

theorem eqItems_all {P : Program} (d : Nat) (e : TypeId) (c : Nat) (xs ys : Array Value) (X Y : Nat → Value) (b : Nat → Bool) (w : World) (is : List Nat)
  (h : ∀ j ∈ is, (part e xs (j * c)).run P w = .ok (X j) w ∧ (part e ys (j * c)).run P w = .ok (Y j) w ∧ (Op.equalIn d e (X j) (Y j)).run P w = .ok (b j) w) :
  (Op.eqItems d e c xs ys is).run P w = .ok (is.all b) w := by
 induction is with
 | nil => simp [Op.eqItems]
 | cons j is ih =>
  obtain ⟨h1, h2, h3⟩ := h j (by simp)
  simp only [Op.eqItems, Sem.run_bind, h1, h2, h3, Result.andThen_ok, List.all_cons]
  cases hb : b j
  ·simp
  ·simp only [Bool.not_true, Bool.false_eq_true, if_false, Bool.true_and]
   exact ih fun i hi => h i (by simp [hi])

/-- Row j of a table. -/
def rowJ (l : List Int) (j : Nat) : List Int := (l.drop (j * 8)).take 8

theorem part_int (l : List Int) (j : Nat) (hj : j < l.length) (w : World) : (part 2 (cells l) (j * 1)).run Try.prog w = .ok (.int .i64 (at8 l j)) w := by
 have he : ∀ w, (isAgg 2).run Try.prog w = .ok false w := fun _ => by kernel_rfl
 have hc : (cells l)[j * 1]? = some (.int .i64 (at8 l j)) := by
  rw [Nat.mul_one]
  simp [cells, at8, List.getD, List.getElem?_eq_getElem hj]
 simp only [part, Sem.run_bind, he, Result.andThen_ok, Bool.false_eq_true, if_false, hc, Sem.run_pure]

theorem part_row (l : List Int) (j : Nat) (w : World) : (part 54 (cells l) (j * 8)).run Try.prog w = .ok (.agg (cells (rowJ l j))) w := by
 have he : ∀ w, (isAgg 54).run Try.prog w = .ok true w := fun _ => by kernel_rfl
 have hz : ∀ w, (sizeOf 54).run Try.prog w = .ok 8 w := fun _ => by kernel_rfl
 simp only [part, Sem.run_bind, he, Result.andThen_ok, if_true, hz, Sem.run_pure]
 congr 2
 apply Array.ext'
 simp [cells, rowJ, List.map_take, List.map_drop]

theorem equal_row (d : Nat) (l m : List Int) (hl : l.length = 8) (hm : m.length = 8) (w : World) :
  (Op.equalIn (d + 2) 54 (.agg (cells l)) (.agg (cells m))).run Try.prog w = .ok (decide (l = m)) w := by
 obtain ⟨i0, hi, _, _, _⟩ := info_parts infoInt
 have hu : Try.prog.underlying 54 = some (.array 8 2) := by kernel_rfl
 have hc : Try.prog.cellsOf 2 = 1 := by kernel_rfl
 have he : Try.prog.underlying 2 = some (.int .i64) := by kernel_rfl
 refine (run_equalIn_array w (d + 1) (cells l) (cells m) hu hi).trans ?_
 rw [hc, eqItems_all (d + 1) 2 1 (cells l) (cells m) (fun j => .int .i64 (at8 l j)) (fun j => .int .i64 (at8 m j)) (fun j => at8 l j == at8 m j) w _ (fun j hj => ?_)]
 ·refine congrArg (fun b => Result.ok b w) ?_
  rw [Bool.eq_iff_iff, List.all_eq_true, decide_eq_true_eq]
  constructor
  ·intro h
   exact ext8 hl hm fun j hj => by simpa using h j (List.mem_range.2 hj)
  ·intro h j _
   rw [h]
   simp
 ·have hj := List.mem_range.1 hj
  exact ⟨part_int l j (by omega) w, part_int m j (by omega) w, run_equalIn_int w d 2 .i64 .i64 _ _ he⟩

theorem equal_table (l m : List Int) (hl : l.length = 64) (hm : m.length = 64) (w : World) :
  Sem.run Try.prog (Op.equalIn 10000 70 (.agg (cells l)) (.agg (cells m))) w = .ok (decide (l = m)) w := by
 have hi : ∃ i, Try.prog.info? 54 = some i := by
  have h : (Try.prog.info? 54).isSome = true := by kernel_rfl
  exact Option.isSome_iff_exists.1 h
 obtain ⟨i0, hi⟩ := hi
 have hu : Try.prog.underlying 70 = some (.array 8 54) := by kernel_rfl
 have hc : Try.prog.cellsOf 54 = 8 := by kernel_rfl
 refine (run_equalIn_array w 9999 (cells l) (cells m) hu hi).trans ?_
 rw [hc, eqItems_all 9999 54 8 (cells l) (cells m) (fun j => .agg (cells (rowJ l j))) (fun j => .agg (cells (rowJ m j))) (fun j => decide (rowJ l j = rowJ m j)) w _ (fun j hj => ?_)]
 ·refine congrArg (fun b => Result.ok b w) ?_
  rw [Bool.eq_iff_iff, List.all_eq_true, decide_eq_true_eq]
  constructor
  ·intro h
   refine List.ext_getElem (by omega) fun i h1 h2 => ?_
   have := h (i / 8) (List.mem_range.2 (by omega))
   rw [decide_eq_true_eq] at this
   have e := congrArg (fun r => r[i % 8]?) this
   have hi8 : i % 8 < 8 := by omega
   simp only [rowJ, List.getElem?_take, List.getElem?_drop, if_pos hi8] at e
   rw [show i / 8 * 8 + i % 8 = i by omega, List.getElem?_eq_getElem h1, List.getElem?_eq_getElem h2] at e
   simpa using e
  ·intro h j _
   rw [h]
   simp
 ·have hj := List.mem_range.1 hj
  exact ⟨part_row l j w, part_row m j w, equal_row 9997 _ _ (by simp [rowJ]; omega) (by simp [rowJ]; omega) w⟩

set_option maxRecDepth 100000 in
set_option maxHeartbeats 2000000 in
theorem implPure_any {s : Int} {a : Option Addr} {n cap : Nat} {xs : List Int} {w : World} {fb : Bool} {fc : Int} (hr : Reads w a n xs) (_hf : Fits xs) (hn : n ≤ 1048576) (hM : mPure s xs = (fb, fc)) :
  Calls Try.prog 114 #[.agg #[.int .i64 s, .slice a n cap]] w fun e w' => e = .returned (.tuple #[.bool fb, .int .i64 fc]) ∧ Below w.heap.size w w' := by
 have HL := Lib.hid hr.len
 have R := Lib.hid hr; clear hr
 by_cases hbr : isBraid s xs = true
 ·simp only [mPure, if_pos hbr, Prod.mk.injEq] at hM
  obtain ⟨rfl, rfl⟩ := hM
  obtain ⟨h1, h2, h3, h4⟩ := (isBraid_iff s xs).1 hbr
  have hx : Letts 8 xs := fun x hx => by obtain ⟨y0, y1, y2⟩ := h4 x hx; exact ⟨y0, by omega, by omega⟩
  have hn2 : n ≤ 1000 := by rw [← HL.out]; omega
  have tok := runT_ok xs hx
  have K1 := Lib.hid (fun W (hR : Reads W a n xs) => crossingTableOf_any s a n cap xs W hR hx hn2)
  have K2 := Lib.hid (fun W => parities_any (runT xs).2 tok.tlen W)
  have HE := Lib.hid (even_pure xs hx tok.tlen)
  have HQ : Hid (∀ W, Sem.run Try.prog (Op.equalIn 10000 70 (.agg (cells (evens (runT xs).2 64))) (.agg (cells zeros64))) W = .ok (pureB xs) W) := Lib.hid (fun W => by
   have e64 : evens (runT xs).2 64 = (runT xs).2.map (· % 2) := by
    have := evens_all (runT xs).2
    rw [tok.tlen] at this
    exact this
   rw [e64, equal_table _ _ (by rw [List.length_map]; exact tok.tlen) (by simp [zeros64]) W, HE.out])
  clear tok hx h4
  go_enter Try.func114, Try.ntmps114
  go_wp2_with fail
  refine (implIsBraid_any _ _ _ _ xs _ (R.out.alloc _) hn).mono ?_
  rintro e w1 ⟨rfl, hb⟩
  have A1 := Lib.hid ((At2.new w (.int .i64 s) (.slice a n cap) 29).below hb)
  obtain ⟨q1, q2, q3, q4, q5⟩ := A1.out
  have R1 := Lib.hid ((R.out.alloc (.cells #[.int .i64 s, .slice a n cap] 29)).below hb)
  have BB := Lib.hid (below_go (below1 w _) hb (by simp)); clear hb
  go_wp2_with fail
  refine (K1.out _ R1.out).mono ?_
  rintro e w2 ⟨rfl, hb⟩
  replace BB := Lib.hid (below_go BB.out hb (by omega))
  clear hb
  clear q1 q2 q3 q4 q5
  go_wp2_with fail
  refine (K2.out _).mono ?_
  rintro e w3 ⟨rfl, hb⟩
  replace BB := Lib.hid (below_go BB.out hb BB.out.size)
  clear hb
  obtain ⟨E, hE⟩ : ∃ E, E = cells (evens (runT xs).2 64) := ⟨_, rfl⟩
  have HQ2 : Hid (∀ W, Sem.run Try.prog (Op.equalIn 10000 70 (.agg E) (.agg #[.int .i64 0, .int .i64 0, .int .i64 0, .int .i64 0, .int .i64 0, .int .i64 0, .int .i64 0, .int .i64 0, .int .i64 0, .int .i64 0, .int .i64 0, .int .i64 0, .int .i64 0, .int .i64 0, .int .i64 0, .int .i64 0, .int .i64 0, .int .i64 0, .int .i64 0, .int .i64 0, .int .i64 0, .int .i64 0, .int .i64 0, .int .i64 0, .int .i64 0, .int .i64 0, .int .i64 0, .int .i64 0, .int .i64 0, .int .i64 0, .int .i64 0, .int .i64 0, .int .i64 0, .int .i64 0, .int .i64 0, .int .i64 0, .int .i64 0, .int .i64 0, .int .i64 0, .int .i64 0, .int .i64 0, .int .i64 0, .int .i64 0, .int .i64 0, .int .i64 0, .int .i64 0, .int .i64 0, .int .i64 0, .int .i64 0, .int .i64 0, .int .i64 0, .int .i64 0, .int .i64 0, .int .i64 0, .int .i64 0, .int .i64 0, .int .i64 0, .int .i64 0, .int .i64 0, .int .i64 0, .int .i64 0, .int .i64 0, .int .i64 0, .int .i64 0])) W = .ok (pureB xs) W) := Lib.hid (by rw [hE]; exact HQ.out)
  rw [← hE]
  clear hE HQ
  have heq := HQ2.out w3
  go_wp2
  go_ret2
  exact ⟨rfl, BB.out⟩
 ·have hb0 : isBraid s xs = false := by simpa using hbr
  simp only [mPure, if_neg hbr, Prod.mk.injEq] at hM
  obtain ⟨rfl, rfl⟩ := hM
  clear hbr
  go_enter Try.func114, Try.ntmps114
  go_wp2_with (go_at_call 67; refine (implIsBraid_any _ _ _ _ xs _ (R.out.alloc _) hn).mono ?_; rintro e w1 ⟨rfl, hb⟩)
  go_ret2
  exact ⟨rfl, below_go (below1 w _) hb (by simp)⟩

end Go.Proofs.Ytehcbamfendbaaa

