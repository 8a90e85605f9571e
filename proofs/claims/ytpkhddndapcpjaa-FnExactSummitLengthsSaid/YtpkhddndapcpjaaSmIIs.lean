/- The program: is a row a simple braid? -/
import Derived.Test.YtpkhddndapcpjaaSmIRows
import Derived.Test.YtpkhddndapcpjaaSmSort
import Derived.Deep.RegionHeld3
import Derived.ChangeKeysEq
namespace Go.Proofs.Ytpkhddndapcpjaa
open Go.RowKit Go.ChangeShapes

/-- The cells of an array of eight numbers. -/
def cells8 (k : IntKind) (l : List Int) : Array Value := #[.int k (at8 l 0), .int k (at8 l 1), .int k (at8 l 2), .int k (at8 l 3), .int k (at8 l 4), .int k (at8 l 5), .int k (at8 l 6), .int k (at8 l 7)]

theorem part8 (l : List Int) (j : Nat) (hj : j < 8) (w : World) : (part 5 (cells8 .u8 l) (j * 1)).run Try.prog w = .ok (.int .u8 (at8 l j)) w := by
 have he : ∀ w, (isAgg 5).run Try.prog w = .ok false w := fun _ => by kernel_rfl
 have : j = 0 ∨ j = 1 ∨ j = 2 ∨ j = 3 ∨ j = 4 ∨ j = 5 ∨ j = 6 ∨ j = 7 := by omega
 rcases this with rfl | rfl | rfl | rfl | rfl | rfl | rfl | rfl <;> simp [part, he, cells8]

theorem eqItems8 (d : Nat) (l m : List Int) (w : World) (is : List Nat) (h : ∀ j ∈ is, j < 8) :
  (Op.eqItems (d + 1) 5 1 (cells8 .u8 l) (cells8 .u8 m) is).run Try.prog w = .ok (is.all fun j => at8 l j == at8 m j) w := by
 induction is with
 | nil => simp [Op.eqItems]
 | cons j is ih =>
  have hu : Try.prog.underlying 5 = some (.int .u8) := by kernel_rfl
  have h1 := part8 l j (h j (by simp)) w
  have h2 := part8 m j (h j (by simp)) w
  have h3 := run_equalIn_int w d 5 .u8 .u8 (at8 l j) (at8 m j) hu
  simp only [Op.eqItems, Sem.run_bind, h1, h2, h3, Result.andThen_ok, List.all_cons]
  cases hb : (at8 l j == at8 m j)
  ·simp
  ·simp only [Bool.not_true, Bool.false_eq_true, if_false, Bool.true_and]
   exact ih fun i hi => h i (by simp [hi])

theorem all8_eq (l m : List Int) (hl : l.length = 8) (hm : m.length = 8) : ((List.range 8).all fun j => at8 l j == at8 m j) = decide (l = m) := by
 rw [Bool.eq_iff_iff, List.all_eq_true, decide_eq_true_eq]
 constructor
 ·intro h
  exact ext8 hl hm fun j hj => by simpa using h j (List.mem_range.2 hj)
 ·intro h j _
  rw [h]
  simp

/-- Two arrays of eight bytes are compared. -/
theorem equal8 (l m : List Int) (hl : l.length = 8) (hm : m.length = 8) (w : World) :
  Sem.run Try.prog (Op.equalIn 10000 53 (arr8 .u8 l) (arr8 .u8 m)) w = .ok (decide (l = m)) w := by
 obtain ⟨i0, hi, hz0, hz1, hz2⟩ := info_parts infoByte
 have hu : Try.prog.underlying 53 = some (.array 8 5) := by kernel_rfl
 have hc : Try.prog.cellsOf 5 = 1 := by kernel_rfl
 refine (run_equalIn_array w 9999 (cells8 .u8 l) (cells8 .u8 m) hu hi).trans ?_
 rw [hc, eqItems8 9998 l m w _ (fun j hj => List.mem_range.1 hj), all8_eq l m hl hm]

set_option maxRecDepth 100000 in
set_option maxHeartbeats 1000000 in
theorem isSimple_yes (n : Nat) (h1 : 1 ≤ n) (h8 : n ≤ 8) (s : List Int) (ls : s.length = 8) (w : World) :
  Calls Try.prog 44 #[arr8 .u8 s, .int .i64 n] w fun e w' => e = .returned (.bool (simB n s)) ∧ Below w.heap.size w w' := by
 go_enter Try.func44, Try.ntmps44
 have RA := Lib.hid (Row8.place w .u8 s 53 w.heap.size rfl ls)
 have BB := Lib.hid (below1 w (.cells #[.int .u8 (at8 s 0), .int .u8 (at8 s 1), .int .u8 (at8 s 2), .int .u8 (at8 s 3), .int .u8 (at8 s 4), .int .u8 (at8 s 5), .int .u8 (at8 s 6), .int .u8 (at8 s 7)] 53))
 have LS := Lib.hid ls
 clear ls
 have RS := Lib.hid (Row8.place (w.alloc (.cells #[.int .u8 (at8 s 0), .int .u8 (at8 s 1), .int .u8 (at8 s 2), .int .u8 (at8 s 3), .int .u8 (at8 s 4), .int .u8 (at8 s 5), .int .u8 (at8 s 6), .int .u8 (at8 s 7)] 53)) .u8 s 53 (w.heap.size + 1) (by simp) LS.out)
 replace RA := Lib.hid (RA.out.alloc (.cells #[.int .u8 (at8 s 0), .int .u8 (at8 s 1), .int .u8 (at8 s 2), .int .u8 (at8 s 3), .int .u8 (at8 s 4), .int .u8 (at8 s 5), .int .u8 (at8 s 6), .int .u8 (at8 s 7)] 53))
 replace BB := Lib.hid (BB.out.alloc (by simp) (.cells #[.int .u8 (at8 s 0), .int .u8 (at8 s 1), .int .u8 (at8 s 2), .int .u8 (at8 s 3), .int .u8 (at8 s 4), .int .u8 (at8 s 5), .int .u8 (at8 s 6), .int .u8 (at8 s 7)] 53))
 have hsl := slice_simple (w.heap.size + 1) n h8
 go_wp2_with fail
 clear hsl
 refine (sort_any n h1 h8 _ s _ RS.out).mono ?_
 rintro e w1 ⟨rfl, m, hsr, hasc, hrow, hwr⟩
 have HB := Lib.hid (simB_sorted LS.out h1 h8 hsr.2 hasc)
 have HM := Lib.hid hsr.1
 have R1 := Lib.hid hrow
 have B1 := Lib.hid (below_write BB.out hwr (by omega) BB.out.size)
 clear hsr hasc hrow hwr RS RA BB
 have HEQ := Lib.hid (fun W => equal8 m (sameR n) HM.out (mapR_len _ _ h8) W)
 go_wp2
 have zb := B1.out.size
 have heq := HEQ.out
 go_region_held3 (fun w' => w'.cell? ⟨w.heap.size + 1, 0, none⟩ = some (.int .u8 (at8 m 0)) ∧ w'.cell? ⟨w.heap.size + 1, 1, none⟩ = some (.int .u8 (at8 m 1)) ∧ w'.cell? ⟨w.heap.size + 1, 2, none⟩ = some (.int .u8 (at8 m 2)) ∧ w'.cell? ⟨w.heap.size + 1, 3, none⟩ = some (.int .u8 (at8 m 3)) ∧ w'.cell? ⟨w.heap.size + 1, 4, none⟩ = some (.int .u8 (at8 m 4)) ∧ w'.cell? ⟨w.heap.size + 1, 5, none⟩ = some (.int .u8 (at8 m 5)) ∧ w'.cell? ⟨w.heap.size + 1, 6, none⟩ = some (.int .u8 (at8 m 6)) ∧ w'.cell? ⟨w.heap.size + 1, 7, none⟩ = some (.int .u8 (at8 m 7))) (first | with_reducible exact (R1.out.drew).flat | with_reducible exact (R1.out.drew.below hb1).flat)
  (first
   | (go_at_call 45; refine (nothing_any n h8 _).mono ?_; rintro e w2 ⟨rfl, hb1⟩))
 clear heq
 go_wp2
 go_ret
 exact ⟨ret_bool HB.out.symm, below_go B1.out.drew hb1 zb⟩

set_option maxRecDepth 100000 in
set_option maxHeartbeats 1000000 in
theorem isSimple_no (n : Int) (h : n < 1 ∨ 8 < n) (s : List Int) (ls : s.length = 8) (w : World) :
  Calls Try.prog 44 #[arr8 .u8 s, .int .i64 n] w fun e w' => e = .returned (.bool (simB n s)) ∧ Below w.heap.size w w' := by
 have hno : simB n s = false := by
  rw [← Bool.not_eq_true, simB_iff _ _ ls]
  rintro ⟨m, hm, h2⟩
  have := h2.lo
  have := h2.hi
  omega
 have HB := Lib.hid hno
 clear hno
 rcases h with h | h
 ·go_enter Try.func44, Try.ntmps44
  go_wp2
  go_ret
  exact ⟨ret_bool HB.out.symm, below1 w _⟩
 ·have h1 : ¬ n < 1 := by omega
  go_enter Try.func44, Try.ntmps44
  go_wp2
  go_ret
  exact ⟨ret_bool HB.out.symm, below1 w _⟩

theorem isSimple_any (n : Int) (s : List Int) (ls : s.length = 8) (w : World) :
  Calls Try.prog 44 #[arr8 .u8 s, .int .i64 n] w fun e w' => e = .returned (.bool (simB n s)) ∧ Below w.heap.size w w' := by
 by_cases h : 1 ≤ n ∧ n ≤ 8
 ·obtain ⟨k, rfl⟩ : ∃ k : Nat, n = k := ⟨n.toNat, by omega⟩
  exact isSimple_yes k (by omega) (by omega) s ls w
 ·exact isSimple_no n (by omega) s ls w

end Go.Proofs.Ytpkhddndapcpjaa

