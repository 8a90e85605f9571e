/- Colours: the model's and the program's steps. -/
import Derived.Test.YtelmdfkcclhhjaaColP
import Derived.Test.YtelmdfkcclhhjaaPuts
import Derived.Test.YtelmdfkcclhhjaaOwnL
import Derived.Test.YtelmdfkcclhhjaaCloI
import Derived.BigQuiet
namespace Go.Proofs.Ytelmdfkcclhhjaa
open Go.RowKit Go.ChangeShapes

/-- The letters fit the colours. -/
def Lets (ls : List Int) (n : Nat) : Prop := ∀ l ∈ ls, l ≠ 0 ∧ -(n : Int) < l ∧ l < n

theorem tintF_cols {p : Int} (hp : 0 < p) (ls cs : List Int) (h : Cols p cs) (hl : Lets ls cs.length) (k : Nat) : Cols p (tintF p (ls.take k) cs) := by
  induction k with
  | zero => exact h
  | succ k ih =>
    by_cases hk : k < ls.length
    · rw [tintF_step p ls cs k hk]
      have := hl _ (getD_mem ls k hk)
      exact tintL_cols hp ih (by rw [tintF_len]; omega) (by rw [tintF_len]; omega)
    · rw [List.take_of_length_le (by omega)]
      rw [List.take_of_length_le (by omega)] at ih
      exact ih

set_option maxRecDepth 100000 in
set_option maxHeartbeats 1000000 in
theorem l08Step_any (la : Option Addr) (m lc : Nat) (ls : List Int) (p : Int) (a : Option Addr) (n cap : Nat) (cs : List Int) (w : World) (hr : Reads w la m ls) (hm : m ≤ 1048576) (hl : Lets ls n) (hr2 : Reads w a n cs) (hn : n ≤ 1000) (hp : 0 < p) (hp2 : p ≤ 97) (hc : Cols p cs) :
    Calls Try.prog 48 #[.slice la m lc, .int .i64 p, .slice a n cap] w (MadeInts w n (tintF p ls cs)) := by
  have HLN := Lib.hid hr.len
  have HCN := Lib.hid hr2.len
  have HR := Lib.hid hr; have HX := Lib.hid hr2; clear hr hr2
  have HL := Lib.hid hl; have HC := Lib.hid hc; clear hl hc
  go_enter Try.func48, Try.ntmps48
  go_wp2_with fail
  refine (l01Own_any _ _ _ cs _ HX.out (by omega)).mono ?_
  rintro e w1 ⟨a1, c1, rfl, ho, hb⟩
  have HO := Lib.hid ho; have HB := Lib.hid hb; clear ho hb
  go_wp2
  go_loopw [8] (fun i wr => ∃ k : Nat, k ≤ m ∧ i = .int .i64 k ∧ Own w.heap.size wr a1 n c1 (tintF p (ls.take k) cs) ∧ Below w.heap.size w wr) (fun i _ => m - (intOf i).toNat)
  case atStart => exact ⟨0, Nat.zero_le _, rfl, HO.out, HB.out⟩
  case round =>
    obtain ⟨k, hk, rfl, ho, hb⟩ := hrel
    clear HO HB
    have HO := Lib.hid ho; have HB := Lib.hid hb; clear ho hb
    by_cases hlt : k < m
    · have hkl : k < ls.length := by rw [HLN.out]; exact hlt
      obtain ⟨l, hle⟩ : ∃ l, l = ls.getD k 0 := ⟨_, rfl⟩
      have hlb := HL.out _ (getD_mem ls k hkl)
      have hst := tintF_step p ls cs k hkl
      have hcl := tintF_cols hp ls cs HC.out (by rw [HCN.out]; exact HL.out) k
      obtain ⟨d, hd⟩ : ∃ d, d = tintF p (ls.take k) cs := ⟨_, rfl⟩
      rw [← hle] at hlb hst
      rw [← hd] at hst hcl
      obtain ⟨lb, lo, rfl, hlbk, hlc⟩ := HR.out.cells (by omega)
      have c0 : wr.cell? ⟨lb, lo + k, none⟩ = some (.int .i64 l) := by rw [hle]; exact (HB.out.cell (p := ⟨lb, lo + k, none⟩) hlbk).trans (hlc k hlt)
      have OD := HO.out
      rw [← hd] at OD
      have hdl : d.length = n := OD.len
      have HST := Lib.hid hst; clear hst hle hd hlc HO
      obtain ⟨hl0, hl1, hl2⟩ := hlb
      obtain ⟨g, rfl, hg1, hg2⟩ := OD.block (by omega)
      have k0 : 0 ≤ (k : Int) := by omega
      have k1 : (k : Int) < (m : Int) := by omega
      have hp0 : ¬ p = 0 := by omega
      have hwl : IntKind.i64.wrap (-l) = -l := IntWalk.i64_in _ (by omega)
      rcases Int.lt_or_gt_of_ne hl0 with hs | hs
      · obtain ⟨q, hq⟩ : ∃ q : Nat, -l = (q : Int) + 1 := ⟨(-l).toNat - 1, by omega⟩
        have hmx : (if l < (q : Int) + 1 then (q : Int) + 1 else l) = (q : Int) + 1 := by rw [if_pos (by omega)]
        have hgt : decide (0 < l) = false := decide_eq_false (by omega)
        have hti : tintL p l d = (d.set q (d.getD (q + 1) 0)).set (q + 1) ((2 * d.getD (q + 1) 0 - d.getD q 0 + p).tmod p) := by
          have h1 : (-l).toNat = q + 1 := by omega
          unfold tintL
          rw [if_pos hs, h1, Nat.add_sub_cancel, List.set_comm _ _ (by omega)]
        have e1 := OD.cellAt q (by omega)
        have e2 := OD.cellAt (q + 1) (by omega)
        have b1 := hcl.at q (by omega)
        have b2 := hcl.at (q + 1) (by omega)
        have f1 := OD.frozenAt q
        have f2 := OD.frozenAt (q + 1)
        have s1 := (OD.store q (d.getD (q + 1) 0)).1
        have s2 := (s1.store (q + 1) ((2 * d.getD (q + 1) 0 - d.getD q 0 + p).tmod p)).1
        obtain ⟨x, hx⟩ : ∃ x, x = d.getD q 0 := ⟨_, rfl⟩
        obtain ⟨y, hy⟩ : ∃ y, y = d.getD (q + 1) 0 := ⟨_, rfl⟩
        rw [← hx] at e1 b1
        rw [← hy] at e2 b2
        rw [← hti, ← HST.out, ← hy, ← hx] at s2
        have hre : (2 * y - x + p).tmod p = (2 * y - x) % p := by rw [Int.tmod_eq_emod_of_nonneg (by omega), Int.add_emod_right]
        rw [hre] at s2
        have S2 := Lib.hid s2; clear hre hti s1 s2 hx hy OD hcl
        obtain ⟨bx1, bx2⟩ := b1
        obtain ⟨by1, by2⟩ := b2
        have q0 : 0 ≤ (q : Int) := by omega
        have q1 : (q : Int) < (n : Int) := by omega
        have r0 : 0 ≤ (q : Int) + 1 := by omega
        have r1 : (q : Int) + 1 < (n : Int) := by omega
        have r2 : ((q : Int) + 1).toNat = q + 1 := by omega
        have hw1 : IntKind.i64.wrap ((q : Int) + 1 - 1) = (q : Int) := (IntWalk.i64_in _ (by omega)).trans (by omega)
        have hw2 : IntKind.i64.wrap (2 * y) = 2 * y := IntWalk.i64_in _ (by omega)
        have hw3 : IntKind.i64.wrap (2 * y - x) = 2 * y - x := IntWalk.i64_in _ (by omega)
        have hw4 : IntKind.i64.wrap (2 * y - x + p) = 2 * y - x + p := IntWalk.i64_in _ (by omega)
        have hwl2 : IntKind.i64.wrap ((q : Int) + 1) = (q : Int) + 1 := IntWalk.i64_in _ (by omega)
        go_wp2
        go_quiet (fail)
        obtain ⟨W1, hW1⟩ : ∃ x, x = wr.drewN nq := ⟨_, rfl⟩
        have HB1 : Hid (Below w.heap.size w W1) := Lib.hid (by rw [hW1]; exact HB.out.trans (below_draws _ _ _))
        have e11 : W1.cell? ⟨g, q, none⟩ = some (.int .i64 x) := by rw [hW1]; exact e1
        have e21 : W1.cell? ⟨g, q + 1, none⟩ = some (.int .i64 y) := by rw [hW1]; exact e2
        have c01 : W1.cell? ⟨lb, lo + k, none⟩ = some (.int .i64 l) := by rw [hW1]; exact c0
        have f11 : W1.frozen? ⟨g, q, none⟩ = false := by rw [hW1]; exact f1
        have f21 : W1.frozen? ⟨g, q + 1, none⟩ = false := by rw [hW1]; exact f2
        have S21 : Hid (Own w.heap.size ((W1.setCell ⟨g, q, none⟩ (.int .i64 y)).setCell ⟨g, q + 1, none⟩ (.int .i64 ((2 * y - x) % p))) (some ⟨g, 0, none⟩) n c1 (tintF p (ls.take (k + 1)) cs)) := Lib.hid (by rw [hW1]; exact S2.out)
        rw [← hW1]
        clear hW1 e1 e2 c0 f1 f2
        go_wp2
        go_quiet (fail)
        obtain ⟨W2, hW2⟩ : ∃ x, x = W1.drewN nq := ⟨_, rfl⟩
        have HB2 : Hid (Below w.heap.size w W2) := Lib.hid (by rw [hW2]; exact HB1.out.trans (below_draws _ _ _))
        have e12 : W2.cell? ⟨g, q, none⟩ = some (.int .i64 x) := by rw [hW2]; exact e11
        have e22 : W2.cell? ⟨g, q + 1, none⟩ = some (.int .i64 y) := by rw [hW2]; exact e21
        have c02 : W2.cell? ⟨lb, lo + k, none⟩ = some (.int .i64 l) := by rw [hW2]; exact c01
        have f12 : W2.frozen? ⟨g, q, none⟩ = false := by rw [hW2]; exact f11
        have f22 : W2.frozen? ⟨g, q + 1, none⟩ = false := by rw [hW2]; exact f21
        have S22 : Hid (Own w.heap.size ((W2.setCell ⟨g, q, none⟩ (.int .i64 y)).setCell ⟨g, q + 1, none⟩ (.int .i64 ((2 * y - x) % p))) (some ⟨g, 0, none⟩) n c1 (tintF p (ls.take (k + 1)) cs)) := Lib.hid (by rw [hW2]; exact S21.out)
        rw [← hW2]
        clear hW2 e11 e21 c01 f11 f21
        go_wp2
        go_roundw
        case rel => exact ⟨k + 1, by omega, by go_num, S22.out, (HB2.out.setCell (p := ⟨g, q, none⟩) hg1 _).setCell (p := ⟨g, q + 1, none⟩) hg1 _⟩
        case measure => simp [intOf]; omega
      · obtain ⟨q, hq⟩ : ∃ q : Nat, l = (q : Int) + 1 := ⟨(l).toNat - 1, by omega⟩
        have hmx : (if l < -l then -l else l) = (q : Int) + 1 := by rw [if_neg (by omega), hq]
        have hgt : (0 : Int) < l := by omega
        have hti : tintL p l d = (d.set q ((2 * d.getD q 0 - d.getD (q + 1) 0 + p).tmod p)).set (q + 1) (d.getD q 0) := by
          have h1 : l.toNat = q + 1 := by omega
          unfold tintL
          rw [if_neg (by omega), h1, Nat.add_sub_cancel]
        have e1 := OD.cellAt q (by omega)
        have e2 := OD.cellAt (q + 1) (by omega)
        have b1 := hcl.at q (by omega)
        have b2 := hcl.at (q + 1) (by omega)
        have f1 := OD.frozenAt q
        have f2 := OD.frozenAt (q + 1)
        have s1 := (OD.store q ((2 * d.getD q 0 - d.getD (q + 1) 0 + p).tmod p)).1
        have s2 := (s1.store (q + 1) (d.getD q 0)).1
        obtain ⟨x, hx⟩ : ∃ x, x = d.getD q 0 := ⟨_, rfl⟩
        obtain ⟨y, hy⟩ : ∃ y, y = d.getD (q + 1) 0 := ⟨_, rfl⟩
        rw [← hx] at e1 b1
        rw [← hy] at e2 b2
        rw [← hti, ← HST.out, ← hx, ← hy] at s2
        have hre : (2 * x - y + p).tmod p = (2 * x - y) % p := by rw [Int.tmod_eq_emod_of_nonneg (by omega), Int.add_emod_right]
        rw [hre] at s2
        have S2 := Lib.hid s2; clear hre hti s1 s2 hx hy OD hcl
        obtain ⟨bx1, bx2⟩ := b1
        obtain ⟨by1, by2⟩ := b2
        have q0 : 0 ≤ (q : Int) := by omega
        have q1 : (q : Int) < (n : Int) := by omega
        have r0 : 0 ≤ (q : Int) + 1 := by omega
        have r1 : (q : Int) + 1 < (n : Int) := by omega
        have r2 : ((q : Int) + 1).toNat = q + 1 := by omega
        have hw1 : IntKind.i64.wrap ((q : Int) + 1 - 1) = (q : Int) := (IntWalk.i64_in _ (by omega)).trans (by omega)
        have hw2 : IntKind.i64.wrap (2 * x) = 2 * x := IntWalk.i64_in _ (by omega)
        have hw3 : IntKind.i64.wrap (2 * x - y) = 2 * x - y := IntWalk.i64_in _ (by omega)
        have hw4 : IntKind.i64.wrap (2 * x - y + p) = 2 * x - y + p := IntWalk.i64_in _ (by omega)
        have hwl2 : IntKind.i64.wrap ((q : Int) + 1) = (q : Int) + 1 := IntWalk.i64_in _ (by omega)
        go_wp2
        go_quiet (fail)
        obtain ⟨W1, hW1⟩ : ∃ x, x = wr.drewN nq := ⟨_, rfl⟩
        have HB1 : Hid (Below w.heap.size w W1) := Lib.hid (by rw [hW1]; exact HB.out.trans (below_draws _ _ _))
        have e11 : W1.cell? ⟨g, q, none⟩ = some (.int .i64 x) := by rw [hW1]; exact e1
        have e21 : W1.cell? ⟨g, q + 1, none⟩ = some (.int .i64 y) := by rw [hW1]; exact e2
        have c01 : W1.cell? ⟨lb, lo + k, none⟩ = some (.int .i64 l) := by rw [hW1]; exact c0
        have f11 : W1.frozen? ⟨g, q, none⟩ = false := by rw [hW1]; exact f1
        have f21 : W1.frozen? ⟨g, q + 1, none⟩ = false := by rw [hW1]; exact f2
        have S21 : Hid (Own w.heap.size ((W1.setCell ⟨g, q, none⟩ (.int .i64 ((2 * x - y) % p))).setCell ⟨g, q + 1, none⟩ (.int .i64 x)) (some ⟨g, 0, none⟩) n c1 (tintF p (ls.take (k + 1)) cs)) := Lib.hid (by rw [hW1]; exact S2.out)
        rw [← hW1]
        clear hW1 e1 e2 c0 f1 f2
        go_wp2
        go_quiet (fail)
        obtain ⟨W2, hW2⟩ : ∃ x, x = W1.drewN nq := ⟨_, rfl⟩
        have HB2 : Hid (Below w.heap.size w W2) := Lib.hid (by rw [hW2]; exact HB1.out.trans (below_draws _ _ _))
        have e12 : W2.cell? ⟨g, q, none⟩ = some (.int .i64 x) := by rw [hW2]; exact e11
        have e22 : W2.cell? ⟨g, q + 1, none⟩ = some (.int .i64 y) := by rw [hW2]; exact e21
        have c02 : W2.cell? ⟨lb, lo + k, none⟩ = some (.int .i64 l) := by rw [hW2]; exact c01
        have f12 : W2.frozen? ⟨g, q, none⟩ = false := by rw [hW2]; exact f11
        have f22 : W2.frozen? ⟨g, q + 1, none⟩ = false := by rw [hW2]; exact f21
        have S22 : Hid (Own w.heap.size ((W2.setCell ⟨g, q, none⟩ (.int .i64 ((2 * x - y) % p))).setCell ⟨g, q + 1, none⟩ (.int .i64 x)) (some ⟨g, 0, none⟩) n c1 (tintF p (ls.take (k + 1)) cs)) := Lib.hid (by rw [hW2]; exact S21.out)
        rw [← hW2]
        clear hW2 e11 e21 c01 f11 f21
        go_wp2
        go_roundw
        case rel => exact ⟨k + 1, by omega, by go_num, S22.out, (HB2.out.setCell (p := ⟨g, q, none⟩) hg1 _).setCell (p := ⟨g, q + 1, none⟩) hg1 _⟩
        case measure => simp [intOf]; omega
    · have hkm : k = m := by omega
      have HK := Lib.hid hkm; clear hkm
      go_wp2
      go_ret
      have h1 := HO.out
      rw [HK.out, ← HLN.out, List.take_length] at h1
      exact ⟨_, _, rfl, h1, HB.out⟩

end Go.Proofs.Ytelmdfkcclhhjaa
