/- Colours: the program's step. -/
import Derived.Test.YtelmdfkcclhhjaaColS
namespace Go.Proofs.Ytelmdfkcclhhjaa
open Go.RowKit Go.ChangeShapes

set_option maxRecDepth 100000 in
set_option maxHeartbeats 1000000 in
theorem coloured_any (s : Int) (la : Option Addr) (m lc : Nat) (ls : List Int) (p : Int) (a : Option Addr) (n cap : Nat) (cs : List Int) (w : World) (hr : Reads w la m ls) (hm : m ≤ 1048576) (hl : Lets ls n) (hr2 : Reads w a n cs) (hn : n ≤ 90) (hp : 0 < p) (hp2 : p ≤ 97) (hc : Cols p cs) :
    Calls Try.prog 84 #[.agg #[.int .i64 s, .slice la m lc], .int .i64 p, .slice a n cap] w (MadeInts w n (tintF p ls cs)) := by
  have HLN := Lib.hid hr.len
  have HCN := Lib.hid hr2.len
  have HR := Lib.hid hr; have HX := Lib.hid (hr2.alloc (.cells #[.int .i64 s, .slice la m lc] 28)); clear hr hr2
  have HL := Lib.hid hl; have HC := Lib.hid hc; clear hl hc
  have A := Lib.hid (At2.new w (.int .i64 s) (.slice la m lc) 28)
  have BB := Lib.hid (below1 w (.cells #[.int .i64 s, .slice la m lc] 28))
  go_enter Try.func84, Try.ntmps84
  go_wp2_with fail
  refine (cloneI_any _ _ _ cs _ HX.out (by omega)).mono ?_
  rintro e w1 ⟨a1, c1, rfl, ho, hb⟩
  have HO : Hid (Own w.heap.size w1 a1 n c1 cs) := Lib.hid (ho.mono (by simp))
  have HB := Lib.hid (below_go BB.out hb (by simp))
  replace A := Lib.hid (A.out.below hb); clear ho hb BB
  obtain ⟨qA1, qA2, qA3, qA4, qA5⟩ := A.out
  go_wp2
  clear qA1 qA2 qA3 qA4 qA5
  go_loopw [18] (fun i wr => ∃ k : Nat, k ≤ m ∧ i = .int .i64 k ∧ Own w.heap.size wr a1 n c1 (tintF p (ls.take k) cs) ∧ Below w.heap.size w wr) (fun i _ => m - (intOf i).toNat)
  case atStart => exact ⟨0, Nat.zero_le _, rfl, HO.out, HB.out⟩
  case round =>
    obtain ⟨k, hk, rfl, ho, hb⟩ := hrel
    clear HO HB
    have HO := Lib.hid ho; have HB := Lib.hid hb; clear ho hb
    by_cases hlt : k < m
    · have hkl : k < ls.length := by rw [HLN.out]; exact hlt
      obtain ⟨l, hle⟩ : ∃ l, l = ls.getD k 0 := ⟨_, rfl⟩
      have hlb := HL.out _ (getD_mem ls k hkl)
      have hst := tintF_step p ls cs k hkl
      have hcl := tintF_cols hp ls cs HC.out (by rw [HCN.out]; exact HL.out) k
      obtain ⟨d, hd⟩ : ∃ d, d = tintF p (ls.take k) cs := ⟨_, rfl⟩
      rw [← hle] at hlb hst
      rw [← hd] at hst hcl
      obtain ⟨lb, lo, rfl, hlbk, hlc⟩ := HR.out.cells (by omega)
      have c0 : wr.cell? ⟨lb, lo + k, none⟩ = some (.int .i64 l) := by rw [hle]; exact (HB.out.cell (p := ⟨lb, lo + k, none⟩) hlbk).trans (hlc k hlt)
      have OD := HO.out
      rw [← hd] at OD
      have hdl : d.length = n := OD.len
      have HST := Lib.hid hst; clear hst hle hd hlc HO
      obtain ⟨hl0, hl1, hl2⟩ := hlb
      obtain ⟨g, rfl, hg1, hg2⟩ := OD.block (by omega)
      have k0 : 0 ≤ (k : Int) := by omega
      have k1 : (k : Int) < (m : Int) := by omega
      have hp0 : ¬ p = 0 := by omega
      rcases Int.lt_or_gt_of_ne hl0 with hs | hs
      · obtain ⟨q, hq⟩ : ∃ q : Nat, -l = (q : Int) + 1 := ⟨(-l).toNat - 1, by omega⟩
        have hgen : genW l = (q : Int) + 1 + 1 ∧ genP l = (q : Int) + 1 := by unfold genW genP; rw [if_pos hs, if_pos hs]; omega
        have hti : tintL p l d = (d.set (q + 1) ((2 * d.getD (q + 1) 0 - d.getD q 0 + p).tmod p)).set (q) (d.getD (q + 1) 0) := by
          have h1 : (-l).toNat = q + 1 := by omega
          unfold tintL
          rw [if_pos hs, h1, Nat.add_sub_cancel]
        have hgv := fun W => generators_any l W (by omega) (by omega)
        rw [hgen.1, hgen.2] at hgv
        have HG := Lib.hid hgv; clear hgv hgen
        have e1 := OD.cellAt q (by omega)
        have e2 := OD.cellAt (q + 1) (by omega)
        have b1 := hcl.at q (by omega)
        have b2 := hcl.at (q + 1) (by omega)
        have f1 := OD.frozenAt q
        have f2 := OD.frozenAt (q + 1)
        have s1 := (OD.store (q + 1) ((2 * d.getD (q + 1) 0 - d.getD q 0 + p).tmod p)).1
        have s2 := (s1.store (q) (d.getD (q + 1) 0)).1
        obtain ⟨x, hx⟩ : ∃ x, x = d.getD q 0 := ⟨_, rfl⟩
        obtain ⟨y, hy⟩ : ∃ y, y = d.getD (q + 1) 0 := ⟨_, rfl⟩
        rw [← hx] at e1 b1
        rw [← hy] at e2 b2
        rw [← hti, ← HST.out, ← hy, ← hx] at s2
        obtain ⟨bx1, bx2⟩ := b1
        obtain ⟨by1, by2⟩ := b2
        have hre : (2 * y - x + p).tmod p = (2 * y - x) % p := by rw [Int.tmod_eq_emod_of_nonneg (by omega), Int.add_emod_right]
        rw [hre] at s2
        have S2 := Lib.hid s2; clear hre hti s1 s2 hx hy OD hcl
        have q0 : 0 ≤ (q : Int) := by omega
        have q1 : (q : Int) < (n : Int) := by omega
        have r0 : 0 ≤ (q : Int) + 1 := by omega
        have r1 : (q : Int) + 1 < (n : Int) := by omega
        have r2 : ((q : Int) + 1).toNat = q + 1 := by omega
        have hw1 : IntKind.i64.wrap ((q : Int) + 1 - 1) = (q : Int) := (IntWalk.i64_in _ (by omega)).trans (by omega)
        have hw0 : IntKind.i64.wrap ((q : Int) + 1 + 1 - 1) = (q : Int) + 1 := (IntWalk.i64_in _ (by omega)).trans (by omega)
        have hw2 : IntKind.i64.wrap (2 * y) = 2 * y := IntWalk.i64_in _ (by omega)
        have hw3 : IntKind.i64.wrap (2 * y - x) = 2 * y - x := IntWalk.i64_in _ (by omega)
        have hw4 : IntKind.i64.wrap (2 * y - x + p) = 2 * y - x + p := IntWalk.i64_in _ (by omega)
        have hwl2 : IntKind.i64.wrap ((q : Int) + 1) = (q : Int) + 1 := IntWalk.i64_in _ (by omega)
        clear hq
        go_wp2_with (go_at_call 106; refine (HG.out _).mono ?_; rintro e w' ⟨rfl, rfl⟩)
        go_quiet (fail)
        obtain ⟨W1, hW1⟩ : ∃ x, x = w'.drewN nq := ⟨_, rfl⟩
        have HB1 : Hid (Below w.heap.size w W1) := Lib.hid (by rw [hW1]; exact HB.out.trans (below_draws _ _ _))
        have e11 : W1.cell? ⟨g, q, none⟩ = some (.int .i64 x) := by rw [hW1]; exact e1
        have e21 : W1.cell? ⟨g, q + 1, none⟩ = some (.int .i64 y) := by rw [hW1]; exact e2
        have f11 : W1.frozen? ⟨g, q, none⟩ = false := by rw [hW1]; exact f1
        have f21 : W1.frozen? ⟨g, q + 1, none⟩ = false := by rw [hW1]; exact f2
        have S21 : Hid (Own w.heap.size ((W1.setCell ⟨g, q + 1, none⟩ (.int .i64 ((2 * y - x) % p))).setCell ⟨g, q, none⟩ (.int .i64 y)) (some ⟨g, 0, none⟩) n c1 (tintF p (ls.take (k + 1)) cs)) := Lib.hid (by rw [hW1]; exact S2.out)
        rw [← hW1]
        clear hW1 e1 e2 c0 f1 f2
        go_wp2
        go_roundw
        case rel => exact ⟨k + 1, by omega, by go_num, S21.out, (HB1.out.setCell (p := ⟨g, q + 1, none⟩) hg1 _).setCell (p := ⟨g, q, none⟩) hg1 _⟩
        case measure => simp [intOf]; omega
      · obtain ⟨q, hq⟩ : ∃ q : Nat, l = (q : Int) + 1 := ⟨(l).toNat - 1, by omega⟩
        have hgen : genW l = (q : Int) + 1 ∧ genP l = (q : Int) + 1 + 1 := by unfold genW genP; rw [if_neg (by omega), if_neg (by omega)]; omega
        have hti : tintL p l d = (d.set (q) ((2 * d.getD q 0 - d.getD (q + 1) 0 + p).tmod p)).set (q + 1) (d.getD q 0) := by
          have h1 : (l).toNat = q + 1 := by omega
          unfold tintL
          rw [if_neg (by omega), h1, Nat.add_sub_cancel]
        have hgv := fun W => generators_any l W (by omega) (by omega)
        rw [hgen.1, hgen.2] at hgv
        have HG := Lib.hid hgv; clear hgv hgen
        have e1 := OD.cellAt q (by omega)
        have e2 := OD.cellAt (q + 1) (by omega)
        have b1 := hcl.at q (by omega)
        have b2 := hcl.at (q + 1) (by omega)
        have f1 := OD.frozenAt q
        have f2 := OD.frozenAt (q + 1)
        have s1 := (OD.store (q) ((2 * d.getD q 0 - d.getD (q + 1) 0 + p).tmod p)).1
        have s2 := (s1.store (q + 1) (d.getD q 0)).1
        obtain ⟨x, hx⟩ : ∃ x, x = d.getD q 0 := ⟨_, rfl⟩
        obtain ⟨y, hy⟩ : ∃ y, y = d.getD (q + 1) 0 := ⟨_, rfl⟩
        rw [← hx] at e1 b1
        rw [← hy] at e2 b2
        rw [← hti, ← HST.out, ← hx, ← hy] at s2
        obtain ⟨bx1, bx2⟩ := b1
        obtain ⟨by1, by2⟩ := b2
        have hre : (2 * x - y + p).tmod p = (2 * x - y) % p := by rw [Int.tmod_eq_emod_of_nonneg (by omega), Int.add_emod_right]
        rw [hre] at s2
        have S2 := Lib.hid s2; clear hre hti s1 s2 hx hy OD hcl
        have q0 : 0 ≤ (q : Int) := by omega
        have q1 : (q : Int) < (n : Int) := by omega
        have r0 : 0 ≤ (q : Int) + 1 := by omega
        have r1 : (q : Int) + 1 < (n : Int) := by omega
        have r2 : ((q : Int) + 1).toNat = q + 1 := by omega
        have hw1 : IntKind.i64.wrap ((q : Int) + 1 - 1) = (q : Int) := (IntWalk.i64_in _ (by omega)).trans (by omega)
        have hw0 : IntKind.i64.wrap ((q : Int) + 1 + 1 - 1) = (q : Int) + 1 := (IntWalk.i64_in _ (by omega)).trans (by omega)
        have hw2 : IntKind.i64.wrap (2 * x) = 2 * x := IntWalk.i64_in _ (by omega)
        have hw3 : IntKind.i64.wrap (2 * x - y) = 2 * x - y := IntWalk.i64_in _ (by omega)
        have hw4 : IntKind.i64.wrap (2 * x - y + p) = 2 * x - y + p := IntWalk.i64_in _ (by omega)
        have hwl2 : IntKind.i64.wrap ((q : Int) + 1) = (q : Int) + 1 := IntWalk.i64_in _ (by omega)
        clear hq
        go_wp2_with (go_at_call 106; refine (HG.out _).mono ?_; rintro e w' ⟨rfl, rfl⟩)
        go_quiet (fail)
        obtain ⟨W1, hW1⟩ : ∃ x, x = w'.drewN nq := ⟨_, rfl⟩
        have HB1 : Hid (Below w.heap.size w W1) := Lib.hid (by rw [hW1]; exact HB.out.trans (below_draws _ _ _))
        have e11 : W1.cell? ⟨g, q, none⟩ = some (.int .i64 x) := by rw [hW1]; exact e1
        have e21 : W1.cell? ⟨g, q + 1, none⟩ = some (.int .i64 y) := by rw [hW1]; exact e2
        have f11 : W1.frozen? ⟨g, q, none⟩ = false := by rw [hW1]; exact f1
        have f21 : W1.frozen? ⟨g, q + 1, none⟩ = false := by rw [hW1]; exact f2
        have S21 : Hid (Own w.heap.size ((W1.setCell ⟨g, q, none⟩ (.int .i64 ((2 * x - y) % p))).setCell ⟨g, q + 1, none⟩ (.int .i64 x)) (some ⟨g, 0, none⟩) n c1 (tintF p (ls.take (k + 1)) cs)) := Lib.hid (by rw [hW1]; exact S2.out)
        rw [← hW1]
        clear hW1 e1 e2 c0 f1 f2
        go_wp2
        go_roundw
        case rel => exact ⟨k + 1, by omega, by go_num, S21.out, (HB1.out.setCell (p := ⟨g, q, none⟩) hg1 _).setCell (p := ⟨g, q + 1, none⟩) hg1 _⟩
        case measure => simp [intOf]; omega
    · have hkm : k = m := by omega
      have HK := Lib.hid hkm; clear hkm
      go_wp2
      go_ret
      have h1 := HO.out
      rw [HK.out, ← HLN.out, List.take_length] at h1
      exact ⟨_, _, rfl, h1, HB.out⟩

end Go.Proofs.Ytelmdfkcclhhjaa
