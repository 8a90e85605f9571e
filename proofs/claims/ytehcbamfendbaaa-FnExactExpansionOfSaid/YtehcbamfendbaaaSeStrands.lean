/- The model's strands behind a word. -/
import Derived.Test.YtehcbamfendbaaaSeOrder
import Derived.Deep.RegionHeld3
namespace Go.Proofs.Ytehcbamfendbaaa
open Go.RowKit Go.ChangeShapes

/-- Letters of words with n strands. -/
def Letts (n : Nat) (xs : List Int) : Prop := ∀ x ∈ xs, x ≠ 0 ∧ -(n : Int) < x ∧ x < n

set_option maxHeartbeats 4000000 in
theorem l01Strands_any (s : Nat) (hs : s ≤ 8) (a : Option Addr) (n cap : Nat) (xs : List Int) (w : World) (hr : Reads w a n xs) (hx : Letts s xs) (hn : n ≤ 1048576) :
  Calls Try.prog 102 #[.int .i64 s, .slice a n cap] w fun e w' => e = .returned (arr8 .u8 (run8 (startM s) xs)) ∧ Below w.heap.size w w' := by
 have HL := Lib.hid hr.len
 have HX := Lib.hid hx; clear hx
 have HR := Lib.hid hr; clear hr
 go_enter Try.func102, Try.ntmps102
 have R0 := Lib.hid ((Row8.zeros w .u8 60 w.heap.size rfl).alloc (.cells #[.int .u8 0, .int .u8 0, .int .u8 0, .int .u8 0, .int .u8 0, .int .u8 0, .int .u8 0, .int .u8 0] 60))
 have R1 := Lib.hid (Row8.zeros (w.alloc (.cells #[.int .u8 0, .int .u8 0, .int .u8 0, .int .u8 0, .int .u8 0, .int .u8 0, .int .u8 0, .int .u8 0] 60)) .u8 60 (w.heap.size + 1) (by simp))
 have BB := Lib.hid (below2 w (.cells #[.int .u8 0, .int .u8 0, .int .u8 0, .int .u8 0, .int .u8 0, .int .u8 0, .int .u8 0, .int .u8 0] 60) (.cells #[.int .u8 0, .int .u8 0, .int .u8 0, .int .u8 0, .int .u8 0, .int .u8 0, .int .u8 0, .int .u8 0] 60))
 go_wp2
 go_loopw [6] (fun i wr => ∃ k : Nat, k ≤ s ∧ i = .int .i64 k ∧ Row8 wr w.heap.size .u8 [0, 0, 0, 0, 0, 0, 0, 0] ∧ Row8 wr (w.heap.size + 1) .u8 (upto k) ∧ Below w.heap.size w wr) (fun i _ => s - (intOf i).toNat)
 case atStart => exact ⟨0, Nat.zero_le _, rfl, R0.out, R1.out, BB.out⟩
 case round =>
  obtain ⟨k, hk, rfl, r0, r1, bb⟩ := hrel
  clear R0 R1 BB
  have R0 := Lib.hid r0
  have R1 := Lib.hid r1
  have BB := Lib.hid bb
  clear r0 r1 bb
  by_cases hlt : k < s
  ·have f1 := R1.out.free k (by omega)
   have c1 := R1.out.cell k (by omega)
   have z1 := R1.out.lt
   go_wp2
   go_round
   case rel =>
    refine ⟨k + 1, by omega, by go_num, R0.out.setCell (by simp) _, ?_, BB.out.setCell (by simp) _⟩
    rw [← upto_step k (by omega)]
    have st := R1.out.store k (by omega) k
    exact st
   case measure => simp [intOf]; omega
  ·have hkn : k = s := by omega
   subst hkn
   go_wp2
   go_loopw [7] (fun i wr => ∃ j : Nat, j ≤ n ∧ i = .int .i64 j ∧ Row8 wr w.heap.size .u8 [0, 0, 0, 0, 0, 0, 0, 0] ∧ Row8 wr (w.heap.size + 1) .u8 (run8 (startM k) (xs.take j)) ∧ Below w.heap.size w wr) (fun i _ => n - (intOf i).toNat)
   case atStart => exact ⟨0, Nat.zero_le _, rfl, R0.out, R1.out, BB.out⟩
   case round =>
    obtain ⟨j, hj, rfl, r0, r1, bb⟩ := hrel
    clear R0 R1 BB
    have R0 := Lib.hid r0
    have R1 := Lib.hid r1
    have BB := Lib.hid bb
    clear r0 r1 bb
    by_cases hlt2 : j < n
    ·obtain ⟨b, off, rfl, hb, hc⟩ := HR.out.cells (by omega)
     have h1 := (BB.out.cell (p := ⟨b, off + j, none⟩) hb).trans (hc j hlt2)
     have hst := run8_step (startM k) xs j (by rw [HL.out]; exact hlt2)
     obtain ⟨x0, x1, x2⟩ := HX.out _ (getD_mem xs j (by rw [HL.out]; exact hlt2))
     obtain ⟨x, hx⟩ : ∃ x, x = xs.getD j 0 := ⟨_, rfl⟩
     rw [← hx] at h1 hst x0 x1 x2
     clear hx hc
     obtain ⟨i1, i2, i3⟩ := idx_bounds k x x0 x1 x2
     obtain ⟨m, hm⟩ : ∃ m, m = idxN x := ⟨_, rfl⟩
     rw [← hm] at hst i1 i2 i3
     have HM := Lib.hid hm
     have HST := Lib.hid hst
     clear hm hst
     obtain ⟨l, hl⟩ : ∃ l, l = run8 (startM k) (xs.take j) := ⟨_, rfl⟩
     rw [← hl] at R1 HST
     clear hl
     obtain ⟨q, rfl⟩ : ∃ q, m = q + 1 := ⟨m - 1, by omega⟩
     have hmax : (if x < -x then -x else x) = (q : Int) + 1 := by split <;> omega
     have HMAX := Lib.hid hmax
     clear hmax i1 i3
     go_wp2
     go_quiet (fail)
     have hb1 := below_draws wr.heap.size wr nq
     obtain ⟨wq, hwq⟩ : ∃ wq, wq = wr.drewN nq := ⟨_, rfl⟩
     rw [← hwq] at hb1 ⊢
     rw [HMAX.out]
     clear hwq h1
     replace BB := Lib.hid (below_go BB.out hb1 (Nat.le_trans (Nat.le_of_lt R0.out.lt) (Nat.le_refl _)))
     replace R0 := Lib.hid (R0.out.below hb1)
     replace R1 := Lib.hid (R1.out.below hb1)
     clear hb1
     have f1 := R1.out.free (q + 1) (by omega)
     have f2 := R1.out.free q (by omega)
     have c1 := R1.out.cell (q + 1) (by omega)
     have c2 := R1.out.cell q (by omega)
     have z1 := R1.out.lt
     go_wp2
     go_round
     case rel =>
      refine ⟨j + 1, by omega, by go_num, (R0.out.setCell (by simp) _).setCell (by simp) _, ?_, (BB.out.setCell (by simp) _).setCell (by simp) _⟩
      rw [HST.out]
      exact (R1.out.store (q + 1) (by omega) (at8 l q)).store q (by omega) (at8 l (q + 1))
     case measure => simp [intOf]; omega
    ·have hjn : j = n := by omega
     have HK := Lib.hid hjn; clear hjn
     obtain ⟨⟨c0, c1, c2, c3⟩, c4, c5, c6, c7⟩ := R1.out.all
     obtain ⟨⟨d0, d1, d2, d3⟩, d4, d5, d6, d7⟩ := R0.out.all
     obtain ⟨⟨f0, f1, f2, f3⟩, f4, f5, f6, f7⟩ := R0.out.frees
     have z1 := R0.out.lt
     go_wp2
     obtain ⟨⟨e0, e1, e2, e3⟩, e4, e5, e6, e7⟩ := (R0.out.fill (run8 (startM k) (xs.take j)) R1.out.len).all
     have hu : xs.take j = xs := List.take_of_length_le (by rw [HL.out, HK.out]; exact Nat.le_refl _)
     refine bodyPost_ret (v := arr8 .u8 (run8 (startM k) (xs.take j))) (by simp [results, Try.results102, go_sem, e0, e1, e2, e3, e4, e5, e6, e7]) rfl ⟨by rw [hu], ?_⟩
     exact below_fill8 BB.out _ (Nat.le_refl _) _ _ _ _ _ _ _ _

end Go.Proofs.Ytehcbamfendbaaa

