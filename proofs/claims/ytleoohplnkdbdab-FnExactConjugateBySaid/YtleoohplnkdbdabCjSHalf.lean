/- The model: the half turn and nothing. -/
import Derived.Test.YtleoohplnkdbdabCjQA
namespace Go.Proofs.Ytleoohplnkdbdab
open Go.RowKit Go.ChangeShapes

set_option maxRecDepth 100000 in
set_option maxHeartbeats 1000000 in
theorem l02Half_any (n : Nat) (h8 : n ≤ 8) (w : World) :
  Calls Try.prog 88 #[.int .i64 n] w (RetArr .u8 w (halfR n)) := by
 go_enter Try.func88, Try.ntmps88
 have RZ := Lib.hid ((Row8.zeros w .u8 54 w.heap.size rfl).alloc (.cells #[.int .u8 0, .int .u8 0, .int .u8 0, .int .u8 0, .int .u8 0, .int .u8 0, .int .u8 0, .int .u8 0] 54))
 have RO := Lib.hid (Row8.zeros (w.alloc (.cells #[.int .u8 0, .int .u8 0, .int .u8 0, .int .u8 0, .int .u8 0, .int .u8 0, .int .u8 0, .int .u8 0] 54)) .u8 54 (w.heap.size + 1) (by simp))
 have BB := Lib.hid (below2 w (.cells #[.int .u8 0, .int .u8 0, .int .u8 0, .int .u8 0, .int .u8 0, .int .u8 0, .int .u8 0, .int .u8 0] 54) (.cells #[.int .u8 0, .int .u8 0, .int .u8 0, .int .u8 0, .int .u8 0, .int .u8 0, .int .u8 0, .int .u8 0] 54))
 go_wp2
 go_loopw [4] (fun i wr => ∃ k : Nat, k ≤ n ∧ i = .int .i64 k ∧ Row8 wr w.heap.size .u8 [0, 0, 0, 0, 0, 0, 0, 0] ∧ Row8 wr (w.heap.size + 1) .u8 (mapR k fun x => (n : Int) - 1 - x) ∧ Below w.heap.size w wr) (fun i _ => n - (intOf i).toNat)
 case atStart => exact ⟨0, Nat.zero_le _, rfl, RZ.out, RO.out, BB.out⟩
 case round =>
  obtain ⟨k, hk, rfl, hRZ, hRO, hBB⟩ := hrel
  clear RZ RO BB
  have RZ := Lib.hid hRZ
  have RO := Lib.hid hRO
  have BB := Lib.hid hBB
  clear hRZ hRO hBB
  have HST := Lib.hid (mapR_step k (fun x => (n : Int) - 1 - x))
  by_cases hlt : k < n
  ·have f2 := RO.out.free k (by omega)
   have c3 := RO.out.cell k (by omega)
   have z2 := RO.out.lt
   have b1 : (0 : Int) ≤ (n : Int) - 1 - k := by omega
   have b2 : (n : Int) - 1 - k < 8 := by omega
   go_wp2
   go_round
   case rel =>
    refine ⟨k + 1, by omega, by go_num, RZ.out.setCell (by first | (simp; done) | (simp; omega)) _, ?_, BB.out.setCell (by first | (simp; done) | (simp; omega)) _⟩
    rw [← HST.out (by omega)]
    exact RO.out.store k (by omega) ((n : Int) - 1 - k)
   case measure => simp [intOf]; omega
  ·have hkn : k = n := by omega
   subst hkn
   obtain ⟨⟨c0, c1, c2, c3⟩, c4, c5, c6, c7⟩ := RO.out.all
   obtain ⟨⟨d0, d1, d2, d3⟩, d4, d5, d6, d7⟩ := RZ.out.all
   obtain ⟨⟨f0, f1, f2, f3⟩, f4, f5, f6, f7⟩ := RZ.out.frees
   have zq := RZ.out.lt
   go_wp2
   obtain ⟨⟨e0, e1, e2, e3⟩, e4, e5, e6, e7⟩ := (RZ.out.fill (mapR k fun x => (k : Int) - 1 - x) RO.out.len).all
   refine bodyPost_ret (v := arr8 .u8 (mapR k fun x => (k : Int) - 1 - x)) (by simp [results, Try.results88, go_sem, e0, e1, e2, e3, e4, e5, e6, e7]) rfl ⟨rfl, ?_⟩
   exact below_fill8 BB.out _ (by omega) _ _ _ _ _ _ _ _

set_option maxRecDepth 100000 in
set_option maxHeartbeats 1000000 in
theorem l02Same_any (n : Nat) (h8 : n ≤ 8) (w : World) :
  Calls Try.prog 87 #[.int .i64 n] w (RetArr .u8 w (sameR n)) := by
 go_enter Try.func87, Try.ntmps87
 have RZ := Lib.hid ((Row8.zeros w .u8 54 w.heap.size rfl).alloc (.cells #[.int .u8 0, .int .u8 0, .int .u8 0, .int .u8 0, .int .u8 0, .int .u8 0, .int .u8 0, .int .u8 0] 54))
 have RO := Lib.hid (Row8.zeros (w.alloc (.cells #[.int .u8 0, .int .u8 0, .int .u8 0, .int .u8 0, .int .u8 0, .int .u8 0, .int .u8 0, .int .u8 0] 54)) .u8 54 (w.heap.size + 1) (by simp))
 have BB := Lib.hid (below2 w (.cells #[.int .u8 0, .int .u8 0, .int .u8 0, .int .u8 0, .int .u8 0, .int .u8 0, .int .u8 0, .int .u8 0] 54) (.cells #[.int .u8 0, .int .u8 0, .int .u8 0, .int .u8 0, .int .u8 0, .int .u8 0, .int .u8 0, .int .u8 0] 54))
 go_wp2
 go_loopw [4] (fun i wr => ∃ k : Nat, k ≤ n ∧ i = .int .i64 k ∧ Row8 wr w.heap.size .u8 [0, 0, 0, 0, 0, 0, 0, 0] ∧ Row8 wr (w.heap.size + 1) .u8 (mapR k fun x => (x : Int)) ∧ Below w.heap.size w wr) (fun i _ => n - (intOf i).toNat)
 case atStart => exact ⟨0, Nat.zero_le _, rfl, RZ.out, RO.out, BB.out⟩
 case round =>
  obtain ⟨k, hk, rfl, hRZ, hRO, hBB⟩ := hrel
  clear RZ RO BB
  have RZ := Lib.hid hRZ
  have RO := Lib.hid hRO
  have BB := Lib.hid hBB
  clear hRZ hRO hBB
  have HST := Lib.hid (mapR_step k (fun x => (x : Int)))
  by_cases hlt : k < n
  ·have f2 := RO.out.free k (by omega)
   have c3 := RO.out.cell k (by omega)
   have z2 := RO.out.lt
   go_wp2
   go_round
   case rel =>
    refine ⟨k + 1, by omega, by go_num, RZ.out.setCell (by first | (simp; done) | (simp; omega)) _, ?_, BB.out.setCell (by first | (simp; done) | (simp; omega)) _⟩
    rw [← HST.out (by omega)]
    exact RO.out.store k (by omega) (k : Int)
   case measure => simp [intOf]; omega
  ·have hkn : k = n := by omega
   subst hkn
   obtain ⟨⟨c0, c1, c2, c3⟩, c4, c5, c6, c7⟩ := RO.out.all
   obtain ⟨⟨d0, d1, d2, d3⟩, d4, d5, d6, d7⟩ := RZ.out.all
   obtain ⟨⟨f0, f1, f2, f3⟩, f4, f5, f6, f7⟩ := RZ.out.frees
   have zq := RZ.out.lt
   go_wp2
   obtain ⟨⟨e0, e1, e2, e3⟩, e4, e5, e6, e7⟩ := (RZ.out.fill (mapR k fun x => (x : Int)) RO.out.len).all
   refine bodyPost_ret (v := arr8 .u8 (mapR k fun x => (x : Int))) (by simp [results, Try.results87, go_sem, e0, e1, e2, e3, e4, e5, e6, e7]) rfl ⟨rfl, ?_⟩
   exact below_fill8 BB.out _ (by omega) _ _ _ _ _ _ _ _

end Go.Proofs.Ytleoohplnkdbdab

