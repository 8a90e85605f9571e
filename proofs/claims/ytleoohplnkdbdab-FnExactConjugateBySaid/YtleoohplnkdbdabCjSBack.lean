/- The model: the way back. -/
import Derived.Test.YtleoohplnkdbdabCjQA
namespace Go.Proofs.Ytleoohplnkdbdab
open Go.RowKit Go.ChangeShapes

set_option maxRecDepth 100000 in
set_option maxHeartbeats 1000000 in
theorem l02Back_any (n : Nat) (s : List Int) (hs : Sim n s) (w : World) :
  Calls Try.prog 33 #[arr8 .u8 s, .int .i64 n] w (RetArr .u8 w (backR n s)) := by
 have h8 := hs.hi
 have ls := hs.len
 have HS := Lib.hid hs
 clear hs
 go_enter Try.func33, Try.ntmps33
 have RA := Lib.hid (((Row8.place w .u8 s 54 w.heap.size rfl ls).alloc (.cells #[.int .u8 0, .int .u8 0, .int .u8 0, .int .u8 0, .int .u8 0, .int .u8 0, .int .u8 0, .int .u8 0] 54)).alloc (.cells #[.int .u8 0, .int .u8 0, .int .u8 0, .int .u8 0, .int .u8 0, .int .u8 0, .int .u8 0, .int .u8 0] 54))
 have RZ := Lib.hid ((Row8.zeros (w.alloc (.cells #[.int .u8 (at8 s 0), .int .u8 (at8 s 1), .int .u8 (at8 s 2), .int .u8 (at8 s 3), .int .u8 (at8 s 4), .int .u8 (at8 s 5), .int .u8 (at8 s 6), .int .u8 (at8 s 7)] 54)) .u8 54 (w.heap.size + 1) (by simp)).alloc (.cells #[.int .u8 0, .int .u8 0, .int .u8 0, .int .u8 0, .int .u8 0, .int .u8 0, .int .u8 0, .int .u8 0] 54))
 have RO := Lib.hid (Row8.zeros ((w.alloc (.cells #[.int .u8 (at8 s 0), .int .u8 (at8 s 1), .int .u8 (at8 s 2), .int .u8 (at8 s 3), .int .u8 (at8 s 4), .int .u8 (at8 s 5), .int .u8 (at8 s 6), .int .u8 (at8 s 7)] 54)).alloc (.cells #[.int .u8 0, .int .u8 0, .int .u8 0, .int .u8 0, .int .u8 0, .int .u8 0, .int .u8 0, .int .u8 0] 54)) .u8 54 (w.heap.size + 1 + 1) (by simp))
 have BB := Lib.hid (below3 w (.cells #[.int .u8 (at8 s 0), .int .u8 (at8 s 1), .int .u8 (at8 s 2), .int .u8 (at8 s 3), .int .u8 (at8 s 4), .int .u8 (at8 s 5), .int .u8 (at8 s 6), .int .u8 (at8 s 7)] 54) (.cells #[.int .u8 0, .int .u8 0, .int .u8 0, .int .u8 0, .int .u8 0, .int .u8 0, .int .u8 0, .int .u8 0] 54) (.cells #[.int .u8 0, .int .u8 0, .int .u8 0, .int .u8 0, .int .u8 0, .int .u8 0, .int .u8 0, .int .u8 0] 54))
 have LS := Lib.hid ls
 clear ls
 go_wp2
 go_loopw [6] (fun i wr => ∃ k : Nat, k ≤ n ∧ i = .int .i64 k ∧ Row8 wr w.heap.size .u8 s ∧ Row8 wr (w.heap.size + 1) .u8 [0, 0, 0, 0, 0, 0, 0, 0] ∧ Row8 wr (w.heap.size + 1 + 1) .u8 (ends 8 s k) ∧ Below w.heap.size w wr) (fun i _ => n - (intOf i).toNat)
 case atStart => exact ⟨0, Nat.zero_le _, rfl, RA.out, RZ.out, RO.out, BB.out⟩
 case round =>
  obtain ⟨k, hk, rfl, hRA, hRZ, hRO, hBB⟩ := hrel
  clear RA RZ RO BB
  have RA := Lib.hid hRA
  have RZ := Lib.hid hRZ
  have RO := Lib.hid hRO
  have BB := Lib.hid hBB
  clear hRA hRZ hRO hBB
  by_cases hlt : k < n
  ·obtain ⟨o1, o2⟩ := HS.out.bd k hlt
   have st := ends_step 8 s k
   obtain ⟨v, hv⟩ : ∃ v : Nat, at8 s k = (v : Int) := ⟨(at8 s k).toNat, by omega⟩
   have c1 := RA.out.cell k (by omega)
   rw [hv] at c1 o1 o2 st
   rw [Int.toNat_natCast] at st
   have HST := Lib.hid st
   clear hv st
   have f2 := RO.out.free v (by omega)
   have c3 := RO.out.cell v (by omega)
   have z2 := RO.out.lt
   go_wp2
   go_round
   case rel =>
    refine ⟨k + 1, by omega, by go_num, RA.out.setCell (by first | (simp; done) | (simp; omega)) _, RZ.out.setCell (by first | (simp; done) | (simp; omega)) _, ?_, BB.out.setCell (by first | (simp; done) | (simp; omega)) _⟩
    rw [HST.out]
    exact RO.out.store v (by omega) k
   case measure => simp [intOf]; omega
  ·have hkn : k = n := by omega
   subst hkn
   obtain ⟨⟨c0, c1, c2, c3⟩, c4, c5, c6, c7⟩ := RO.out.all
   obtain ⟨⟨d0, d1, d2, d3⟩, d4, d5, d6, d7⟩ := RZ.out.all
   obtain ⟨⟨f0, f1, f2, f3⟩, f4, f5, f6, f7⟩ := RZ.out.frees
   have zq := RZ.out.lt
   go_wp2
   obtain ⟨⟨e0, e1, e2, e3⟩, e4, e5, e6, e7⟩ := (RZ.out.fill (ends 8 s k) RO.out.len).all
   refine bodyPost_ret (v := arr8 .u8 (ends 8 s k)) (by simp [results, Try.results33, go_sem, e0, e1, e2, e3, e4, e5, e6, e7]) rfl ⟨by rw [ends_back HS.out], ?_⟩
   exact below_fill8 BB.out _ (by omega) _ _ _ _ _ _ _ _

end Go.Proofs.Ytleoohplnkdbdab

