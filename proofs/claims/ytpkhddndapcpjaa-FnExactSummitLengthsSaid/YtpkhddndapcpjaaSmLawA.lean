/- Copies and comparisons of simple braids. -/
import Derived.Test.YtpkhddndapcpjaaSmQA
namespace Go.Proofs.Ytpkhddndapcpjaa
open Go.RowKit Go.ChangeShapes

set_option maxRecDepth 100000 in
set_option maxHeartbeats 1000000 in
theorem toSimple_any (s : List Int) (ls : s.length = 8) (w : World) :
  Calls Try.prog 42 #[arr8 .u8 s] w (RetArr .u8 w s) := by
 have HE : Hid (mapR 8 (at8 s) = s) := Lib.hid (ext8 (mapR_len _ _ (by omega)) ls fun j hj => by rw [at8_mapR, if_pos hj])
 go_enter Try.func42, Try.ntmps42
 have RA := Lib.hid (((Row8.place w .u8 s 52 w.heap.size rfl ls).alloc (.cells #[.int .u8 0, .int .u8 0, .int .u8 0, .int .u8 0, .int .u8 0, .int .u8 0, .int .u8 0, .int .u8 0] 53)).alloc (.cells #[.int .u8 0, .int .u8 0, .int .u8 0, .int .u8 0, .int .u8 0, .int .u8 0, .int .u8 0, .int .u8 0] 53))
 have RZ := Lib.hid ((Row8.zeros (w.alloc (.cells #[.int .u8 (at8 s 0), .int .u8 (at8 s 1), .int .u8 (at8 s 2), .int .u8 (at8 s 3), .int .u8 (at8 s 4), .int .u8 (at8 s 5), .int .u8 (at8 s 6), .int .u8 (at8 s 7)] 52)) .u8 53 (w.heap.size + 1) (by simp)).alloc (.cells #[.int .u8 0, .int .u8 0, .int .u8 0, .int .u8 0, .int .u8 0, .int .u8 0, .int .u8 0, .int .u8 0] 53))
 have RO := Lib.hid (Row8.zeros ((w.alloc (.cells #[.int .u8 (at8 s 0), .int .u8 (at8 s 1), .int .u8 (at8 s 2), .int .u8 (at8 s 3), .int .u8 (at8 s 4), .int .u8 (at8 s 5), .int .u8 (at8 s 6), .int .u8 (at8 s 7)] 52)).alloc (.cells #[.int .u8 0, .int .u8 0, .int .u8 0, .int .u8 0, .int .u8 0, .int .u8 0, .int .u8 0, .int .u8 0] 53)) .u8 53 (w.heap.size + 1 + 1) (by simp))
 have BB := Lib.hid (below3 w (.cells #[.int .u8 (at8 s 0), .int .u8 (at8 s 1), .int .u8 (at8 s 2), .int .u8 (at8 s 3), .int .u8 (at8 s 4), .int .u8 (at8 s 5), .int .u8 (at8 s 6), .int .u8 (at8 s 7)] 52) (.cells #[.int .u8 0, .int .u8 0, .int .u8 0, .int .u8 0, .int .u8 0, .int .u8 0, .int .u8 0, .int .u8 0] 53) (.cells #[.int .u8 0, .int .u8 0, .int .u8 0, .int .u8 0, .int .u8 0, .int .u8 0, .int .u8 0, .int .u8 0] 53))
 have LS := Lib.hid ls
 clear ls
 go_wp2
 go_loopw [4] (fun i wr => ∃ k : Nat, k ≤ 8 ∧ i = .int .i64 k ∧ Row8 wr w.heap.size .u8 s ∧ Row8 wr (w.heap.size + 1) .u8 [0, 0, 0, 0, 0, 0, 0, 0] ∧ Row8 wr (w.heap.size + 1 + 1) .u8 (mapR k (at8 s)) ∧ Below w.heap.size w wr) (fun i _ => 8 - (intOf i).toNat)
 case atStart => exact ⟨0, Nat.zero_le _, rfl, RA.out, RZ.out, RO.out, BB.out⟩
 case round =>
  obtain ⟨k, hk, rfl, hRA, hRZ, hRO, hBB⟩ := hrel
  clear RA RZ RO BB
  have RA := Lib.hid hRA
  have RZ := Lib.hid hRZ
  have RO := Lib.hid hRO
  have BB := Lib.hid hBB
  clear hRA hRZ hRO hBB
  have HST := Lib.hid (mapR_step k (at8 s))
  by_cases hlt : k < 8
  ·have c1 := RA.out.cell k (by omega)
   have f2 := RO.out.free k (by omega)
   have c3 := RO.out.cell k (by omega)
   have z2 := RO.out.lt
   go_wp2
   go_round
   case rel =>
    refine ⟨k + 1, by omega, by go_num, RA.out.setCell (by first | (simp; done) | (simp; omega)) _, RZ.out.setCell (by first | (simp; done) | (simp; omega)) _, ?_, BB.out.setCell (by first | (simp; done) | (simp; omega)) _⟩
    rw [← HST.out (by omega)]
    exact RO.out.store k (by omega) (at8 s k)
   case measure => simp [intOf]; omega
  ·have hkn : k = 8 := by omega
   subst hkn
   obtain ⟨⟨c0, c1, c2, c3⟩, c4, c5, c6, c7⟩ := RO.out.all
   obtain ⟨⟨d0, d1, d2, d3⟩, d4, d5, d6, d7⟩ := RZ.out.all
   obtain ⟨⟨f0, f1, f2, f3⟩, f4, f5, f6, f7⟩ := RZ.out.frees
   have zq := RZ.out.lt
   go_wp2
   obtain ⟨⟨e0, e1, e2, e3⟩, e4, e5, e6, e7⟩ := (RZ.out.fill (mapR 8 (at8 s)) RO.out.len).all
   refine bodyPost_ret (v := arr8 .u8 (mapR 8 (at8 s))) (by simp [results, Try.results42, go_sem, e0, e1, e2, e3, e4, e5, e6, e7]) rfl ⟨by rw [HE.out], ?_⟩
   exact below_fill8 BB.out _ (by omega) _ _ _ _ _ _ _ _

set_option maxRecDepth 100000 in
set_option maxHeartbeats 1000000 in
theorem eqSimple_yes (s : List Int) (ls : s.length = 8) (w : World) :
  Calls Try.prog 54 #[arr8 .u8 s, arr8 .u8 s] w fun e w' => e = .returned (.bool true) ∧ Below w.heap.size w w' := by
 go_enter Try.func54, Try.ntmps54
 have RA := Lib.hid ((Row8.place w .u8 s 53 w.heap.size rfl ls).alloc (.cells #[.int .u8 (at8 s 0), .int .u8 (at8 s 1), .int .u8 (at8 s 2), .int .u8 (at8 s 3), .int .u8 (at8 s 4), .int .u8 (at8 s 5), .int .u8 (at8 s 6), .int .u8 (at8 s 7)] 53))
 have RB := Lib.hid (Row8.place (w.alloc (.cells #[.int .u8 (at8 s 0), .int .u8 (at8 s 1), .int .u8 (at8 s 2), .int .u8 (at8 s 3), .int .u8 (at8 s 4), .int .u8 (at8 s 5), .int .u8 (at8 s 6), .int .u8 (at8 s 7)] 53)) .u8 s 53 (w.heap.size + 1) (by simp) ls)
 have BB := Lib.hid (below2 w (.cells #[.int .u8 (at8 s 0), .int .u8 (at8 s 1), .int .u8 (at8 s 2), .int .u8 (at8 s 3), .int .u8 (at8 s 4), .int .u8 (at8 s 5), .int .u8 (at8 s 6), .int .u8 (at8 s 7)] 53) (.cells #[.int .u8 (at8 s 0), .int .u8 (at8 s 1), .int .u8 (at8 s 2), .int .u8 (at8 s 3), .int .u8 (at8 s 4), .int .u8 (at8 s 5), .int .u8 (at8 s 6), .int .u8 (at8 s 7)] 53))
 have LS := Lib.hid ls
 clear ls
 go_wp2
 go_loopw [5] (fun i wr => ∃ k : Nat, k ≤ 8 ∧ i = .int .i64 k ∧ Row8 wr w.heap.size .u8 s ∧ Row8 wr (w.heap.size + 1) .u8 s ∧ Below w.heap.size w wr) (fun i _ => 8 - (intOf i).toNat)
 case atStart => exact ⟨0, Nat.zero_le _, rfl, RA.out, RB.out, BB.out⟩
 case round =>
  obtain ⟨k, hk, rfl, hRA, hRB, hBB⟩ := hrel
  clear RA RB BB
  have RA := Lib.hid hRA
  have RB := Lib.hid hRB
  have BB := Lib.hid hBB
  clear hRA hRB hBB
  by_cases hlt : k < 8
  ·have c1 := RA.out.cell k (by omega)
   have c2 := RB.out.cell k (by omega)
   have z2 := RB.out.lt
   have t1 : (at8 s k != at8 s k) = false := by simp
   go_wp2
   go_quiet (fail)
   go_wp2
   go_roundw
   case rel =>
    have hb := below_draws wr.heap.size wr nq
    exact ⟨k + 1, by omega, by go_num, RA.out.below hb, RB.out.below hb, below_go BB.out hb BB.out.size⟩
   case measure => simp [intOf]; omega
  ·have hkn : k = 8 := by omega
   subst hkn
   go_wp2
   go_ret
   exact ⟨rfl, BB.out⟩

end Go.Proofs.Ytpkhddndapcpjaa

