/- Merged texts. -/
import Derived.Test.YtpkhddndapcpjaaSmQA
import Derived.Test.YtpkhddndapcpjaaSmIRows
import Derived.Deep.RegionHeld3

/- The model: the way back. -/
namespace Go.Proofs.Ytpkhddndapcpjaa
open Go.RowKit Go.ChangeShapes

set_option maxRecDepth 100000 in
set_option maxHeartbeats 1000000 in
theorem l02Back_any (n : Nat) (s : List Int) (hs : Sim n s) (w : World) :
  Calls Try.prog 58 #[arr8 .u8 s, .int .i64 n] w (RetArr .u8 w (backR n s)) := by
 have h8 := hs.hi
 have ls := hs.len
 have HS := Lib.hid hs
 clear hs
 go_enter Try.func58, Try.ntmps58
 have RA := Lib.hid (((Row8.place w .u8 s 53 w.heap.size rfl ls).alloc (.cells #[.int .u8 0, .int .u8 0, .int .u8 0, .int .u8 0, .int .u8 0, .int .u8 0, .int .u8 0, .int .u8 0] 53)).alloc (.cells #[.int .u8 0, .int .u8 0, .int .u8 0, .int .u8 0, .int .u8 0, .int .u8 0, .int .u8 0, .int .u8 0] 53))
 have RZ := Lib.hid ((Row8.zeros (w.alloc (.cells #[.int .u8 (at8 s 0), .int .u8 (at8 s 1), .int .u8 (at8 s 2), .int .u8 (at8 s 3), .int .u8 (at8 s 4), .int .u8 (at8 s 5), .int .u8 (at8 s 6), .int .u8 (at8 s 7)] 53)) .u8 53 (w.heap.size + 1) (by simp)).alloc (.cells #[.int .u8 0, .int .u8 0, .int .u8 0, .int .u8 0, .int .u8 0, .int .u8 0, .int .u8 0, .int .u8 0] 53))
 have RO := Lib.hid (Row8.zeros ((w.alloc (.cells #[.int .u8 (at8 s 0), .int .u8 (at8 s 1), .int .u8 (at8 s 2), .int .u8 (at8 s 3), .int .u8 (at8 s 4), .int .u8 (at8 s 5), .int .u8 (at8 s 6), .int .u8 (at8 s 7)] 53)).alloc (.cells #[.int .u8 0, .int .u8 0, .int .u8 0, .int .u8 0, .int .u8 0, .int .u8 0, .int .u8 0, .int .u8 0] 53)) .u8 53 (w.heap.size + 1 + 1) (by simp))
 have BB := Lib.hid (below3 w (.cells #[.int .u8 (at8 s 0), .int .u8 (at8 s 1), .int .u8 (at8 s 2), .int .u8 (at8 s 3), .int .u8 (at8 s 4), .int .u8 (at8 s 5), .int .u8 (at8 s 6), .int .u8 (at8 s 7)] 53) (.cells #[.int .u8 0, .int .u8 0, .int .u8 0, .int .u8 0, .int .u8 0, .int .u8 0, .int .u8 0, .int .u8 0] 53) (.cells #[.int .u8 0, .int .u8 0, .int .u8 0, .int .u8 0, .int .u8 0, .int .u8 0, .int .u8 0, .int .u8 0] 53))
 have LS := Lib.hid ls
 clear ls
 go_wp2
 go_loopw [6] (fun i wr => ∃ k : Nat, k ≤ n ∧ i = .int .i64 k ∧ Row8 wr w.heap.size .u8 s ∧ Row8 wr (w.heap.size + 1) .u8 [0, 0, 0, 0, 0, 0, 0, 0] ∧ Row8 wr (w.heap.size + 1 + 1) .u8 (ends 8 s k) ∧ Below w.heap.size w wr) (fun i _ => n - (intOf i).toNat)
 case atStart => exact ⟨0, Nat.zero_le _, rfl, RA.out, RZ.out, RO.out, BB.out⟩
 case round =>
  obtain ⟨k, hk, rfl, hRA, hRZ, hRO, hBB⟩ := hrel
  clear RA RZ RO BB
  have RA := Lib.hid hRA
  have RZ := Lib.hid hRZ
  have RO := Lib.hid hRO
  have BB := Lib.hid hBB
  clear hRA hRZ hRO hBB
  by_cases hlt : k < n
  ·obtain ⟨o1, o2⟩ := HS.out.bd k hlt
   have st := ends_step 8 s k
   obtain ⟨v, hv⟩ : ∃ v : Nat, at8 s k = (v : Int) := ⟨(at8 s k).toNat, by omega⟩
   have c1 := RA.out.cell k (by omega)
   rw [hv] at c1 o1 o2 st
   rw [Int.toNat_natCast] at st
   have HST := Lib.hid st
   clear hv st
   have f2 := RO.out.free v (by omega)
   have c3 := RO.out.cell v (by omega)
   have z2 := RO.out.lt
   go_wp2
   go_round
   case rel =>
    refine ⟨k + 1, by omega, by go_num, RA.out.setCell (by first | (simp; done) | (simp; omega)) _, RZ.out.setCell (by first | (simp; done) | (simp; omega)) _, ?_, BB.out.setCell (by first | (simp; done) | (simp; omega)) _⟩
    rw [HST.out]
    exact RO.out.store v (by omega) k
   case measure => simp [intOf]; omega
  ·have hkn : k = n := by omega
   subst hkn
   obtain ⟨⟨c0, c1, c2, c3⟩, c4, c5, c6, c7⟩ := RO.out.all
   obtain ⟨⟨d0, d1, d2, d3⟩, d4, d5, d6, d7⟩ := RZ.out.all
   obtain ⟨⟨f0, f1, f2, f3⟩, f4, f5, f6, f7⟩ := RZ.out.frees
   have zq := RZ.out.lt
   go_wp2
   obtain ⟨⟨e0, e1, e2, e3⟩, e4, e5, e6, e7⟩ := (RZ.out.fill (ends 8 s k) RO.out.len).all
   refine bodyPost_ret (v := arr8 .u8 (ends 8 s k)) (by simp [results, Try.results58, go_sem, e0, e1, e2, e3, e4, e5, e6, e7]) rfl ⟨by rw [ends_back HS.out], ?_⟩
   exact below_fill8 BB.out _ (by omega) _ _ _ _ _ _ _ _

end Go.Proofs.Ytpkhddndapcpjaa

/- The model: the half turn and nothing. -/
namespace Go.Proofs.Ytpkhddndapcpjaa
open Go.RowKit Go.ChangeShapes

set_option maxRecDepth 100000 in
set_option maxHeartbeats 1000000 in
theorem l02Half_any (n : Nat) (h8 : n ≤ 8) (w : World) :
  Calls Try.prog 37 #[.int .i64 n] w (RetArr .u8 w (halfR n)) := by
 go_enter Try.func37, Try.ntmps37
 have RZ := Lib.hid ((Row8.zeros w .u8 53 w.heap.size rfl).alloc (.cells #[.int .u8 0, .int .u8 0, .int .u8 0, .int .u8 0, .int .u8 0, .int .u8 0, .int .u8 0, .int .u8 0] 53))
 have RO := Lib.hid (Row8.zeros (w.alloc (.cells #[.int .u8 0, .int .u8 0, .int .u8 0, .int .u8 0, .int .u8 0, .int .u8 0, .int .u8 0, .int .u8 0] 53)) .u8 53 (w.heap.size + 1) (by simp))
 have BB := Lib.hid (below2 w (.cells #[.int .u8 0, .int .u8 0, .int .u8 0, .int .u8 0, .int .u8 0, .int .u8 0, .int .u8 0, .int .u8 0] 53) (.cells #[.int .u8 0, .int .u8 0, .int .u8 0, .int .u8 0, .int .u8 0, .int .u8 0, .int .u8 0, .int .u8 0] 53))
 go_wp2
 go_loopw [4] (fun i wr => ∃ k : Nat, k ≤ n ∧ i = .int .i64 k ∧ Row8 wr w.heap.size .u8 [0, 0, 0, 0, 0, 0, 0, 0] ∧ Row8 wr (w.heap.size + 1) .u8 (mapR k fun x => (n : Int) - 1 - x) ∧ Below w.heap.size w wr) (fun i _ => n - (intOf i).toNat)
 case atStart => exact ⟨0, Nat.zero_le _, rfl, RZ.out, RO.out, BB.out⟩
 case round =>
  obtain ⟨k, hk, rfl, hRZ, hRO, hBB⟩ := hrel
  clear RZ RO BB
  have RZ := Lib.hid hRZ
  have RO := Lib.hid hRO
  have BB := Lib.hid hBB
  clear hRZ hRO hBB
  have HST := Lib.hid (mapR_step k (fun x => (n : Int) - 1 - x))
  by_cases hlt : k < n
  ·have f2 := RO.out.free k (by omega)
   have c3 := RO.out.cell k (by omega)
   have z2 := RO.out.lt
   have b1 : (0 : Int) ≤ (n : Int) - 1 - k := by omega
   have b2 : (n : Int) - 1 - k < 8 := by omega
   go_wp2
   go_round
   case rel =>
    refine ⟨k + 1, by omega, by go_num, RZ.out.setCell (by first | (simp; done) | (simp; omega)) _, ?_, BB.out.setCell (by first | (simp; done) | (simp; omega)) _⟩
    rw [← HST.out (by omega)]
    exact RO.out.store k (by omega) ((n : Int) - 1 - k)
   case measure => simp [intOf]; omega
  ·have hkn : k = n := by omega
   subst hkn
   obtain ⟨⟨c0, c1, c2, c3⟩, c4, c5, c6, c7⟩ := RO.out.all
   obtain ⟨⟨d0, d1, d2, d3⟩, d4, d5, d6, d7⟩ := RZ.out.all
   obtain ⟨⟨f0, f1, f2, f3⟩, f4, f5, f6, f7⟩ := RZ.out.frees
   have zq := RZ.out.lt
   go_wp2
   obtain ⟨⟨e0, e1, e2, e3⟩, e4, e5, e6, e7⟩ := (RZ.out.fill (mapR k fun x => (k : Int) - 1 - x) RO.out.len).all
   refine bodyPost_ret (v := arr8 .u8 (mapR k fun x => (k : Int) - 1 - x)) (by simp [results, Try.results37, go_sem, e0, e1, e2, e3, e4, e5, e6, e7]) rfl ⟨rfl, ?_⟩
   exact below_fill8 BB.out _ (by omega) _ _ _ _ _ _ _ _

set_option maxRecDepth 100000 in
set_option maxHeartbeats 1000000 in
theorem l02Same_any (n : Nat) (h8 : n ≤ 8) (w : World) :
  Calls Try.prog 36 #[.int .i64 n] w (RetArr .u8 w (sameR n)) := by
 go_enter Try.func36, Try.ntmps36
 have RZ := Lib.hid ((Row8.zeros w .u8 53 w.heap.size rfl).alloc (.cells #[.int .u8 0, .int .u8 0, .int .u8 0, .int .u8 0, .int .u8 0, .int .u8 0, .int .u8 0, .int .u8 0] 53))
 have RO := Lib.hid (Row8.zeros (w.alloc (.cells #[.int .u8 0, .int .u8 0, .int .u8 0, .int .u8 0, .int .u8 0, .int .u8 0, .int .u8 0, .int .u8 0] 53)) .u8 53 (w.heap.size + 1) (by simp))
 have BB := Lib.hid (below2 w (.cells #[.int .u8 0, .int .u8 0, .int .u8 0, .int .u8 0, .int .u8 0, .int .u8 0, .int .u8 0, .int .u8 0] 53) (.cells #[.int .u8 0, .int .u8 0, .int .u8 0, .int .u8 0, .int .u8 0, .int .u8 0, .int .u8 0, .int .u8 0] 53))
 go_wp2
 go_loopw [4] (fun i wr => ∃ k : Nat, k ≤ n ∧ i = .int .i64 k ∧ Row8 wr w.heap.size .u8 [0, 0, 0, 0, 0, 0, 0, 0] ∧ Row8 wr (w.heap.size + 1) .u8 (mapR k fun x => (x : Int)) ∧ Below w.heap.size w wr) (fun i _ => n - (intOf i).toNat)
 case atStart => exact ⟨0, Nat.zero_le _, rfl, RZ.out, RO.out, BB.out⟩
 case round =>
  obtain ⟨k, hk, rfl, hRZ, hRO, hBB⟩ := hrel
  clear RZ RO BB
  have RZ := Lib.hid hRZ
  have RO := Lib.hid hRO
  have BB := Lib.hid hBB
  clear hRZ hRO hBB
  have HST := Lib.hid (mapR_step k (fun x => (x : Int)))
  by_cases hlt : k < n
  ·have f2 := RO.out.free k (by omega)
   have c3 := RO.out.cell k (by omega)
   have z2 := RO.out.lt
   go_wp2
   go_round
   case rel =>
    refine ⟨k + 1, by omega, by go_num, RZ.out.setCell (by first | (simp; done) | (simp; omega)) _, ?_, BB.out.setCell (by first | (simp; done) | (simp; omega)) _⟩
    rw [← HST.out (by omega)]
    exact RO.out.store k (by omega) (k : Int)
   case measure => simp [intOf]; omega
  ·have hkn : k = n := by omega
   subst hkn
   obtain ⟨⟨c0, c1, c2, c3⟩, c4, c5, c6, c7⟩ := RO.out.all
   obtain ⟨⟨d0, d1, d2, d3⟩, d4, d5, d6, d7⟩ := RZ.out.all
   obtain ⟨⟨f0, f1, f2, f3⟩, f4, f5, f6, f7⟩ := RZ.out.frees
   have zq := RZ.out.lt
   go_wp2
   obtain ⟨⟨e0, e1, e2, e3⟩, e4, e5, e6, e7⟩ := (RZ.out.fill (mapR k fun x => (x : Int)) RO.out.len).all
   refine bodyPost_ret (v := arr8 .u8 (mapR k fun x => (x : Int))) (by simp [results, Try.results36, go_sem, e0, e1, e2, e3, e4, e5, e6, e7]) rfl ⟨rfl, ?_⟩
   exact below_fill8 BB.out _ (by omega) _ _ _ _ _ _ _ _

end Go.Proofs.Ytpkhddndapcpjaa

/- The model: one simple braid after the other. -/
namespace Go.Proofs.Ytpkhddndapcpjaa
open Go.RowKit Go.ChangeShapes

set_option maxRecDepth 100000 in
set_option maxHeartbeats 1000000 in
theorem l02Then_any (n : Nat) (h8 : n ≤ 8) (a b : List Int) (la : a.length = 8) (lb : b.length = 8) (ha : ∀ j, j < n → 0 ≤ at8 a j ∧ at8 a j < 8) (w : World) :
  Calls Try.prog 63 #[arr8 .u8 a, arr8 .u8 b, .int .i64 n] w (RetArr .u8 w (thenR n a b)) := by
 have HA := Lib.hid ha
 clear ha
 go_enter Try.func63, Try.ntmps63
 have RA := Lib.hid ((((Row8.place w .u8 a 53 w.heap.size rfl la).alloc (.cells #[.int .u8 (at8 b 0), .int .u8 (at8 b 1), .int .u8 (at8 b 2), .int .u8 (at8 b 3), .int .u8 (at8 b 4), .int .u8 (at8 b 5), .int .u8 (at8 b 6), .int .u8 (at8 b 7)] 53)).alloc (.cells #[.int .u8 0, .int .u8 0, .int .u8 0, .int .u8 0, .int .u8 0, .int .u8 0, .int .u8 0, .int .u8 0] 53)).alloc (.cells #[.int .u8 0, .int .u8 0, .int .u8 0, .int .u8 0, .int .u8 0, .int .u8 0, .int .u8 0, .int .u8 0] 53))
 have RB := Lib.hid (((Row8.place (w.alloc (.cells #[.int .u8 (at8 a 0), .int .u8 (at8 a 1), .int .u8 (at8 a 2), .int .u8 (at8 a 3), .int .u8 (at8 a 4), .int .u8 (at8 a 5), .int .u8 (at8 a 6), .int .u8 (at8 a 7)] 53)) .u8 b 53 (w.heap.size + 1) (by simp) lb).alloc (.cells #[.int .u8 0, .int .u8 0, .int .u8 0, .int .u8 0, .int .u8 0, .int .u8 0, .int .u8 0, .int .u8 0] 53)).alloc (.cells #[.int .u8 0, .int .u8 0, .int .u8 0, .int .u8 0, .int .u8 0, .int .u8 0, .int .u8 0, .int .u8 0] 53))
 have RZ := Lib.hid ((Row8.zeros ((w.alloc (.cells #[.int .u8 (at8 a 0), .int .u8 (at8 a 1), .int .u8 (at8 a 2), .int .u8 (at8 a 3), .int .u8 (at8 a 4), .int .u8 (at8 a 5), .int .u8 (at8 a 6), .int .u8 (at8 a 7)] 53)).alloc (.cells #[.int .u8 (at8 b 0), .int .u8 (at8 b 1), .int .u8 (at8 b 2), .int .u8 (at8 b 3), .int .u8 (at8 b 4), .int .u8 (at8 b 5), .int .u8 (at8 b 6), .int .u8 (at8 b 7)] 53)) .u8 53 (w.heap.size + 1 + 1) (by simp)).alloc (.cells #[.int .u8 0, .int .u8 0, .int .u8 0, .int .u8 0, .int .u8 0, .int .u8 0, .int .u8 0, .int .u8 0] 53))
 have RO := Lib.hid (Row8.zeros (((w.alloc (.cells #[.int .u8 (at8 a 0), .int .u8 (at8 a 1), .int .u8 (at8 a 2), .int .u8 (at8 a 3), .int .u8 (at8 a 4), .int .u8 (at8 a 5), .int .u8 (at8 a 6), .int .u8 (at8 a 7)] 53)).alloc (.cells #[.int .u8 (at8 b 0), .int .u8 (at8 b 1), .int .u8 (at8 b 2), .int .u8 (at8 b 3), .int .u8 (at8 b 4), .int .u8 (at8 b 5), .int .u8 (at8 b 6), .int .u8 (at8 b 7)] 53)).alloc (.cells #[.int .u8 0, .int .u8 0, .int .u8 0, .int .u8 0, .int .u8 0, .int .u8 0, .int .u8 0, .int .u8 0] 53)) .u8 53 (w.heap.size + 1 + 1 + 1) (by simp))
 have BB := Lib.hid (below4 w (.cells #[.int .u8 (at8 a 0), .int .u8 (at8 a 1), .int .u8 (at8 a 2), .int .u8 (at8 a 3), .int .u8 (at8 a 4), .int .u8 (at8 a 5), .int .u8 (at8 a 6), .int .u8 (at8 a 7)] 53) (.cells #[.int .u8 (at8 b 0), .int .u8 (at8 b 1), .int .u8 (at8 b 2), .int .u8 (at8 b 3), .int .u8 (at8 b 4), .int .u8 (at8 b 5), .int .u8 (at8 b 6), .int .u8 (at8 b 7)] 53) (.cells #[.int .u8 0, .int .u8 0, .int .u8 0, .int .u8 0, .int .u8 0, .int .u8 0, .int .u8 0, .int .u8 0] 53) (.cells #[.int .u8 0, .int .u8 0, .int .u8 0, .int .u8 0, .int .u8 0, .int .u8 0, .int .u8 0, .int .u8 0] 53))
 go_wp2
 go_loopw [8] (fun i wr => ∃ k : Nat, k ≤ n ∧ i = .int .i64 k ∧ Row8 wr w.heap.size .u8 a ∧ Row8 wr (w.heap.size + 1) .u8 b ∧ Row8 wr (w.heap.size + 1 + 1) .u8 [0, 0, 0, 0, 0, 0, 0, 0] ∧ Row8 wr (w.heap.size + 1 + 1 + 1) .u8 (mapR k fun x => at8 b (at8 a x).toNat) ∧ Below w.heap.size w wr) (fun i _ => n - (intOf i).toNat)
 case atStart => exact ⟨0, Nat.zero_le _, rfl, RA.out, RB.out, RZ.out, RO.out, BB.out⟩
 case round =>
  obtain ⟨k, hk, rfl, hRA, hRB, hRZ, hRO, hBB⟩ := hrel
  clear RA RB RZ RO BB
  have RA := Lib.hid hRA
  have RB := Lib.hid hRB
  have RZ := Lib.hid hRZ
  have RO := Lib.hid hRO
  have BB := Lib.hid hBB
  clear hRA hRB hRZ hRO hBB
  have hst := mapR_step k (fun x => at8 b (at8 a x).toNat)
  by_cases hlt : k < n
  ·obtain ⟨o1, o2⟩ := HA.out k hlt
   obtain ⟨v, hv⟩ : ∃ v : Nat, at8 a k = (v : Int) := ⟨(at8 a k).toNat, by omega⟩
   have c1 := RA.out.cell k (by omega)
   rw [hv] at c1 o1 o2
   simp only [hv, Int.toNat_natCast] at hst
   have HST := Lib.hid hst
   clear hv hst
   have c2 := RB.out.cell v (by omega)
   have f2 := RO.out.free k (by omega)
   have c3 := RO.out.cell k (by omega)
   have z2 := RO.out.lt
   go_wp2
   go_round
   case rel =>
    refine ⟨k + 1, by omega, by go_num, RA.out.setCell (by first | (simp; done) | (simp; omega)) _, RB.out.setCell (by first | (simp; done) | (simp; omega)) _, RZ.out.setCell (by first | (simp; done) | (simp; omega)) _, ?_, BB.out.setCell (by first | (simp; done) | (simp; omega)) _⟩
    rw [← HST.out (by omega)]
    exact RO.out.store k (by omega) (at8 b v)
   case measure => simp [intOf]; omega
  ·clear hst
   have hkn : k = n := by omega
   subst hkn
   obtain ⟨⟨c0, c1, c2, c3⟩, c4, c5, c6, c7⟩ := RO.out.all
   obtain ⟨⟨d0, d1, d2, d3⟩, d4, d5, d6, d7⟩ := RZ.out.all
   obtain ⟨⟨f0, f1, f2, f3⟩, f4, f5, f6, f7⟩ := RZ.out.frees
   have zq := RZ.out.lt
   go_wp2
   obtain ⟨⟨e0, e1, e2, e3⟩, e4, e5, e6, e7⟩ := (RZ.out.fill (mapR k fun x => at8 b (at8 a x).toNat) RO.out.len).all
   refine bodyPost_ret (v := arr8 .u8 (mapR k fun x => at8 b (at8 a x).toNat)) (by simp [results, Try.results63, go_sem, e0, e1, e2, e3, e4, e5, e6, e7]) rfl ⟨rfl, ?_⟩
   exact below_fill8 BB.out _ (by omega) _ _ _ _ _ _ _ _

end Go.Proofs.Ytpkhddndapcpjaa

/- The turn of a simple braid, both. -/
namespace Go.Proofs.Ytpkhddndapcpjaa
open Go.RowKit Go.ChangeShapes

set_option maxRecDepth 100000 in
set_option maxHeartbeats 1000000 in
theorem l02Turn_any (n : Nat) (s : List Int) (hs : Sim n s) (w : World) :
  Calls Try.prog 60 #[arr8 .u8 s, .int .i64 n] w (RetArr .u8 w (thenR n (thenR n (halfR n) s) (halfR n))) := by
 have h8 := hs.hi
 have ls := hs.len
 have HS := Lib.hid hs
 clear hs
 go_enter Try.func60, Try.ntmps60
 have RA := Lib.hid ((Row8.place w .u8 s 53 w.heap.size rfl ls).alloc (.cells #[.int .u8 0, .int .u8 0, .int .u8 0, .int .u8 0, .int .u8 0, .int .u8 0, .int .u8 0, .int .u8 0] 53))
 have RZ := Lib.hid (Row8.zeros (w.alloc (.cells #[.int .u8 (at8 s 0), .int .u8 (at8 s 1), .int .u8 (at8 s 2), .int .u8 (at8 s 3), .int .u8 (at8 s 4), .int .u8 (at8 s 5), .int .u8 (at8 s 6), .int .u8 (at8 s 7)] 53)) .u8 53 (w.heap.size + 1) (by simp))
 have BB := Lib.hid (below2 w (.cells #[.int .u8 (at8 s 0), .int .u8 (at8 s 1), .int .u8 (at8 s 2), .int .u8 (at8 s 3), .int .u8 (at8 s 4), .int .u8 (at8 s 5), .int .u8 (at8 s 6), .int .u8 (at8 s 7)] 53) (.cells #[.int .u8 0, .int .u8 0, .int .u8 0, .int .u8 0, .int .u8 0, .int .u8 0, .int .u8 0, .int .u8 0] 53))
 have LS := Lib.hid ls
 clear ls
 go_wp2_with fail
 refine (l02Half_any n h8 _).mono ?_
 rintro e w2 ⟨rfl, hb⟩
 replace RA := Lib.hid (RA.out.below hb)
 replace RZ := Lib.hid (RZ.out.below hb)
 replace BB := Lib.hid (below_go BB.out hb BB.out.size)
 clear hb
 have zh := RZ.out.lt
 have RH := Lib.hid (Row8.place w2 .u8 (halfR n) 53 w2.heap.size rfl (mapR_len _ _ h8))
 replace RA := Lib.hid (RA.out.alloc (.cells #[.int .u8 (at8 (halfR n) 0), .int .u8 (at8 (halfR n) 1), .int .u8 (at8 (halfR n) 2), .int .u8 (at8 (halfR n) 3), .int .u8 (at8 (halfR n) 4), .int .u8 (at8 (halfR n) 5), .int .u8 (at8 (halfR n) 6), .int .u8 (at8 (halfR n) 7)] 53))
 replace RZ := Lib.hid (RZ.out.alloc (.cells #[.int .u8 (at8 (halfR n) 0), .int .u8 (at8 (halfR n) 1), .int .u8 (at8 (halfR n) 2), .int .u8 (at8 (halfR n) 3), .int .u8 (at8 (halfR n) 4), .int .u8 (at8 (halfR n) 5), .int .u8 (at8 (halfR n) 6), .int .u8 (at8 (halfR n) 7)] 53))
 replace BB := Lib.hid (BB.out.alloc BB.out.size (.cells #[.int .u8 (at8 (halfR n) 0), .int .u8 (at8 (halfR n) 1), .int .u8 (at8 (halfR n) 2), .int .u8 (at8 (halfR n) 3), .int .u8 (at8 (halfR n) 4), .int .u8 (at8 (halfR n) 5), .int .u8 (at8 (halfR n) 6), .int .u8 (at8 (halfR n) 7)] 53))
 go_wp2
 obtain ⟨W, hW⟩ : ∃ W, W = w2.alloc (.cells #[.int .u8 (at8 (halfR n) 0), .int .u8 (at8 (halfR n) 1), .int .u8 (at8 (halfR n) 2), .int .u8 (at8 (halfR n) 3), .int .u8 (at8 (halfR n) 4), .int .u8 (at8 (halfR n) 5), .int .u8 (at8 (halfR n) 6), .int .u8 (at8 (halfR n) 7)] 53) := ⟨_, rfl⟩
 rw [← hW] at RA RZ RH BB ⊢
 clear hW
 obtain ⟨gh, hgh⟩ : ∃ gh, gh = w2.heap.size := ⟨_, rfl⟩
 rw [← hgh] at RH zh ⊢
 clear hgh
 have zb := BB.out.size
 go_region_held3 (fun w' => (w'.cell? ⟨w.heap.size, 0, none⟩ = some (.int .u8 (at8 s 0)) ∧ w'.cell? ⟨w.heap.size, 1, none⟩ = some (.int .u8 (at8 s 1)) ∧ w'.cell? ⟨w.heap.size, 2, none⟩ = some (.int .u8 (at8 s 2)) ∧ w'.cell? ⟨w.heap.size, 3, none⟩ = some (.int .u8 (at8 s 3)) ∧ w'.cell? ⟨w.heap.size, 4, none⟩ = some (.int .u8 (at8 s 4)) ∧ w'.cell? ⟨w.heap.size, 5, none⟩ = some (.int .u8 (at8 s 5)) ∧ w'.cell? ⟨w.heap.size, 6, none⟩ = some (.int .u8 (at8 s 6)) ∧ w'.cell? ⟨w.heap.size, 7, none⟩ = some (.int .u8 (at8 s 7))) ∧ (w'.cell? ⟨gh, 0, none⟩ = some (.int .u8 (at8 (halfR n) 0)) ∧ w'.cell? ⟨gh, 1, none⟩ = some (.int .u8 (at8 (halfR n) 1)) ∧ w'.cell? ⟨gh, 2, none⟩ = some (.int .u8 (at8 (halfR n) 2)) ∧ w'.cell? ⟨gh, 3, none⟩ = some (.int .u8 (at8 (halfR n) 3)) ∧ w'.cell? ⟨gh, 4, none⟩ = some (.int .u8 (at8 (halfR n) 4)) ∧ w'.cell? ⟨gh, 5, none⟩ = some (.int .u8 (at8 (halfR n) 5)) ∧ w'.cell? ⟨gh, 6, none⟩ = some (.int .u8 (at8 (halfR n) 6)) ∧ w'.cell? ⟨gh, 7, none⟩ = some (.int .u8 (at8 (halfR n) 7)))) (first | with_reducible exact ⟨(RA.out.drew).flat, (RH.out.drew).flat⟩ | with_reducible exact ⟨(RA.out.drew.below h1).flat, (RH.out.drew.below h1).flat⟩ | with_reducible exact ⟨((RA.out.drew.below h1).below h2).flat, ((RH.out.drew.below h1).below h2).flat⟩ | with_reducible exact ⟨(((RA.out.drew.below h1).below h2).past (w.heap.size + 1) (by omega) _ _ _ _ _ _ _ _).flat, (((RH.out.drew.below h1).below h2).past (w.heap.size + 1) (by omega) _ _ _ _ _ _ _ _).flat⟩)
  (first
   | (go_at_call_of 63 (at8 s 0); refine (l02Then_any n h8 (halfR n) s (mapR_len _ _ h8) LS.out (halfR_sim n HS.out.lo h8).wide _).mono ?_; rintro e w1 ⟨rfl, h1⟩)
   | (go_at_call 63; refine (l02Then_any n h8 (thenR n (halfR n) s) (halfR n) (mapR_len _ _ h8) (mapR_len _ _ h8) (thenR_sim (halfR_sim n HS.out.lo h8) HS.out).wide _).mono ?_; rintro e w2 ⟨rfl, h2⟩; obtain ⟨⟨d0, d1, d2, d3⟩, d4, d5, d6, d7⟩ := ((RZ.out.drew.below h1).below h2).all; obtain ⟨⟨f0, f1, f2, f3⟩, f4, f5, f6, f7⟩ := ((RZ.out.drew.below h1).below h2).frees; have zq := ((RZ.out.drew.below h1).below h2).lt))
 have R3 := Lib.hid ((RZ.out.drew.below h1).below h2)
 have B3 := Lib.hid (below_go (below_go BB.out.drew h1 zb) h2 (Nat.le_trans zb h1.size))
 clear BB
 have BB := B3
 clear h1 h2
 go_wp2
 obtain ⟨⟨e0, e1, e2, e3⟩, e4, e5, e6, e7⟩ := (R3.out.fill (thenR n (thenR n (halfR n) s) (halfR n)) (mapR_len _ _ h8)).all
 refine bodyPost_ret (v := arr8 .u8 (thenR n (thenR n (halfR n) s) (halfR n))) (by simp [results, Try.results60, go_sem, e0, e1, e2, e3, e4, e5, e6, e7]) rfl ⟨rfl, ?_⟩
 exact below_fill8 BB.out _ (by omega) _ _ _ _ _ _ _ _

set_option maxRecDepth 100000 in
set_option maxHeartbeats 1000000 in
theorem turn_any (n : Nat) (s : List Int) (hs : Sim n s) (w : World) :
  Calls Try.prog 74 #[arr8 .u8 s, .int .i64 n] w (RetArr .u8 w (thenR n (thenR n (halfR n) s) (halfR n))) := by
 have h8 := hs.hi
 have ls := hs.len
 have HS := Lib.hid hs
 clear hs
 go_enter Try.func74, Try.ntmps74
 have RA := Lib.hid ((Row8.place w .u8 s 53 w.heap.size rfl ls).alloc (.cells #[.int .u8 0, .int .u8 0, .int .u8 0, .int .u8 0, .int .u8 0, .int .u8 0, .int .u8 0, .int .u8 0] 53))
 have RZ := Lib.hid (Row8.zeros (w.alloc (.cells #[.int .u8 (at8 s 0), .int .u8 (at8 s 1), .int .u8 (at8 s 2), .int .u8 (at8 s 3), .int .u8 (at8 s 4), .int .u8 (at8 s 5), .int .u8 (at8 s 6), .int .u8 (at8 s 7)] 53)) .u8 53 (w.heap.size + 1) (by simp))
 have BB := Lib.hid (below2 w (.cells #[.int .u8 (at8 s 0), .int .u8 (at8 s 1), .int .u8 (at8 s 2), .int .u8 (at8 s 3), .int .u8 (at8 s 4), .int .u8 (at8 s 5), .int .u8 (at8 s 6), .int .u8 (at8 s 7)] 53) (.cells #[.int .u8 0, .int .u8 0, .int .u8 0, .int .u8 0, .int .u8 0, .int .u8 0, .int .u8 0, .int .u8 0] 53))
 have LS := Lib.hid ls
 clear ls
 go_wp2_with fail
 refine (halfTurn_any n h8 _).mono ?_
 rintro e w2 ⟨rfl, hb⟩
 replace RA := Lib.hid (RA.out.below hb)
 replace RZ := Lib.hid (RZ.out.below hb)
 replace BB := Lib.hid (below_go BB.out hb BB.out.size)
 clear hb
 have zh := RZ.out.lt
 have RH := Lib.hid (Row8.place w2 .u8 (halfR n) 53 w2.heap.size rfl (mapR_len _ _ h8))
 replace RA := Lib.hid (RA.out.alloc (.cells #[.int .u8 (at8 (halfR n) 0), .int .u8 (at8 (halfR n) 1), .int .u8 (at8 (halfR n) 2), .int .u8 (at8 (halfR n) 3), .int .u8 (at8 (halfR n) 4), .int .u8 (at8 (halfR n) 5), .int .u8 (at8 (halfR n) 6), .int .u8 (at8 (halfR n) 7)] 53))
 replace RZ := Lib.hid (RZ.out.alloc (.cells #[.int .u8 (at8 (halfR n) 0), .int .u8 (at8 (halfR n) 1), .int .u8 (at8 (halfR n) 2), .int .u8 (at8 (halfR n) 3), .int .u8 (at8 (halfR n) 4), .int .u8 (at8 (halfR n) 5), .int .u8 (at8 (halfR n) 6), .int .u8 (at8 (halfR n) 7)] 53))
 replace BB := Lib.hid (BB.out.alloc BB.out.size (.cells #[.int .u8 (at8 (halfR n) 0), .int .u8 (at8 (halfR n) 1), .int .u8 (at8 (halfR n) 2), .int .u8 (at8 (halfR n) 3), .int .u8 (at8 (halfR n) 4), .int .u8 (at8 (halfR n) 5), .int .u8 (at8 (halfR n) 6), .int .u8 (at8 (halfR n) 7)] 53))
 go_wp2
 obtain ⟨W, hW⟩ : ∃ W, W = w2.alloc (.cells #[.int .u8 (at8 (halfR n) 0), .int .u8 (at8 (halfR n) 1), .int .u8 (at8 (halfR n) 2), .int .u8 (at8 (halfR n) 3), .int .u8 (at8 (halfR n) 4), .int .u8 (at8 (halfR n) 5), .int .u8 (at8 (halfR n) 6), .int .u8 (at8 (halfR n) 7)] 53) := ⟨_, rfl⟩
 rw [← hW] at RA RZ RH BB ⊢
 clear hW
 obtain ⟨gh, hgh⟩ : ∃ gh, gh = w2.heap.size := ⟨_, rfl⟩
 rw [← hgh] at RH zh ⊢
 clear hgh
 have zb := BB.out.size
 go_region_held3 (fun w' => (w'.cell? ⟨w.heap.size, 0, none⟩ = some (.int .u8 (at8 s 0)) ∧ w'.cell? ⟨w.heap.size, 1, none⟩ = some (.int .u8 (at8 s 1)) ∧ w'.cell? ⟨w.heap.size, 2, none⟩ = some (.int .u8 (at8 s 2)) ∧ w'.cell? ⟨w.heap.size, 3, none⟩ = some (.int .u8 (at8 s 3)) ∧ w'.cell? ⟨w.heap.size, 4, none⟩ = some (.int .u8 (at8 s 4)) ∧ w'.cell? ⟨w.heap.size, 5, none⟩ = some (.int .u8 (at8 s 5)) ∧ w'.cell? ⟨w.heap.size, 6, none⟩ = some (.int .u8 (at8 s 6)) ∧ w'.cell? ⟨w.heap.size, 7, none⟩ = some (.int .u8 (at8 s 7))) ∧ (w'.cell? ⟨gh, 0, none⟩ = some (.int .u8 (at8 (halfR n) 0)) ∧ w'.cell? ⟨gh, 1, none⟩ = some (.int .u8 (at8 (halfR n) 1)) ∧ w'.cell? ⟨gh, 2, none⟩ = some (.int .u8 (at8 (halfR n) 2)) ∧ w'.cell? ⟨gh, 3, none⟩ = some (.int .u8 (at8 (halfR n) 3)) ∧ w'.cell? ⟨gh, 4, none⟩ = some (.int .u8 (at8 (halfR n) 4)) ∧ w'.cell? ⟨gh, 5, none⟩ = some (.int .u8 (at8 (halfR n) 5)) ∧ w'.cell? ⟨gh, 6, none⟩ = some (.int .u8 (at8 (halfR n) 6)) ∧ w'.cell? ⟨gh, 7, none⟩ = some (.int .u8 (at8 (halfR n) 7)))) (first | with_reducible exact ⟨(RA.out.drew).flat, (RH.out.drew).flat⟩ | with_reducible exact ⟨(RA.out.drew.below h1).flat, (RH.out.drew.below h1).flat⟩ | with_reducible exact ⟨((RA.out.drew.below h1).below h2).flat, ((RH.out.drew.below h1).below h2).flat⟩ | with_reducible exact ⟨(((RA.out.drew.below h1).below h2).past (w.heap.size + 1) (by omega) _ _ _ _ _ _ _ _).flat, (((RH.out.drew.below h1).below h2).past (w.heap.size + 1) (by omega) _ _ _ _ _ _ _ _).flat⟩)
  (first
   | (go_at_call_of 83 (at8 s 0); refine (then_any n h8 (halfR n) s (mapR_len _ _ h8) LS.out (halfR_sim n HS.out.lo h8).wide _).mono ?_; rintro e w1 ⟨rfl, h1⟩)
   | (go_at_call 83; refine (then_any n h8 (thenR n (halfR n) s) (halfR n) (mapR_len _ _ h8) (mapR_len _ _ h8) (thenR_sim (halfR_sim n HS.out.lo h8) HS.out).wide _).mono ?_; rintro e w2 ⟨rfl, h2⟩; obtain ⟨⟨d0, d1, d2, d3⟩, d4, d5, d6, d7⟩ := ((RZ.out.drew.below h1).below h2).all; obtain ⟨⟨f0, f1, f2, f3⟩, f4, f5, f6, f7⟩ := ((RZ.out.drew.below h1).below h2).frees; have zq := ((RZ.out.drew.below h1).below h2).lt))
 have R3 := Lib.hid ((RZ.out.drew.below h1).below h2)
 have B3 := Lib.hid (below_go (below_go BB.out.drew h1 zb) h2 (Nat.le_trans zb h1.size))
 clear BB
 have BB := B3
 clear h1 h2
 go_wp2
 obtain ⟨⟨e0, e1, e2, e3⟩, e4, e5, e6, e7⟩ := (R3.out.fill (thenR n (thenR n (halfR n) s) (halfR n)) (mapR_len _ _ h8)).all
 refine bodyPost_ret (v := arr8 .u8 (thenR n (thenR n (halfR n) s) (halfR n))) (by simp [results, Try.results74, go_sem, e0, e1, e2, e3, e4, e5, e6, e7]) rfl ⟨rfl, ?_⟩
 exact below_fill8 BB.out _ (by omega) _ _ _ _ _ _ _ _

end Go.Proofs.Ytpkhddndapcpjaa

/- Complements, both. -/
namespace Go.Proofs.Ytpkhddndapcpjaa
open Go.RowKit Go.ChangeShapes

set_option maxRecDepth 100000 in
set_option maxHeartbeats 1000000 in
theorem l02Complement_any (n : Nat) (s : List Int) (hs : Sim n s) (w : World) :
  Calls Try.prog 62 #[arr8 .u8 s, .int .i64 n] w (RetArr .u8 w (thenR n (backR n s) (halfR n))) := by
 have h8 := hs.hi
 have ls := hs.len
 have HS := Lib.hid hs
 clear hs
 go_enter Try.func62, Try.ntmps62
 have RA := Lib.hid ((Row8.place w .u8 s 53 w.heap.size rfl ls).alloc (.cells #[.int .u8 0, .int .u8 0, .int .u8 0, .int .u8 0, .int .u8 0, .int .u8 0, .int .u8 0, .int .u8 0] 53))
 have RZ := Lib.hid (Row8.zeros (w.alloc (.cells #[.int .u8 (at8 s 0), .int .u8 (at8 s 1), .int .u8 (at8 s 2), .int .u8 (at8 s 3), .int .u8 (at8 s 4), .int .u8 (at8 s 5), .int .u8 (at8 s 6), .int .u8 (at8 s 7)] 53)) .u8 53 (w.heap.size + 1) (by simp))
 have BB := Lib.hid (below2 w (.cells #[.int .u8 (at8 s 0), .int .u8 (at8 s 1), .int .u8 (at8 s 2), .int .u8 (at8 s 3), .int .u8 (at8 s 4), .int .u8 (at8 s 5), .int .u8 (at8 s 6), .int .u8 (at8 s 7)] 53) (.cells #[.int .u8 0, .int .u8 0, .int .u8 0, .int .u8 0, .int .u8 0, .int .u8 0, .int .u8 0, .int .u8 0] 53))
 have LS := Lib.hid ls
 clear ls
 obtain ⟨⟨qRA0, qRA1, qRA2, qRA3⟩, qRA4, qRA5, qRA6, qRA7⟩ := RA.out.all
 go_wp2_with fail
 refine (l02Back_any n s HS.out _).mono ?_
 rintro e w2 ⟨rfl, hb⟩
 clear qRA0 qRA1 qRA2 qRA3 qRA4 qRA5 qRA6 qRA7
 replace RA := Lib.hid (RA.out.below hb)
 replace RZ := Lib.hid (RZ.out.below hb)
 replace BB := Lib.hid (below_go BB.out hb BB.out.size)
 clear hb
 obtain ⟨⟨qRA0, qRA1, qRA2, qRA3⟩, qRA4, qRA5, qRA6, qRA7⟩ := RA.out.all
 go_wp2_with fail
 refine (l02Half_any n h8 _).mono ?_
 rintro e w4 ⟨rfl, hb⟩
 clear qRA0 qRA1 qRA2 qRA3 qRA4 qRA5 qRA6 qRA7
 replace RA := Lib.hid (RA.out.below hb)
 replace RZ := Lib.hid (RZ.out.below hb)
 replace BB := Lib.hid (below_go BB.out hb BB.out.size)
 clear hb
 obtain ⟨⟨qRA0, qRA1, qRA2, qRA3⟩, qRA4, qRA5, qRA6, qRA7⟩ := RA.out.all
 go_wp2_with fail
 refine (l02Then_any n h8 (backR n s) (halfR n) (mapR_len _ _ h8) (mapR_len _ _ h8) (backR_sim HS.out).wide _).mono ?_
 rintro e w6 ⟨rfl, hb⟩
 clear qRA0 qRA1 qRA2 qRA3 qRA4 qRA5 qRA6 qRA7
 replace RA := Lib.hid (RA.out.below hb)
 replace RZ := Lib.hid (RZ.out.below hb)
 replace BB := Lib.hid (below_go BB.out hb BB.out.size)
 clear hb
 obtain ⟨⟨d0, d1, d2, d3⟩, d4, d5, d6, d7⟩ := RZ.out.all
 obtain ⟨⟨f0, f1, f2, f3⟩, f4, f5, f6, f7⟩ := RZ.out.frees
 have zq := RZ.out.lt
 go_wp2
 obtain ⟨⟨e0, e1, e2, e3⟩, e4, e5, e6, e7⟩ := (RZ.out.fill (thenR n (backR n s) (halfR n)) (mapR_len _ _ h8)).all
 refine bodyPost_ret (v := arr8 .u8 (thenR n (backR n s) (halfR n))) (by simp [results, Try.results62, go_sem, e0, e1, e2, e3, e4, e5, e6, e7]) rfl ⟨rfl, ?_⟩
 exact below_fill8 BB.out _ (by omega) _ _ _ _ _ _ _ _

end Go.Proofs.Ytpkhddndapcpjaa
