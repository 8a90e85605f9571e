/- The model: one simple braid after the other. -/
import Derived.Test.YtleoohplnkdbdabCjQA
namespace Go.Proofs.Ytleoohplnkdbdab
open Go.RowKit Go.ChangeShapes

set_option maxRecDepth 100000 in
set_option maxHeartbeats 1000000 in
theorem l02Then_any (n : Nat) (h8 : n ≤ 8) (a b : List Int) (la : a.length = 8) (lb : b.length = 8) (ha : ∀ j, j < n → 0 ≤ at8 a j ∧ at8 a j < 8) (w : World) :
  Calls Try.prog 114 #[arr8 .u8 a, arr8 .u8 b, .int .i64 n] w (RetArr .u8 w (thenR n a b)) := by
 have HA := Lib.hid ha
 clear ha
 go_enter Try.func114, Try.ntmps114
 have RA := Lib.hid ((((Row8.place w .u8 a 54 w.heap.size rfl la).alloc (.cells #[.int .u8 (at8 b 0), .int .u8 (at8 b 1), .int .u8 (at8 b 2), .int .u8 (at8 b 3), .int .u8 (at8 b 4), .int .u8 (at8 b 5), .int .u8 (at8 b 6), .int .u8 (at8 b 7)] 54)).alloc (.cells #[.int .u8 0, .int .u8 0, .int .u8 0, .int .u8 0, .int .u8 0, .int .u8 0, .int .u8 0, .int .u8 0] 54)).alloc (.cells #[.int .u8 0, .int .u8 0, .int .u8 0, .int .u8 0, .int .u8 0, .int .u8 0, .int .u8 0, .int .u8 0] 54))
 have RB := Lib.hid (((Row8.place (w.alloc (.cells #[.int .u8 (at8 a 0), .int .u8 (at8 a 1), .int .u8 (at8 a 2), .int .u8 (at8 a 3), .int .u8 (at8 a 4), .int .u8 (at8 a 5), .int .u8 (at8 a 6), .int .u8 (at8 a 7)] 54)) .u8 b 54 (w.heap.size + 1) (by simp) lb).alloc (.cells #[.int .u8 0, .int .u8 0, .int .u8 0, .int .u8 0, .int .u8 0, .int .u8 0, .int .u8 0, .int .u8 0] 54)).alloc (.cells #[.int .u8 0, .int .u8 0, .int .u8 0, .int .u8 0, .int .u8 0, .int .u8 0, .int .u8 0, .int .u8 0] 54))
 have RZ := Lib.hid ((Row8.zeros ((w.alloc (.cells #[.int .u8 (at8 a 0), .int .u8 (at8 a 1), .int .u8 (at8 a 2), .int .u8 (at8 a 3), .int .u8 (at8 a 4), .int .u8 (at8 a 5), .int .u8 (at8 a 6), .int .u8 (at8 a 7)] 54)).alloc (.cells #[.int .u8 (at8 b 0), .int .u8 (at8 b 1), .int .u8 (at8 b 2), .int .u8 (at8 b 3), .int .u8 (at8 b 4), .int .u8 (at8 b 5), .int .u8 (at8 b 6), .int .u8 (at8 b 7)] 54)) .u8 54 (w.heap.size + 1 + 1) (by simp)).alloc (.cells #[.int .u8 0, .int .u8 0, .int .u8 0, .int .u8 0, .int .u8 0, .int .u8 0, .int .u8 0, .int .u8 0] 54))
 have RO := Lib.hid (Row8.zeros (((w.alloc (.cells #[.int .u8 (at8 a 0), .int .u8 (at8 a 1), .int .u8 (at8 a 2), .int .u8 (at8 a 3), .int .u8 (at8 a 4), .int .u8 (at8 a 5), .int .u8 (at8 a 6), .int .u8 (at8 a 7)] 54)).alloc (.cells #[.int .u8 (at8 b 0), .int .u8 (at8 b 1), .int .u8 (at8 b 2), .int .u8 (at8 b 3), .int .u8 (at8 b 4), .int .u8 (at8 b 5), .int .u8 (at8 b 6), .int .u8 (at8 b 7)] 54)).alloc (.cells #[.int .u8 0, .int .u8 0, .int .u8 0, .int .u8 0, .int .u8 0, .int .u8 0, .int .u8 0, .int .u8 0] 54)) .u8 54 (w.heap.size + 1 + 1 + 1) (by simp))
 have BB := Lib.hid (below4 w (.cells #[.int .u8 (at8 a 0), .int .u8 (at8 a 1), .int .u8 (at8 a 2), .int .u8 (at8 a 3), .int .u8 (at8 a 4), .int .u8 (at8 a 5), .int .u8 (at8 a 6), .int .u8 (at8 a 7)] 54) (.cells #[.int .u8 (at8 b 0), .int .u8 (at8 b 1), .int .u8 (at8 b 2), .int .u8 (at8 b 3), .int .u8 (at8 b 4), .int .u8 (at8 b 5), .int .u8 (at8 b 6), .int .u8 (at8 b 7)] 54) (.cells #[.int .u8 0, .int .u8 0, .int .u8 0, .int .u8 0, .int .u8 0, .int .u8 0, .int .u8 0, .int .u8 0] 54) (.cells #[.int .u8 0, .int .u8 0, .int .u8 0, .int .u8 0, .int .u8 0, .int .u8 0, .int .u8 0, .int .u8 0] 54))
 go_wp2
 go_loopw [8] (fun i wr => ∃ k : Nat, k ≤ n ∧ i = .int .i64 k ∧ Row8 wr w.heap.size .u8 a ∧ Row8 wr (w.heap.size + 1) .u8 b ∧ Row8 wr (w.heap.size + 1 + 1) .u8 [0, 0, 0, 0, 0, 0, 0, 0] ∧ Row8 wr (w.heap.size + 1 + 1 + 1) .u8 (mapR k fun x => at8 b (at8 a x).toNat) ∧ Below w.heap.size w wr) (fun i _ => n - (intOf i).toNat)
 case atStart => exact ⟨0, Nat.zero_le _, rfl, RA.out, RB.out, RZ.out, RO.out, BB.out⟩
 case round =>
  obtain ⟨k, hk, rfl, hRA, hRB, hRZ, hRO, hBB⟩ := hrel
  clear RA RB RZ RO BB
  have RA := Lib.hid hRA
  have RB := Lib.hid hRB
  have RZ := Lib.hid hRZ
  have RO := Lib.hid hRO
  have BB := Lib.hid hBB
  clear hRA hRB hRZ hRO hBB
  have hst := mapR_step k (fun x => at8 b (at8 a x).toNat)
  by_cases hlt : k < n
  ·obtain ⟨o1, o2⟩ := HA.out k hlt
   obtain ⟨v, hv⟩ : ∃ v : Nat, at8 a k = (v : Int) := ⟨(at8 a k).toNat, by omega⟩
   have c1 := RA.out.cell k (by omega)
   rw [hv] at c1 o1 o2
   simp only [hv, Int.toNat_natCast] at hst
   have HST := Lib.hid hst
   clear hv hst
   have c2 := RB.out.cell v (by omega)
   have f2 := RO.out.free k (by omega)
   have c3 := RO.out.cell k (by omega)
   have z2 := RO.out.lt
   go_wp2
   go_round
   case rel =>
    refine ⟨k + 1, by omega, by go_num, RA.out.setCell (by first | (simp; done) | (simp; omega)) _, RB.out.setCell (by first | (simp; done) | (simp; omega)) _, RZ.out.setCell (by first | (simp; done) | (simp; omega)) _, ?_, BB.out.setCell (by first | (simp; done) | (simp; omega)) _⟩
    rw [← HST.out (by omega)]
    exact RO.out.store k (by omega) (at8 b v)
   case measure => simp [intOf]; omega
  ·clear hst
   have hkn : k = n := by omega
   subst hkn
   obtain ⟨⟨c0, c1, c2, c3⟩, c4, c5, c6, c7⟩ := RO.out.all
   obtain ⟨⟨d0, d1, d2, d3⟩, d4, d5, d6, d7⟩ := RZ.out.all
   obtain ⟨⟨f0, f1, f2, f3⟩, f4, f5, f6, f7⟩ := RZ.out.frees
   have zq := RZ.out.lt
   go_wp2
   obtain ⟨⟨e0, e1, e2, e3⟩, e4, e5, e6, e7⟩ := (RZ.out.fill (mapR k fun x => at8 b (at8 a x).toNat) RO.out.len).all
   refine bodyPost_ret (v := arr8 .u8 (mapR k fun x => at8 b (at8 a x).toNat)) (by simp [results, Try.results114, go_sem, e0, e1, e2, e3, e4, e5, e6, e7]) rfl ⟨rfl, ?_⟩
   exact below_fill8 BB.out _ (by omega) _ _ _ _ _ _ _ _

end Go.Proofs.Ytleoohplnkdbdab

