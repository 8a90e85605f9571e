/- The model: the whole partition, complements. -/
import Derived.Test.YtlgipimjhfmilaaPSRow
import Derived.Test.YtlgipimjhfmilaaQB
import Derived.Test.YtlgipimjhfmilaaQA
namespace Go.Proofs.Ytlgipimjhfmilaa
open Go.RowKit Go.ChangeShapes

set_option maxRecDepth 100000 in
set_option maxHeartbeats 1000000 in
theorem l07Whole_any (n : Nat) (h1 : 1 ≤ n) (h8 : n ≤ 8) (w : World) :
    Calls Try.prog 56 #[.int .i64 n] w (RetArr .u8 w (wholeR n)) := by
  go_enter Try.func56, Try.ntmps56
  have RZ := Lib.hid ((Row8.zeros w .u8 59 w.heap.size rfl).alloc (.cells #[.int .u8 0, .int .u8 0, .int .u8 0, .int .u8 0, .int .u8 0, .int .u8 0, .int .u8 0, .int .u8 0] 59))
  have RO := Lib.hid (Row8.zeros (w.alloc (.cells #[.int .u8 0, .int .u8 0, .int .u8 0, .int .u8 0, .int .u8 0, .int .u8 0, .int .u8 0, .int .u8 0] 59)) .u8 59 (w.heap.size + 1) (by simp))
  have BB := Lib.hid (below2 w (.cells #[.int .u8 0, .int .u8 0, .int .u8 0, .int .u8 0, .int .u8 0, .int .u8 0, .int .u8 0, .int .u8 0] 59) (.cells #[.int .u8 0, .int .u8 0, .int .u8 0, .int .u8 0, .int .u8 0, .int .u8 0, .int .u8 0, .int .u8 0] 59))
  go_wp2
  go_loopw [4] (fun i wr => ∃ k : Nat, k ≤ n ∧ i = .int .i64 k ∧ Row8 wr w.heap.size .u8 [0, 0, 0, 0, 0, 0, 0, 0] ∧ Row8 wr (w.heap.size + 1) .u8 (mapR k fun x => ((x : Int) + 1) % (n : Int)) ∧ Below w.heap.size w wr) (fun i _ => n - (intOf i).toNat)
  case atStart => exact ⟨0, Nat.zero_le _, rfl, RZ.out, RO.out, BB.out⟩
  case round =>
    obtain ⟨k, hk, rfl, hRZ, hRO, hBB⟩ := hrel
    clear RZ RO BB
    have RZ := Lib.hid hRZ
    have RO := Lib.hid hRO
    have BB := Lib.hid hBB
    clear hRZ hRO hBB
    have HST := Lib.hid (mapR_step k (fun x => ((x : Int) + 1) % (n : Int)))
    by_cases hlt : k < n
    · have f2 := RO.out.free k (by omega)
      have c3 := RO.out.cell k (by omega)
      have z2 := RO.out.lt
      have b1 : (0 : Int) ≤ ((k : Int) + 1) % (n : Int) := Int.emod_nonneg _ (by omega)
      have b2 : ((k : Int) + 1) % (n : Int) < 8 := by have := Int.emod_lt_of_pos ((k : Int) + 1) (show (n : Int) > 0 by omega); omega
      have b3 : ((k : Int) + 1).tmod n = ((k : Int) + 1) % (n : Int) := Int.tmod_eq_emod_of_nonneg (by omega)
      have b4 : ((n : Int) == 0) = false := by rw [beq_eq_false_iff_ne]; omega
      go_wp2
      go_round
      case rel =>
        refine ⟨k + 1, by omega, by go_num, RZ.out.setCell (by first | (simp; done) | (simp; omega)) _, ?_, BB.out.setCell (by first | (simp; done) | (simp; omega)) _⟩
        rw [← HST.out (by omega)]
        exact RO.out.store k (by omega) (((k : Int) + 1) % (n : Int))
      case measure => simp [intOf]; omega
    · have hkn : k = n := by omega
      subst hkn
      obtain ⟨⟨c0, c1, c2, c3⟩, c4, c5, c6, c7⟩ := RO.out.all
      obtain ⟨⟨d0, d1, d2, d3⟩, d4, d5, d6, d7⟩ := RZ.out.all
      obtain ⟨⟨f0, f1, f2, f3⟩, f4, f5, f6, f7⟩ := RZ.out.frees
      have zq := RZ.out.lt
      go_wp2
      obtain ⟨⟨e0, e1, e2, e3⟩, e4, e5, e6, e7⟩ := (RZ.out.fill (mapR k fun x => ((x : Int) + 1) % (k : Int)) RO.out.len).all
      refine bodyPost_ret (v := arr8 .u8 (mapR k fun x => ((x : Int) + 1) % (k : Int))) (by simp [results, Try.results56, go_sem, e0, e1, e2, e3, e4, e5, e6, e7]) rfl ⟨rfl, ?_⟩
      exact below_fill8 BB.out _ (by omega) _ _ _ _ _ _ _ _

set_option maxRecDepth 100000 in
set_option maxHeartbeats 1000000 in
theorem l07Complement_any (n : Nat) (p : List Int) (hp : Sim n p) (w : World) :
    Calls Try.prog 76 #[arr8 .u8 p, .int .i64 n] w (RetArr .u8 w (compP n p)) := by
  have h1 := hp.lo
  have h8 := hp.hi
  have lp := hp.len
  have HP := Lib.hid hp
  clear hp
  go_enter Try.func76, Try.ntmps76
  have RA := Lib.hid ((Row8.place w .u8 p 59 w.heap.size rfl lp).alloc (.cells #[.int .u8 0, .int .u8 0, .int .u8 0, .int .u8 0, .int .u8 0, .int .u8 0, .int .u8 0, .int .u8 0] 59))
  have RZ := Lib.hid (Row8.zeros (w.alloc (.cells #[.int .u8 (at8 p 0), .int .u8 (at8 p 1), .int .u8 (at8 p 2), .int .u8 (at8 p 3), .int .u8 (at8 p 4), .int .u8 (at8 p 5), .int .u8 (at8 p 6), .int .u8 (at8 p 7)] 59)) .u8 59 (w.heap.size + 1) (by simp))
  have BB := Lib.hid (below2 w (.cells #[.int .u8 (at8 p 0), .int .u8 (at8 p 1), .int .u8 (at8 p 2), .int .u8 (at8 p 3), .int .u8 (at8 p 4), .int .u8 (at8 p 5), .int .u8 (at8 p 6), .int .u8 (at8 p 7)] 59) (.cells #[.int .u8 0, .int .u8 0, .int .u8 0, .int .u8 0, .int .u8 0, .int .u8 0, .int .u8 0, .int .u8 0] 59))
  obtain ⟨⟨qRA0, qRA1, qRA2, qRA3⟩, qRA4, qRA5, qRA6, qRA7⟩ := RA.out.all
  go_wp2_with fail
  refine (l07Back_any n p HP.out _).mono ?_
  rintro e w2 ⟨rfl, hb⟩
  clear qRA0 qRA1 qRA2 qRA3 qRA4 qRA5 qRA6 qRA7
  replace RA := Lib.hid (RA.out.below hb)
  replace RZ := Lib.hid (RZ.out.below hb)
  replace BB := Lib.hid (below_go BB.out hb BB.out.size)
  clear hb
  obtain ⟨⟨qRA0, qRA1, qRA2, qRA3⟩, qRA4, qRA5, qRA6, qRA7⟩ := RA.out.all
  go_wp2_with fail
  refine (l07Whole_any n h1 h8 _).mono ?_
  rintro e w4 ⟨rfl, hb⟩
  clear qRA0 qRA1 qRA2 qRA3 qRA4 qRA5 qRA6 qRA7
  replace RA := Lib.hid (RA.out.below hb)
  replace RZ := Lib.hid (RZ.out.below hb)
  replace BB := Lib.hid (below_go BB.out hb BB.out.size)
  clear hb
  obtain ⟨⟨qRA0, qRA1, qRA2, qRA3⟩, qRA4, qRA5, qRA6, qRA7⟩ := RA.out.all
  go_wp2_with fail
  refine (l07Then_any n h8 (backR n p) (wholeR n) (mapR_len _ _ h8) (mapR_len _ _ h8) (backR_sim HP.out).wide _).mono ?_
  rintro e w6 ⟨rfl, hb⟩
  clear qRA0 qRA1 qRA2 qRA3 qRA4 qRA5 qRA6 qRA7
  replace RA := Lib.hid (RA.out.below hb)
  replace RZ := Lib.hid (RZ.out.below hb)
  replace BB := Lib.hid (below_go BB.out hb BB.out.size)
  clear hb
  obtain ⟨⟨d0, d1, d2, d3⟩, d4, d5, d6, d7⟩ := RZ.out.all
  obtain ⟨⟨f0, f1, f2, f3⟩, f4, f5, f6, f7⟩ := RZ.out.frees
  have zq := RZ.out.lt
  go_wp2
  obtain ⟨⟨e0, e1, e2, e3⟩, e4, e5, e6, e7⟩ := (RZ.out.fill (thenR n (backR n p) (wholeR n)) (mapR_len _ _ h8)).all
  refine bodyPost_ret (v := arr8 .u8 (thenR n (backR n p) (wholeR n))) (by simp [results, Try.results76, go_sem, e0, e1, e2, e3, e4, e5, e6, e7]) rfl ⟨rfl, ?_⟩
  exact below_fill8 BB.out _ (by omega) _ _ _ _ _ _ _ _

end Go.Proofs.Ytlgipimjhfmilaa
