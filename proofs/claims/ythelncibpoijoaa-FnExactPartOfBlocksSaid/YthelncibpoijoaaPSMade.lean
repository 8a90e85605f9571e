/- The model: the part of a division; crossings. -/
import Derived.Test.YthelncibpoijoaaPSLst
import Derived.Test.YthelncibpoijoaaQB
namespace Go.Proofs.Ythelncibpoijoaa
open Go.RowKit Go.ChangeShapes

set_option maxRecDepth 100000 in
set_option maxHeartbeats 1000000 in
theorem l07Made_any (n : Nat) (h8 : n ≤ 8) (L : List Int) (lL : L.length = 8) (hL : ∀ j, j < n → 0 ≤ at8 L j ∧ at8 L j < 8) (w : World) :
    Calls Try.prog 71 #[arr8 .i64 L, .int .i64 n] w (RetArr .u8 w (madeR n L)) := by
  have HL := Lib.hid hL
  clear hL
  go_enter Try.func71, Try.ntmps71
  have RA := Lib.hid (((Row8.place w .i64 L 67 w.heap.size rfl lL).alloc (.cells #[.int .u8 0, .int .u8 0, .int .u8 0, .int .u8 0, .int .u8 0, .int .u8 0, .int .u8 0, .int .u8 0] 24)).alloc (.cells #[.int .u8 0, .int .u8 0, .int .u8 0, .int .u8 0, .int .u8 0, .int .u8 0, .int .u8 0, .int .u8 0] 24))
  have RZ := Lib.hid ((Row8.zeros (w.alloc (.cells #[.int .i64 (at8 L 0), .int .i64 (at8 L 1), .int .i64 (at8 L 2), .int .i64 (at8 L 3), .int .i64 (at8 L 4), .int .i64 (at8 L 5), .int .i64 (at8 L 6), .int .i64 (at8 L 7)] 67)) .u8 24 (w.heap.size + 1) (by simp)).alloc (.cells #[.int .u8 0, .int .u8 0, .int .u8 0, .int .u8 0, .int .u8 0, .int .u8 0, .int .u8 0, .int .u8 0] 24))
  have RO := Lib.hid (Row8.zeros ((w.alloc (.cells #[.int .i64 (at8 L 0), .int .i64 (at8 L 1), .int .i64 (at8 L 2), .int .i64 (at8 L 3), .int .i64 (at8 L 4), .int .i64 (at8 L 5), .int .i64 (at8 L 6), .int .i64 (at8 L 7)] 67)).alloc (.cells #[.int .u8 0, .int .u8 0, .int .u8 0, .int .u8 0, .int .u8 0, .int .u8 0, .int .u8 0, .int .u8 0] 24)) .u8 24 (w.heap.size + 1 + 1) (by simp))
  have BB := Lib.hid (below3 w (.cells #[.int .i64 (at8 L 0), .int .i64 (at8 L 1), .int .i64 (at8 L 2), .int .i64 (at8 L 3), .int .i64 (at8 L 4), .int .i64 (at8 L 5), .int .i64 (at8 L 6), .int .i64 (at8 L 7)] 67) (.cells #[.int .u8 0, .int .u8 0, .int .u8 0, .int .u8 0, .int .u8 0, .int .u8 0, .int .u8 0, .int .u8 0] 24) (.cells #[.int .u8 0, .int .u8 0, .int .u8 0, .int .u8 0, .int .u8 0, .int .u8 0, .int .u8 0, .int .u8 0] 24))
  clear lL
  obtain ⟨W, hW⟩ : ∃ W, W = (((w.alloc (.cells #[.int .i64 (at8 L 0), .int .i64 (at8 L 1), .int .i64 (at8 L 2), .int .i64 (at8 L 3), .int .i64 (at8 L 4), .int .i64 (at8 L 5), .int .i64 (at8 L 6), .int .i64 (at8 L 7)] 67)).alloc (.cells #[.int .u8 0, .int .u8 0, .int .u8 0, .int .u8 0, .int .u8 0, .int .u8 0, .int .u8 0, .int .u8 0] 24)).alloc (.cells #[.int .u8 0, .int .u8 0, .int .u8 0, .int .u8 0, .int .u8 0, .int .u8 0, .int .u8 0, .int .u8 0] 24)) := ⟨_, rfl⟩
  go_wp2
  rw [← hW] at RA RZ RO BB ⊢
  clear hW
  go_loopw [6] (fun i wr => ∃ x : Nat, x ≤ n ∧ i = .int .i64 x ∧ Row8 wr w.heap.size .i64 L ∧ Row8 wr (w.heap.size + 1) .u8 [0, 0, 0, 0, 0, 0, 0, 0] ∧ Row8 wr (w.heap.size + 1 + 1) .u8 (mapR x fun z => ((mdN (nx L) n z : Nat) : Int)) ∧ Below w.heap.size w wr) (fun i _ => n - (intOf i).toNat)
  case atStart => exact ⟨0, Nat.zero_le _, rfl, RA.out, RZ.out, RO.out, BB.out⟩
  case round =>
    obtain ⟨x, hx, rfl, hRA, hRZ, hRO, hBB⟩ := hrel
    clear RA RZ RO BB
    have RA := Lib.hid hRA
    have RZ := Lib.hid hRZ
    have RO := Lib.hid hRO
    have BB := Lib.hid hBB
    clear hRA hRZ hRO hBB
    by_cases hlt : x < n
    · obtain ⟨l1, l2⟩ := HL.out x hlt
      have c1 := RA.out.cell x (by omega)
      have c2 := RO.out.cell x (by omega)
      have f2 := RO.out.free x (by omega)
      have z2 := RO.out.lt
      have HX : Hid (at8 L x = (nx L x : Nat)) := Lib.hid (by unfold nx; omega)
      obtain ⟨v, hv⟩ : ∃ v, v = nx L x := ⟨_, rfl⟩
      rw [HX.out, ← hv] at c1 l1 l2
      have HV := Lib.hid hv
      clear hv
      go_wp2
      go_loopw [7] (fun i wr => ∃ y : Nat, x ≤ y ∧ y < n ∧ i = .int .i64 y ∧ Row8 wr w.heap.size .i64 L ∧ Row8 wr (w.heap.size + 1) .u8 [0, 0, 0, 0, 0, 0, 0, 0] ∧ Row8 wr (w.heap.size + 1 + 1) .u8 ((mapR x fun z => ((mdN (nx L) n z : Nat) : Int)).set x ((upN (nx L) x (n - 1 - y) (y + 1) : Nat) : Int)) ∧ Below w.heap.size w wr) (fun i _ => (intOf i).toNat)
      case atStart =>
        refine ⟨n - 1, by omega, by omega, by go_num, RA.out.setCell (by first | (simp; done) | (simp; omega)) _, RZ.out.setCell (by first | (simp; done) | (simp; omega)) _, ?_, BB.out.setCell (by first | (simp; done) | (simp; omega)) _⟩
        rw [show n - 1 - (n - 1) = 0 by omega, show upN (nx L) x 0 (n - 1 + 1) = v from HV.out.symm]
        exact RO.out.store x (by omega) v
      case round =>
        obtain ⟨y, hy1, hy2, rfl, hRA, hRZ, hRO, hBB⟩ := hrel
        clear c1 c2 f2 z2
        clear RA RZ RO BB
        have RA := Lib.hid hRA
        have RZ := Lib.hid hRZ
        have RO := Lib.hid hRO
        have BB := Lib.hid hBB
        clear hRA hRZ hRO hBB
        by_cases hyx : x < y
        · obtain ⟨m1, m2⟩ := HL.out y hy2
          have c1 := RA.out.cell x (by omega)
          have c3 := RA.out.cell y (by omega)
          have HY : Hid (at8 L y = (nx L y : Nat)) := Lib.hid (by unfold nx; omega)
          obtain ⟨u, hu⟩ : ∃ u, u = nx L y := ⟨_, rfl⟩
          rw [HX.out, ← HV.out] at c1
          rw [HY.out, ← hu] at c3
          have HU := Lib.hid hu
          clear hu m1 m2
          have HST := Lib.hid (upN_step (nx L) x (n - 1 - y) y)
          rw [← HV.out, ← HU.out] at HST
          have he : n - 1 - (y - 1) = n - 1 - y + 1 := by omega
          have he2 : y - 1 + 1 = y := by omega
          have HE := Lib.hid he
          have HE2 := Lib.hid he2
          clear he he2
          by_cases hd : u = v
          · have t1 : ((u : Int) == (v : Int)) = true := by simp [hd]
            have HD := Lib.hid hd
            clear hd
            go_wp2
            go_quiet (fail)
            have hb := below_draws wr.heap.size wr nq
            have RO2 := Lib.hid (RO.out.below hb)
            have RA2 := Lib.hid (RA.out.below hb)
            have RZ2 := Lib.hid (RZ.out.below hb)
            have BB2 := Lib.hid (below_go BB.out hb BB.out.size)
            clear hb
            have c4 := RO2.out.cell x (by omega)
            have f4 := RO2.out.free x (by omega)
            have z4 := RO2.out.lt
            go_wp2
            go_roundw
            case rel =>
              refine ⟨y - 1, by omega, by omega, by go_num, RA2.out.setCell (by first | (simp; done) | (simp; omega)) _, RZ2.out.setCell (by first | (simp; done) | (simp; omega)) _, ?_, BB2.out.setCell (by first | (simp; done) | (simp; omega)) _⟩
              rw [HE.out, HE2.out, HST.out, if_pos HD.out]
              have := RO2.out.store x (by omega) y
              rwa [List.set_set] at this
            case measure => simp [intOf]; omega
          · have t1 : ((u : Int) == (v : Int)) = false := by rw [beq_eq_false_iff_ne]; omega
            have HD := Lib.hid hd
            clear hd
            go_wp2
            go_quiet (fail)
            go_wp2
            go_roundw
            case rel =>
              have hb := below_draws wr.heap.size wr nq
              refine ⟨y - 1, by omega, by omega, by go_num, RA.out.below hb, RZ.out.below hb, ?_, below_go BB.out hb BB.out.size⟩
              rw [HE.out, HE2.out, HST.out, if_neg HD.out]
              exact RO.out.below hb
            case measure => simp [intOf]; omega
        · have hyx2 : y = x := by omega
          subst hyx2
          go_wp2
          go_roundw
          case rel =>
            refine ⟨y + 1, by omega, by go_num, RA.out, RZ.out, ?_, BB.out⟩
            rw [← mapR_step y _ (by omega)]
            exact RO.out
          case measure => simp [intOf]; omega
    · have hkn : x = n := by omega
      subst hkn
      obtain ⟨⟨c0, c1, c2, c3⟩, c4, c5, c6, c7⟩ := RO.out.all
      obtain ⟨⟨d0, d1, d2, d3⟩, d4, d5, d6, d7⟩ := RZ.out.all
      obtain ⟨⟨f0, f1, f2, f3⟩, f4, f5, f6, f7⟩ := RZ.out.frees
      have zq := RZ.out.lt
      go_wp2
      obtain ⟨⟨e0, e1, e2, e3⟩, e4, e5, e6, e7⟩ := (RZ.out.fill (mapR x fun z => ((mdN (nx L) x z : Nat) : Int)) RO.out.len).all
      refine bodyPost_ret (v := arr8 .u8 (mapR x fun z => ((mdN (nx L) x z : Nat) : Int))) (by simp [results, Try.results71, go_sem, e0, e1, e2, e3, e4, e5, e6, e7]) rfl ⟨rfl, ?_⟩
      exact below_fill8 BB.out _ (by omega) _ _ _ _ _ _ _ _

end Go.Proofs.Ythelncibpoijoaa
