/- The walk of the law of MeetOfParts. -/
import Derived.Test.YthelncibpoijoaaLawPK
import Derived.Test.YthelncibpoijoaaEPMt
import Derived.Deep.RegionHeld3
import Derived.Deep.DeepCutAuto
namespace Go.Proofs.Ythelncibpoijoaa
open Go.RowKit Go.ChangeShapes

set_option maxRecDepth 100000 in
set_option maxHeartbeats 1000000 in
theorem fnExactMeetOfParts_walk {n : Int} {a b : List Int} {w : World} (la : a.length = 8) (ya : Bytes8 a) (lb : b.length = 8) (yb : Bytes8 b) (_hn : (Lit.int .i64 n).wf = true) :
    Calls Try.prog 5 #[arr8 .u8 a, arr8 .u8 b, .int .i64 n] w fun e w' => e = .returned (.bool true) ∧ Below w.heap.size w w' := by
  obtain ⟨r, c, hM⟩ : ∃ r c, mMeetOfParts n a b = (r, c) := ⟨_, _, rfl⟩
  have HM := Lib.hid hM
  clear hM
  have LA := Lib.hid la
  have YA := Lib.hid ya
  have LB := Lib.hid lb
  have YB := Lib.hid yb
  clear ya yb
  go_enter Try.func5, Try.ntmps5
  have RA := Lib.hid ((Row8.place w .u8 a 22 w.heap.size rfl la).alloc (.cells #[.int .u8 (at8 b 0), .int .u8 (at8 b 1), .int .u8 (at8 b 2), .int .u8 (at8 b 3), .int .u8 (at8 b 4), .int .u8 (at8 b 5), .int .u8 (at8 b 6), .int .u8 (at8 b 7)] 22))
  have RB := Lib.hid (Row8.place (w.alloc (.cells #[.int .u8 (at8 a 0), .int .u8 (at8 a 1), .int .u8 (at8 a 2), .int .u8 (at8 a 3), .int .u8 (at8 a 4), .int .u8 (at8 a 5), .int .u8 (at8 a 6), .int .u8 (at8 a 7)] 22)) .u8 b 22 (w.heap.size + 1) (by simp) lb)
  have BB := Lib.hid (below2 w (.cells #[.int .u8 (at8 a 0), .int .u8 (at8 a 1), .int .u8 (at8 a 2), .int .u8 (at8 a 3), .int .u8 (at8 a 4), .int .u8 (at8 a 5), .int .u8 (at8 a 6), .int .u8 (at8 a 7)] 22) (.cells #[.int .u8 (at8 b 0), .int .u8 (at8 b 1), .int .u8 (at8 b 2), .int .u8 (at8 b 3), .int .u8 (at8 b 4), .int .u8 (at8 b 5), .int .u8 (at8 b 6), .int .u8 (at8 b 7)] 22))
  clear la lb
  have HR : Hid (r.length = 8) := Lib.hid (mMeetOfParts_len LA.out HM.out)
  obtain ⟨W0, hW⟩ : ∃ W, W = ((w.alloc (.cells #[.int .u8 (at8 a 0), .int .u8 (at8 a 1), .int .u8 (at8 a 2), .int .u8 (at8 a 3), .int .u8 (at8 a 4), .int .u8 (at8 a 5), .int .u8 (at8 a 6), .int .u8 (at8 a 7)] 22)).alloc (.cells #[.int .u8 (at8 b 0), .int .u8 (at8 b 1), .int .u8 (at8 b 2), .int .u8 (at8 b 3), .int .u8 (at8 b 4), .int .u8 (at8 b 5), .int .u8 (at8 b 6), .int .u8 (at8 b 7)] 22)) := ⟨_, rfl⟩
  go_upto_region 1 with fail
  rw [← hW] at RA RB BB ⊢
  clear hW
  go_cut [7, 8] (fun s7 s8 wx => s8 = .int .i64 c ∧ LeftA W0 r s7 wx)
  case first =>
    have hbI : Below W0.heap.size W0 W0.drew := (Below.refl _ _).drew
    have hbJ : Below W0.heap.size W0 (W0.alloc (.cells #[.int .u8 0, .int .u8 0, .int .u8 0, .int .u8 0, .int .u8 0, .int .u8 0, .int .u8 0, .int .u8 0] 24)).drew := ((Below.refl _ _).alloc (Nat.le_refl _) _).drew
    have kJ : Row8 (W0.alloc (.cells #[.int .u8 0, .int .u8 0, .int .u8 0, .int .u8 0, .int .u8 0, .int .u8 0, .int .u8 0, .int .u8 0] 24)).drew W0.heap.size .u8 [0, 0, 0, 0, 0, 0, 0, 0] := (Row8.zeros _ .u8 24 _ rfl).drew
    have zJ : W0.heap.size ≤ W0.heap.size := Nat.le_refl _
    go_region_held3 (fun w' => (w'.cell? ⟨w.heap.size, 0, none⟩ = some (.int .u8 (at8 a 0)) ∧ w'.cell? ⟨w.heap.size, 1, none⟩ = some (.int .u8 (at8 a 1)) ∧ w'.cell? ⟨w.heap.size, 2, none⟩ = some (.int .u8 (at8 a 2)) ∧ w'.cell? ⟨w.heap.size, 3, none⟩ = some (.int .u8 (at8 a 3)) ∧ w'.cell? ⟨w.heap.size, 4, none⟩ = some (.int .u8 (at8 a 4)) ∧ w'.cell? ⟨w.heap.size, 5, none⟩ = some (.int .u8 (at8 a 5)) ∧ w'.cell? ⟨w.heap.size, 6, none⟩ = some (.int .u8 (at8 a 6)) ∧ w'.cell? ⟨w.heap.size, 7, none⟩ = some (.int .u8 (at8 a 7))) ∧ (w'.cell? ⟨w.heap.size + 1, 0, none⟩ = some (.int .u8 (at8 b 0)) ∧ w'.cell? ⟨w.heap.size + 1, 1, none⟩ = some (.int .u8 (at8 b 1)) ∧ w'.cell? ⟨w.heap.size + 1, 2, none⟩ = some (.int .u8 (at8 b 2)) ∧ w'.cell? ⟨w.heap.size + 1, 3, none⟩ = some (.int .u8 (at8 b 3)) ∧ w'.cell? ⟨w.heap.size + 1, 4, none⟩ = some (.int .u8 (at8 b 4)) ∧ w'.cell? ⟨w.heap.size + 1, 5, none⟩ = some (.int .u8 (at8 b 5)) ∧ w'.cell? ⟨w.heap.size + 1, 6, none⟩ = some (.int .u8 (at8 b 6)) ∧ w'.cell? ⟨w.heap.size + 1, 7, none⟩ = some (.int .u8 (at8 b 7))) ∧ Below W0.heap.size W0 w') (first | with_reducible exact hold8 RA.out RB.out hbK | with_reducible exact hold8 RA.out RB.out hbI | with_reducible exact hold8 RA.out RB.out (hbK.alloc hbK.size _) | with_reducible exact hold8 RA.out RB.out hbJ | with_reducible exact hold8 RA.out RB.out (below_fill8 hbK _ (by omega) _ _ _ _ _ _ _ _))
      (first
        | (go_at_call_of 14 (at8 a 0); refine (toPart_any a LA.out _).mono ?_; rintro e w1a ⟨rfl, h1a⟩; (first | with_reducible have kW := Lib.hid ((Row8.zeros _ .u8 24 _ rfl).below h1a) | with_reducible have kW := Lib.hid (kJ.below h1a) | with_reducible replace kW := Lib.hid (kW.out.below h1a) | skip); have hbK := below_go ‹(_ ∧ _) ∧ (_ ∧ _) ∧ Below _ _ _›.2.2 h1a ‹(_ ∧ _) ∧ (_ ∧ _) ∧ Below _ _ _›.2.2.size; have hzK := hbK.size)
        | (go_at_call_of 14 (at8 b 0); refine (toPart_any b LB.out _).mono ?_; rintro e w1b ⟨rfl, h1b⟩; (first | with_reducible have kW := Lib.hid ((Row8.zeros _ .u8 24 _ rfl).below h1b) | with_reducible have kW := Lib.hid (kJ.below h1b) | with_reducible replace kW := Lib.hid (kW.out.below h1b) | skip); have hbK := below_go ‹(_ ∧ _) ∧ (_ ∧ _) ∧ Below _ _ _›.2.2 h1b ‹(_ ∧ _) ∧ (_ ∧ _) ∧ Below _ _ _›.2.2.size; have hzK := hbK.size)
        | (go_at_call 18; refine (specMeetOfParts_any n a LA.out YA.out b LB.out YB.out r c HM.out _).mono ?_; rintro e w1c ⟨rfl, h1c⟩; (first | with_reducible have kW := Lib.hid ((Row8.zeros _ .u8 24 _ rfl).below h1c) | with_reducible have kW := Lib.hid (kJ.below h1c) | with_reducible replace kW := Lib.hid (kW.out.below h1c) | skip); have hbK := below_go ‹(_ ∧ _) ∧ (_ ∧ _) ∧ Below _ _ _›.2.2 h1c ‹(_ ∧ _) ∧ (_ ∧ _) ∧ Below _ _ _›.2.2.size; have hzK := hbK.size; (first | (obtain ⟨⟨d0, d1, d2, d3⟩, d4, d5, d6, d7⟩ := kW.out.all; obtain ⟨⟨f0, f1, f2, f3⟩, f4, f5, f6, f7⟩ := kW.out.frees; have zq := kW.out.lt) | skip)))
    all_goals
      go_wp2_with fail
      go_meet
      first
        | exact ⟨rfl, _, rfl, hbK.size, Row8.place _ .u8 r 24 _ rfl HR.out, hbK.alloc hbK.size _⟩
        | exact ⟨rfl, _, rfl, by omega, kW.out.fill r HR.out, below_fill8 hbK _ (by omega) _ _ _ _ _ _ _ _⟩
  case rest =>
    obtain ⟨X1, hwc⟩ : ∃ x, x = wc := ⟨_, rfl⟩; subst hwc
    obtain ⟨rfl, g1, rfl, hg1, hRW, hb⟩ := hcut
    replace RA := Lib.hid (RA.out.below hb)
    replace RB := Lib.hid (RB.out.below hb)
    replace BB := Lib.hid (below_go BB.out hb BB.out.size)
    have RW := Lib.hid hRW
    clear hRW hb
    go_upto_region 2 with fail
    go_cut [9, 10] (fun s7 s8 wx => s8 = .int .i64 c ∧ LeftA X1 r s7 wx)
    case first =>
      have hbI : Below X1.heap.size X1 X1.drew := (Below.refl _ _).drew
      have hbJ : Below X1.heap.size X1 (X1.alloc (.cells #[.int .u8 0, .int .u8 0, .int .u8 0, .int .u8 0, .int .u8 0, .int .u8 0, .int .u8 0, .int .u8 0] 24)).drew := ((Below.refl _ _).alloc (Nat.le_refl _) _).drew
      have kJ : Row8 (X1.alloc (.cells #[.int .u8 0, .int .u8 0, .int .u8 0, .int .u8 0, .int .u8 0, .int .u8 0, .int .u8 0, .int .u8 0] 24)).drew X1.heap.size .u8 [0, 0, 0, 0, 0, 0, 0, 0] := (Row8.zeros _ .u8 24 _ rfl).drew
      have zJ : X1.heap.size ≤ X1.heap.size := Nat.le_refl _
      go_region_held3 (fun w' => (w'.cell? ⟨w.heap.size, 0, none⟩ = some (.int .u8 (at8 a 0)) ∧ w'.cell? ⟨w.heap.size, 1, none⟩ = some (.int .u8 (at8 a 1)) ∧ w'.cell? ⟨w.heap.size, 2, none⟩ = some (.int .u8 (at8 a 2)) ∧ w'.cell? ⟨w.heap.size, 3, none⟩ = some (.int .u8 (at8 a 3)) ∧ w'.cell? ⟨w.heap.size, 4, none⟩ = some (.int .u8 (at8 a 4)) ∧ w'.cell? ⟨w.heap.size, 5, none⟩ = some (.int .u8 (at8 a 5)) ∧ w'.cell? ⟨w.heap.size, 6, none⟩ = some (.int .u8 (at8 a 6)) ∧ w'.cell? ⟨w.heap.size, 7, none⟩ = some (.int .u8 (at8 a 7))) ∧ (w'.cell? ⟨w.heap.size + 1, 0, none⟩ = some (.int .u8 (at8 b 0)) ∧ w'.cell? ⟨w.heap.size + 1, 1, none⟩ = some (.int .u8 (at8 b 1)) ∧ w'.cell? ⟨w.heap.size + 1, 2, none⟩ = some (.int .u8 (at8 b 2)) ∧ w'.cell? ⟨w.heap.size + 1, 3, none⟩ = some (.int .u8 (at8 b 3)) ∧ w'.cell? ⟨w.heap.size + 1, 4, none⟩ = some (.int .u8 (at8 b 4)) ∧ w'.cell? ⟨w.heap.size + 1, 5, none⟩ = some (.int .u8 (at8 b 5)) ∧ w'.cell? ⟨w.heap.size + 1, 6, none⟩ = some (.int .u8 (at8 b 6)) ∧ w'.cell? ⟨w.heap.size + 1, 7, none⟩ = some (.int .u8 (at8 b 7))) ∧ Below X1.heap.size X1 w') (first | with_reducible exact hold8 RA.out RB.out hbK | with_reducible exact hold8 RA.out RB.out hbI | with_reducible exact hold8 RA.out RB.out (hbK.alloc hbK.size _) | with_reducible exact hold8 RA.out RB.out hbJ | with_reducible exact hold8 RA.out RB.out (below_fill8 hbK _ (by omega) _ _ _ _ _ _ _ _))
        (first
          | (go_at_call_of 14 (at8 a 0); refine (toPart_any a LA.out _).mono ?_; rintro e w2a ⟨rfl, h2a⟩; (first | with_reducible have kW := Lib.hid ((Row8.zeros _ .u8 24 _ rfl).below h2a) | with_reducible have kW := Lib.hid (kJ.below h2a) | with_reducible replace kW := Lib.hid (kW.out.below h2a) | skip); have hbK := below_go ‹(_ ∧ _) ∧ (_ ∧ _) ∧ Below _ _ _›.2.2 h2a ‹(_ ∧ _) ∧ (_ ∧ _) ∧ Below _ _ _›.2.2.size; have hzK := hbK.size)
          | (go_at_call_of 14 (at8 b 0); refine (toPart_any b LB.out _).mono ?_; rintro e w2b ⟨rfl, h2b⟩; (first | with_reducible have kW := Lib.hid ((Row8.zeros _ .u8 24 _ rfl).below h2b) | with_reducible have kW := Lib.hid (kJ.below h2b) | with_reducible replace kW := Lib.hid (kW.out.below h2b) | skip); have hbK := below_go ‹(_ ∧ _) ∧ (_ ∧ _) ∧ Below _ _ _›.2.2 h2b ‹(_ ∧ _) ∧ (_ ∧ _) ∧ Below _ _ _›.2.2.size; have hzK := hbK.size)
          | (go_at_call 19; refine (implMeetOfParts_any n a LA.out YA.out b LB.out YB.out r c HM.out _).mono ?_; rintro e w2c ⟨rfl, h2c⟩; (first | with_reducible have kW := Lib.hid ((Row8.zeros _ .u8 24 _ rfl).below h2c) | with_reducible have kW := Lib.hid (kJ.below h2c) | with_reducible replace kW := Lib.hid (kW.out.below h2c) | skip); have hbK := below_go ‹(_ ∧ _) ∧ (_ ∧ _) ∧ Below _ _ _›.2.2 h2c ‹(_ ∧ _) ∧ (_ ∧ _) ∧ Below _ _ _›.2.2.size; have hzK := hbK.size; (first | (obtain ⟨⟨d0, d1, d2, d3⟩, d4, d5, d6, d7⟩ := kW.out.all; obtain ⟨⟨f0, f1, f2, f3⟩, f4, f5, f6, f7⟩ := kW.out.frees; have zq := kW.out.lt) | skip)))
      all_goals
        go_wp2_with fail
        go_meet
        first
          | exact ⟨rfl, _, rfl, hbK.size, Row8.place _ .u8 r 24 _ rfl HR.out, hbK.alloc hbK.size _⟩
          | exact ⟨rfl, _, rfl, by omega, kW.out.fill r HR.out, below_fill8 hbK _ (by omega) _ _ _ _ _ _ _ _⟩
    case rest =>
      obtain ⟨X2, hwc⟩ : ∃ x, x = wc := ⟨_, rfl⟩; subst hwc
      obtain ⟨rfl, g2, rfl, hg2, hRG, hb⟩ := hcut
      replace RA := Lib.hid (RA.out.below hb)
      replace RB := Lib.hid (RB.out.below hb)
      replace RW := Lib.hid (RW.out.below hb)
      replace BB := Lib.hid (below_go BB.out hb BB.out.size)
      have RG := Lib.hid hRG
      clear hRG hb
      have t1 : (c != c) = false := by simp
      obtain ⟨⟨qRG0, qRG1, qRG2, qRG3⟩, qRG4, qRG5, qRG6, qRG7⟩ := RG.out.all
      obtain ⟨⟨qRW0, qRW1, qRW2, qRW3⟩, qRW4, qRW5, qRW6, qRW7⟩ := RW.out.all
      go_wp2_with fail
      refine (eqPart_yes r HR.out _).mono ?_
      rintro e w2 ⟨rfl, hb⟩
      clear qRG0 qRG1 qRG2 qRG3 qRG4 qRG5 qRG6 qRG7 qRW0 qRW1 qRW2 qRW3 qRW4 qRW5 qRW6 qRW7
      replace RA := Lib.hid (RA.out.below hb)
      replace RB := Lib.hid (RB.out.below hb)
      replace RW := Lib.hid (RW.out.below hb)
      replace RG := Lib.hid (RG.out.below hb)
      replace BB := Lib.hid (below_go BB.out hb BB.out.size)
      clear hb
      go_wp2
      go_ret
      exact ⟨rfl, BB.out⟩

end Go.Proofs.Ythelncibpoijoaa
