/- JoinOfParts: the model's answer, the program's. -/
import Derived.Test.YthelncibpoijoaaEPMt
import Derived.Test.YthelncibpoijoaaPSWhl
import Derived.Test.YthelncibpoijoaaPIReg
import Derived.Test.YthelncibpoijoaaPtT
import Derived.Test.YthelncibpoijoaaLawPK
import Derived.Deep.RegionHeld3
import Derived.Deep.DeepCutAuto
namespace Go.Proofs.Ythelncibpoijoaa
open Go.RowKit Go.ChangeShapes

set_option maxRecDepth 100000 in
set_option maxHeartbeats 1000000 in
theorem pJoin_any (n : Nat) (p q : List Int) (hp : Sim n p) (hq : Sim n q) (hasc : ∀ x, x < n → mdN (lstN n (compP n p)) n x = nx (compP n p) x) (w : World) :
    Calls Try.prog 57 #[arr8 .u8 p, arr8 .u8 q, .int .i64 n] w (RetArr .u8 w (leftP n (meetP n (compP n p) (compP n q)))) := by
  have h1 := hp.lo
  have h8 := hp.hi
  have lp := hp.len
  have lq := hq.len
  have HP := Lib.hid hp
  have HQ := Lib.hid hq
  have HA := Lib.hid hasc
  have CP := Lib.hid (compP_sim hp)
  have CQ := Lib.hid (compP_sim hq)
  have MS := Lib.hid (meetP_sim (q := compP n q) CP.out)
  clear hp hq hasc
  go_enter Try.func57, Try.ntmps57
  have RA := Lib.hid (((Row8.place w .u8 p 24 w.heap.size rfl lp).alloc (.cells #[.int .u8 (at8 q 0), .int .u8 (at8 q 1), .int .u8 (at8 q 2), .int .u8 (at8 q 3), .int .u8 (at8 q 4), .int .u8 (at8 q 5), .int .u8 (at8 q 6), .int .u8 (at8 q 7)] 24)).alloc (.cells #[.int .u8 0, .int .u8 0, .int .u8 0, .int .u8 0, .int .u8 0, .int .u8 0, .int .u8 0, .int .u8 0] 24))
  have RB := Lib.hid ((Row8.place (w.alloc (.cells #[.int .u8 (at8 p 0), .int .u8 (at8 p 1), .int .u8 (at8 p 2), .int .u8 (at8 p 3), .int .u8 (at8 p 4), .int .u8 (at8 p 5), .int .u8 (at8 p 6), .int .u8 (at8 p 7)] 24)) .u8 q 24 (w.heap.size + 1) (by simp) lq).alloc (.cells #[.int .u8 0, .int .u8 0, .int .u8 0, .int .u8 0, .int .u8 0, .int .u8 0, .int .u8 0, .int .u8 0] 24))
  have RZ := Lib.hid (Row8.zeros ((w.alloc (.cells #[.int .u8 (at8 p 0), .int .u8 (at8 p 1), .int .u8 (at8 p 2), .int .u8 (at8 p 3), .int .u8 (at8 p 4), .int .u8 (at8 p 5), .int .u8 (at8 p 6), .int .u8 (at8 p 7)] 24)).alloc (.cells #[.int .u8 (at8 q 0), .int .u8 (at8 q 1), .int .u8 (at8 q 2), .int .u8 (at8 q 3), .int .u8 (at8 q 4), .int .u8 (at8 q 5), .int .u8 (at8 q 6), .int .u8 (at8 q 7)] 24)) .u8 24 (w.heap.size + 1 + 1) (by simp))
  have BB := Lib.hid (below3 w (.cells #[.int .u8 (at8 p 0), .int .u8 (at8 p 1), .int .u8 (at8 p 2), .int .u8 (at8 p 3), .int .u8 (at8 p 4), .int .u8 (at8 p 5), .int .u8 (at8 p 6), .int .u8 (at8 p 7)] 24) (.cells #[.int .u8 (at8 q 0), .int .u8 (at8 q 1), .int .u8 (at8 q 2), .int .u8 (at8 q 3), .int .u8 (at8 q 4), .int .u8 (at8 q 5), .int .u8 (at8 q 6), .int .u8 (at8 q 7)] 24) (.cells #[.int .u8 0, .int .u8 0, .int .u8 0, .int .u8 0, .int .u8 0, .int .u8 0, .int .u8 0, .int .u8 0] 24))
  obtain ⟨W, hW⟩ : ∃ W, W = (((w.alloc (.cells #[.int .u8 (at8 p 0), .int .u8 (at8 p 1), .int .u8 (at8 p 2), .int .u8 (at8 p 3), .int .u8 (at8 p 4), .int .u8 (at8 p 5), .int .u8 (at8 p 6), .int .u8 (at8 p 7)] 24)).alloc (.cells #[.int .u8 (at8 q 0), .int .u8 (at8 q 1), .int .u8 (at8 q 2), .int .u8 (at8 q 3), .int .u8 (at8 q 4), .int .u8 (at8 q 5), .int .u8 (at8 q 6), .int .u8 (at8 q 7)] 24)).alloc (.cells #[.int .u8 0, .int .u8 0, .int .u8 0, .int .u8 0, .int .u8 0, .int .u8 0, .int .u8 0, .int .u8 0] 24)) := ⟨_, rfl⟩
  go_upto_region 1 with fail
  rw [← hW] at RA RB RZ BB ⊢
  clear hW
  replace RA := Lib.hid RA.out.drew
  replace RB := Lib.hid RB.out.drew
  replace RZ := Lib.hid RZ.out.drew
  replace BB := Lib.hid BB.out.drew
  go_region_held3 (fun w' => (w'.cell? ⟨w.heap.size, 0, none⟩ = some (.int .u8 (at8 p 0)) ∧ w'.cell? ⟨w.heap.size, 1, none⟩ = some (.int .u8 (at8 p 1)) ∧ w'.cell? ⟨w.heap.size, 2, none⟩ = some (.int .u8 (at8 p 2)) ∧ w'.cell? ⟨w.heap.size, 3, none⟩ = some (.int .u8 (at8 p 3)) ∧ w'.cell? ⟨w.heap.size, 4, none⟩ = some (.int .u8 (at8 p 4)) ∧ w'.cell? ⟨w.heap.size, 5, none⟩ = some (.int .u8 (at8 p 5)) ∧ w'.cell? ⟨w.heap.size, 6, none⟩ = some (.int .u8 (at8 p 6)) ∧ w'.cell? ⟨w.heap.size, 7, none⟩ = some (.int .u8 (at8 p 7))) ∧ (w'.cell? ⟨w.heap.size + 1, 0, none⟩ = some (.int .u8 (at8 q 0)) ∧ w'.cell? ⟨w.heap.size + 1, 1, none⟩ = some (.int .u8 (at8 q 1)) ∧ w'.cell? ⟨w.heap.size + 1, 2, none⟩ = some (.int .u8 (at8 q 2)) ∧ w'.cell? ⟨w.heap.size + 1, 3, none⟩ = some (.int .u8 (at8 q 3)) ∧ w'.cell? ⟨w.heap.size + 1, 4, none⟩ = some (.int .u8 (at8 q 4)) ∧ w'.cell? ⟨w.heap.size + 1, 5, none⟩ = some (.int .u8 (at8 q 5)) ∧ w'.cell? ⟨w.heap.size + 1, 6, none⟩ = some (.int .u8 (at8 q 6)) ∧ w'.cell? ⟨w.heap.size + 1, 7, none⟩ = some (.int .u8 (at8 q 7)))) (first | with_reducible exact ⟨RA.out.flat, RB.out.flat⟩ | with_reducible exact ⟨(RA.out.past (w.heap.size + 1 + 1) (by omega) _ _ _ _ _ _ _ _).flat, (RB.out.past (w.heap.size + 1 + 1) (by omega) _ _ _ _ _ _ _ _).flat⟩)
    (first
      | (go_at_call_of 46 (at8 p 0); refine (pComp_any n p HP.out _).mono ?_; rintro e w1 ⟨rfl, g1⟩; replace RA := Lib.hid (RA.out.below g1); replace RB := Lib.hid (RB.out.below g1); replace RZ := Lib.hid (RZ.out.below g1); replace BB := Lib.hid (below_go BB.out g1 BB.out.size))
      | (go_at_call_of 46 (at8 q 0); refine (pComp_any n q HQ.out _).mono ?_; rintro e w2 ⟨rfl, g2⟩; replace RA := Lib.hid (RA.out.below g2); replace RB := Lib.hid (RB.out.below g2); replace RZ := Lib.hid (RZ.out.below g2); replace BB := Lib.hid (below_go BB.out g2 BB.out.size))
      | (go_at_call 52; refine (pMeet_any n (compP n p) (compP n q) CP.out CQ.out HA.out _).mono ?_; rintro e w3 ⟨rfl, g3⟩; replace RA := Lib.hid (RA.out.below g3); replace RB := Lib.hid (RB.out.below g3); replace RZ := Lib.hid (RZ.out.below g3); replace BB := Lib.hid (below_go BB.out g3 BB.out.size))
      | (go_at_call 85; refine (pLeft_any n (meetP n (compP n p) (compP n q)) MS.out _).mono ?_; rintro e w4 ⟨rfl, g4⟩; replace RA := Lib.hid (RA.out.below g4); replace RB := Lib.hid (RB.out.below g4); replace RZ := Lib.hid (RZ.out.below g4); replace BB := Lib.hid (below_go BB.out g4 BB.out.size); obtain ⟨⟨d0, d1, d2, d3⟩, d4, d5, d6, d7⟩ := RZ.out.all; obtain ⟨⟨f0, f1, f2, f3⟩, f4, f5, f6, f7⟩ := RZ.out.frees; have zq := RZ.out.lt))
  all_goals
    clear d0 d1 d2 d3 d4 d5 d6 d7 f0 f1 f2 f3 f4 f5 f6 f7
    go_wp2
    obtain ⟨⟨e0, e1, e2, e3⟩, e4, e5, e6, e7⟩ := (RZ.out.fill (leftP n (meetP n (compP n p) (compP n q))) (mapR_len _ _ h8)).all
    refine bodyPost_ret (v := arr8 .u8 (leftP n (meetP n (compP n p) (compP n q)))) (by simp [results, Try.results57, go_sem, e0, e1, e2, e3, e4, e5, e6, e7]) rfl ⟨rfl, ?_⟩
    exact below_fill8 BB.out _ (by omega) _ _ _ _ _ _ _ _

/-- What JoinOfParts gives. -/
noncomputable def mJoinOfParts (n : Int) (a b : List Int) : List Int × Int := if (isPt n a && isPt n b) = true then (leftP n.toNat (meetP n.toNat (compP n.toNat a) (compP n.toNat b)), 0) else (zeros8, 1)

theorem mJoinOfParts_len {n : Int} {a b : List Int} {r : List Int} {c : Int} (la : a.length = 8) (h : mJoinOfParts n a b = (r, c)) : r.length = 8 := by
  unfold mJoinOfParts at h
  split at h
  · rename_i hs
    obtain ⟨rfl, rfl⟩ := Prod.mk.inj h
    have hs := ((Bool.and_eq_true _ _).mp hs).1
    obtain ⟨k, rfl, hk⟩ := isPt_sim la hs
    refine mapR_len _ _ ?_
    rw [Int.toNat_natCast]
    exact hk.hi
  · obtain ⟨rfl, rfl⟩ := Prod.mk.inj h
    rfl

set_option maxRecDepth 100000 in
set_option maxHeartbeats 1000000 in
theorem specJoinOfParts_no1 (n : Int) (a : List Int) (la : a.length = 8) (ya : Bytes8 a) (b : List Int) (lb : b.length = 8) (yb : Bytes8 b) (HA : Hid (isPt n a = false)) (w : World) :
    Calls Try.prog 21 #[arr8 .u8 a, arr8 .u8 b, .int .i64 n] w (fun e w' => e = .returned (.tuple #[arr8 .u8 (zeros8), .int .i64 1]) ∧ Below w.heap.size w w') := by
  have LA := Lib.hid la
  have YA := Lib.hid ya
  clear ya
  have LB := Lib.hid lb
  have YB := Lib.hid yb
  clear yb
  go_enter Try.func21, Try.ntmps21
  have RA := Lib.hid (((Row8.place w .u8 a 24 w.heap.size rfl la).alloc (.cells #[.int .u8 (at8 b 0), .int .u8 (at8 b 1), .int .u8 (at8 b 2), .int .u8 (at8 b 3), .int .u8 (at8 b 4), .int .u8 (at8 b 5), .int .u8 (at8 b 6), .int .u8 (at8 b 7)] 24)).alloc (.cells #[.int .u8 0, .int .u8 0, .int .u8 0, .int .u8 0, .int .u8 0, .int .u8 0, .int .u8 0, .int .u8 0] 24))
  have RB := Lib.hid ((Row8.place (w.alloc (.cells #[.int .u8 (at8 a 0), .int .u8 (at8 a 1), .int .u8 (at8 a 2), .int .u8 (at8 a 3), .int .u8 (at8 a 4), .int .u8 (at8 a 5), .int .u8 (at8 a 6), .int .u8 (at8 a 7)] 24)) .u8 b 24 (w.heap.size + 1) (by simp) lb).alloc (.cells #[.int .u8 0, .int .u8 0, .int .u8 0, .int .u8 0, .int .u8 0, .int .u8 0, .int .u8 0, .int .u8 0] 24))
  have RZ := Lib.hid (Row8.zeros ((w.alloc (.cells #[.int .u8 (at8 a 0), .int .u8 (at8 a 1), .int .u8 (at8 a 2), .int .u8 (at8 a 3), .int .u8 (at8 a 4), .int .u8 (at8 a 5), .int .u8 (at8 a 6), .int .u8 (at8 a 7)] 24)).alloc (.cells #[.int .u8 (at8 b 0), .int .u8 (at8 b 1), .int .u8 (at8 b 2), .int .u8 (at8 b 3), .int .u8 (at8 b 4), .int .u8 (at8 b 5), .int .u8 (at8 b 6), .int .u8 (at8 b 7)] 24)) .u8 24 (w.heap.size + 1 + 1) (by simp))
  have BB := Lib.hid (below3 w (.cells #[.int .u8 (at8 a 0), .int .u8 (at8 a 1), .int .u8 (at8 a 2), .int .u8 (at8 a 3), .int .u8 (at8 a 4), .int .u8 (at8 a 5), .int .u8 (at8 a 6), .int .u8 (at8 a 7)] 24) (.cells #[.int .u8 (at8 b 0), .int .u8 (at8 b 1), .int .u8 (at8 b 2), .int .u8 (at8 b 3), .int .u8 (at8 b 4), .int .u8 (at8 b 5), .int .u8 (at8 b 6), .int .u8 (at8 b 7)] 24) (.cells #[.int .u8 0, .int .u8 0, .int .u8 0, .int .u8 0, .int .u8 0, .int .u8 0, .int .u8 0, .int .u8 0] 24))
  clear la lb
  obtain ⟨⟨qRA0, qRA1, qRA2, qRA3⟩, qRA4, qRA5, qRA6, qRA7⟩ := RA.out.all
  obtain ⟨⟨qRB0, qRB1, qRB2, qRB3⟩, qRB4, qRB5, qRB6, qRB7⟩ := RB.out.all
  go_wp2_with fail
  refine (l07Two_no1 n a b LA.out LB.out YA.out YB.out HA _).mono ?_
  rintro e w2 ⟨rfl, hb⟩
  clear qRA0 qRA1 qRA2 qRA3 qRA4 qRA5 qRA6 qRA7 qRB0 qRB1 qRB2 qRB3 qRB4 qRB5 qRB6 qRB7
  replace RA := Lib.hid (RA.out.below hb)
  replace RB := Lib.hid (RB.out.below hb)
  replace RZ := Lib.hid (RZ.out.below hb)
  replace BB := Lib.hid (below_go BB.out hb BB.out.size)
  clear hb
  obtain ⟨⟨d0, d1, d2, d3⟩, d4, d5, d6, d7⟩ := RZ.out.all
  obtain ⟨⟨f0, f1, f2, f3⟩, f4, f5, f6, f7⟩ := RZ.out.frees
  have zq := RZ.out.lt
  go_wp2
  obtain ⟨⟨e0, e1, e2, e3⟩, e4, e5, e6, e7⟩ := RZ.out.fillz
  refine bodyPost_ret (v := .tuple #[arr8 .u8 zeros8, .int .i64 1]) (by simp [results, Try.results21, go_sem, e0, e1, e2, e3, e4, e5, e6, e7, zeros8, at8]) rfl ⟨rfl, ?_⟩
  exact below_fill8 BB.out _ (by omega) _ _ _ _ _ _ _ _

set_option maxRecDepth 100000 in
set_option maxHeartbeats 1000000 in
theorem specJoinOfParts_no2 (n : Int) (a : List Int) (la : a.length = 8) (ya : Bytes8 a) (b : List Int) (lb : b.length = 8) (yb : Bytes8 b) (HA : Hid (isPt n a = true)) (HB : Hid (isPt n b = false)) (w : World) :
    Calls Try.prog 21 #[arr8 .u8 a, arr8 .u8 b, .int .i64 n] w (fun e w' => e = .returned (.tuple #[arr8 .u8 (zeros8), .int .i64 1]) ∧ Below w.heap.size w w') := by
  have LA := Lib.hid la
  have YA := Lib.hid ya
  clear ya
  have LB := Lib.hid lb
  have YB := Lib.hid yb
  clear yb
  go_enter Try.func21, Try.ntmps21
  have RA := Lib.hid (((Row8.place w .u8 a 24 w.heap.size rfl la).alloc (.cells #[.int .u8 (at8 b 0), .int .u8 (at8 b 1), .int .u8 (at8 b 2), .int .u8 (at8 b 3), .int .u8 (at8 b 4), .int .u8 (at8 b 5), .int .u8 (at8 b 6), .int .u8 (at8 b 7)] 24)).alloc (.cells #[.int .u8 0, .int .u8 0, .int .u8 0, .int .u8 0, .int .u8 0, .int .u8 0, .int .u8 0, .int .u8 0] 24))
  have RB := Lib.hid ((Row8.place (w.alloc (.cells #[.int .u8 (at8 a 0), .int .u8 (at8 a 1), .int .u8 (at8 a 2), .int .u8 (at8 a 3), .int .u8 (at8 a 4), .int .u8 (at8 a 5), .int .u8 (at8 a 6), .int .u8 (at8 a 7)] 24)) .u8 b 24 (w.heap.size + 1) (by simp) lb).alloc (.cells #[.int .u8 0, .int .u8 0, .int .u8 0, .int .u8 0, .int .u8 0, .int .u8 0, .int .u8 0, .int .u8 0] 24))
  have RZ := Lib.hid (Row8.zeros ((w.alloc (.cells #[.int .u8 (at8 a 0), .int .u8 (at8 a 1), .int .u8 (at8 a 2), .int .u8 (at8 a 3), .int .u8 (at8 a 4), .int .u8 (at8 a 5), .int .u8 (at8 a 6), .int .u8 (at8 a 7)] 24)).alloc (.cells #[.int .u8 (at8 b 0), .int .u8 (at8 b 1), .int .u8 (at8 b 2), .int .u8 (at8 b 3), .int .u8 (at8 b 4), .int .u8 (at8 b 5), .int .u8 (at8 b 6), .int .u8 (at8 b 7)] 24)) .u8 24 (w.heap.size + 1 + 1) (by simp))
  have BB := Lib.hid (below3 w (.cells #[.int .u8 (at8 a 0), .int .u8 (at8 a 1), .int .u8 (at8 a 2), .int .u8 (at8 a 3), .int .u8 (at8 a 4), .int .u8 (at8 a 5), .int .u8 (at8 a 6), .int .u8 (at8 a 7)] 24) (.cells #[.int .u8 (at8 b 0), .int .u8 (at8 b 1), .int .u8 (at8 b 2), .int .u8 (at8 b 3), .int .u8 (at8 b 4), .int .u8 (at8 b 5), .int .u8 (at8 b 6), .int .u8 (at8 b 7)] 24) (.cells #[.int .u8 0, .int .u8 0, .int .u8 0, .int .u8 0, .int .u8 0, .int .u8 0, .int .u8 0, .int .u8 0] 24))
  clear la lb
  obtain ⟨⟨qRA0, qRA1, qRA2, qRA3⟩, qRA4, qRA5, qRA6, qRA7⟩ := RA.out.all
  obtain ⟨⟨qRB0, qRB1, qRB2, qRB3⟩, qRB4, qRB5, qRB6, qRB7⟩ := RB.out.all
  go_wp2_with fail
  refine (l07Two_no2 n a b LA.out LB.out YA.out YB.out HA HB _).mono ?_
  rintro e w2 ⟨rfl, hb⟩
  clear qRA0 qRA1 qRA2 qRA3 qRA4 qRA5 qRA6 qRA7 qRB0 qRB1 qRB2 qRB3 qRB4 qRB5 qRB6 qRB7
  replace RA := Lib.hid (RA.out.below hb)
  replace RB := Lib.hid (RB.out.below hb)
  replace RZ := Lib.hid (RZ.out.below hb)
  replace BB := Lib.hid (below_go BB.out hb BB.out.size)
  clear hb
  obtain ⟨⟨d0, d1, d2, d3⟩, d4, d5, d6, d7⟩ := RZ.out.all
  obtain ⟨⟨f0, f1, f2, f3⟩, f4, f5, f6, f7⟩ := RZ.out.frees
  have zq := RZ.out.lt
  go_wp2
  obtain ⟨⟨e0, e1, e2, e3⟩, e4, e5, e6, e7⟩ := RZ.out.fillz
  refine bodyPost_ret (v := .tuple #[arr8 .u8 zeros8, .int .i64 1]) (by simp [results, Try.results21, go_sem, e0, e1, e2, e3, e4, e5, e6, e7, zeros8, at8]) rfl ⟨rfl, ?_⟩
  exact below_fill8 BB.out _ (by omega) _ _ _ _ _ _ _ _

set_option maxRecDepth 100000 in
set_option maxHeartbeats 1000000 in
theorem specJoinOfParts_yes (n : Nat) (a : List Int) (la : a.length = 8) (ya : Bytes8 a) (b : List Int) (lb : b.length = 8) (yb : Bytes8 b) (HA : Hid (isPt n a = true)) (HB : Hid (isPt n b = true)) (sa : Sim n a) (sb : Sim n b) (w : World) :
    Calls Try.prog 21 #[arr8 .u8 a, arr8 .u8 b, .int .i64 n] w (fun e w' => e = .returned (.tuple #[arr8 .u8 ((leftP n (meetP n (compP n a) (compP n b)))), .int .i64 0]) ∧ Below w.heap.size w w') := by
  have h1 := sa.lo
  have h8 := sa.hi
  have SA := Lib.hid sa
  clear sa
  have SB := Lib.hid sb
  clear sb
  have LA := Lib.hid la
  have YA := Lib.hid ya
  clear ya
  have LB := Lib.hid lb
  have YB := Lib.hid yb
  clear yb
  go_enter Try.func21, Try.ntmps21
  have RA := Lib.hid (((Row8.place w .u8 a 24 w.heap.size rfl la).alloc (.cells #[.int .u8 (at8 b 0), .int .u8 (at8 b 1), .int .u8 (at8 b 2), .int .u8 (at8 b 3), .int .u8 (at8 b 4), .int .u8 (at8 b 5), .int .u8 (at8 b 6), .int .u8 (at8 b 7)] 24)).alloc (.cells #[.int .u8 0, .int .u8 0, .int .u8 0, .int .u8 0, .int .u8 0, .int .u8 0, .int .u8 0, .int .u8 0] 24))
  have RB := Lib.hid ((Row8.place (w.alloc (.cells #[.int .u8 (at8 a 0), .int .u8 (at8 a 1), .int .u8 (at8 a 2), .int .u8 (at8 a 3), .int .u8 (at8 a 4), .int .u8 (at8 a 5), .int .u8 (at8 a 6), .int .u8 (at8 a 7)] 24)) .u8 b 24 (w.heap.size + 1) (by simp) lb).alloc (.cells #[.int .u8 0, .int .u8 0, .int .u8 0, .int .u8 0, .int .u8 0, .int .u8 0, .int .u8 0, .int .u8 0] 24))
  have RZ := Lib.hid (Row8.zeros ((w.alloc (.cells #[.int .u8 (at8 a 0), .int .u8 (at8 a 1), .int .u8 (at8 a 2), .int .u8 (at8 a 3), .int .u8 (at8 a 4), .int .u8 (at8 a 5), .int .u8 (at8 a 6), .int .u8 (at8 a 7)] 24)).alloc (.cells #[.int .u8 (at8 b 0), .int .u8 (at8 b 1), .int .u8 (at8 b 2), .int .u8 (at8 b 3), .int .u8 (at8 b 4), .int .u8 (at8 b 5), .int .u8 (at8 b 6), .int .u8 (at8 b 7)] 24)) .u8 24 (w.heap.size + 1 + 1) (by simp))
  have BB := Lib.hid (below3 w (.cells #[.int .u8 (at8 a 0), .int .u8 (at8 a 1), .int .u8 (at8 a 2), .int .u8 (at8 a 3), .int .u8 (at8 a 4), .int .u8 (at8 a 5), .int .u8 (at8 a 6), .int .u8 (at8 a 7)] 24) (.cells #[.int .u8 (at8 b 0), .int .u8 (at8 b 1), .int .u8 (at8 b 2), .int .u8 (at8 b 3), .int .u8 (at8 b 4), .int .u8 (at8 b 5), .int .u8 (at8 b 6), .int .u8 (at8 b 7)] 24) (.cells #[.int .u8 0, .int .u8 0, .int .u8 0, .int .u8 0, .int .u8 0, .int .u8 0, .int .u8 0, .int .u8 0] 24))
  clear la lb
  obtain ⟨⟨qRA0, qRA1, qRA2, qRA3⟩, qRA4, qRA5, qRA6, qRA7⟩ := RA.out.all
  obtain ⟨⟨qRB0, qRB1, qRB2, qRB3⟩, qRB4, qRB5, qRB6, qRB7⟩ := RB.out.all
  go_wp2_with fail
  refine (l07Two_yes _ a b LA.out LB.out YA.out YB.out HA HB _).mono ?_
  rintro e w2 ⟨rfl, hb⟩
  clear qRA0 qRA1 qRA2 qRA3 qRA4 qRA5 qRA6 qRA7 qRB0 qRB1 qRB2 qRB3 qRB4 qRB5 qRB6 qRB7
  replace RA := Lib.hid (RA.out.below hb)
  replace RB := Lib.hid (RB.out.below hb)
  replace RZ := Lib.hid (RZ.out.below hb)
  replace BB := Lib.hid (below_go BB.out hb BB.out.size)
  clear hb
  have CA := Lib.hid (compP_sim SA.out)
  have CB := Lib.hid (compP_sim SB.out)
  have MS := Lib.hid (meetP_sim (q := compP n b) CA.out)
  obtain ⟨r, hr⟩ : ∃ r, r = meetP n (compP n a) (compP n b) := ⟨_, rfl⟩
  have HR := Lib.hid hr.symm
  rw [← hr] at MS
  clear hr
  go_upto_region 4 with fail
  obtain ⟨W0, hW⟩ : ∃ W, W = w2 := ⟨_, rfl⟩
  rw [← hW] at RA RB RZ BB ⊢
  clear hW
  go_cut [9] (fun s9 wx => LeftA W0 r s9 wx)
  case first =>
    have hbI : Below W0.heap.size W0 W0.drew := (Below.refl _ _).drew
    have hbJ : Below W0.heap.size W0 (W0.alloc (.cells #[.int .u8 0, .int .u8 0, .int .u8 0, .int .u8 0, .int .u8 0, .int .u8 0, .int .u8 0, .int .u8 0] 24)).drew := ((Below.refl _ _).alloc (Nat.le_refl _) _).drew
    have kJ : Row8 (W0.alloc (.cells #[.int .u8 0, .int .u8 0, .int .u8 0, .int .u8 0, .int .u8 0, .int .u8 0, .int .u8 0, .int .u8 0] 24)).drew W0.heap.size .u8 [0, 0, 0, 0, 0, 0, 0, 0] := (Row8.zeros _ .u8 24 _ rfl).drew
    have zJ : W0.heap.size ≤ W0.heap.size := Nat.le_refl _
    go_region_held3 (fun w' => (w'.cell? ⟨w.heap.size, 0, none⟩ = some (.int .u8 (at8 a 0)) ∧ w'.cell? ⟨w.heap.size, 1, none⟩ = some (.int .u8 (at8 a 1)) ∧ w'.cell? ⟨w.heap.size, 2, none⟩ = some (.int .u8 (at8 a 2)) ∧ w'.cell? ⟨w.heap.size, 3, none⟩ = some (.int .u8 (at8 a 3)) ∧ w'.cell? ⟨w.heap.size, 4, none⟩ = some (.int .u8 (at8 a 4)) ∧ w'.cell? ⟨w.heap.size, 5, none⟩ = some (.int .u8 (at8 a 5)) ∧ w'.cell? ⟨w.heap.size, 6, none⟩ = some (.int .u8 (at8 a 6)) ∧ w'.cell? ⟨w.heap.size, 7, none⟩ = some (.int .u8 (at8 a 7))) ∧ (w'.cell? ⟨w.heap.size + 1, 0, none⟩ = some (.int .u8 (at8 b 0)) ∧ w'.cell? ⟨w.heap.size + 1, 1, none⟩ = some (.int .u8 (at8 b 1)) ∧ w'.cell? ⟨w.heap.size + 1, 2, none⟩ = some (.int .u8 (at8 b 2)) ∧ w'.cell? ⟨w.heap.size + 1, 3, none⟩ = some (.int .u8 (at8 b 3)) ∧ w'.cell? ⟨w.heap.size + 1, 4, none⟩ = some (.int .u8 (at8 b 4)) ∧ w'.cell? ⟨w.heap.size + 1, 5, none⟩ = some (.int .u8 (at8 b 5)) ∧ w'.cell? ⟨w.heap.size + 1, 6, none⟩ = some (.int .u8 (at8 b 6)) ∧ w'.cell? ⟨w.heap.size + 1, 7, none⟩ = some (.int .u8 (at8 b 7))) ∧ Below W0.heap.size W0 w') (first | with_reducible exact hold8 RA.out RB.out hbK | with_reducible exact hold8 RA.out RB.out hbI | with_reducible exact hold8 RA.out RB.out (hbK.alloc hbK.size _) | with_reducible exact hold8 RA.out RB.out hbJ | with_reducible exact hold8 RA.out RB.out (below_fill8 hbK _ (by omega) _ _ _ _ _ _ _ _))
      (first
        | (go_at_call_of 53 (at8 a 0); refine (l07Complement_any n a SA.out _).mono ?_; rintro e wa ⟨rfl, ha⟩; (first | with_reducible have kW := Lib.hid ((Row8.zeros _ .u8 24 _ rfl).below ha) | with_reducible have kW := Lib.hid (kJ.below ha) | with_reducible replace kW := Lib.hid (kW.out.below ha) | skip); have hbK := below_go ‹(_ ∧ _) ∧ (_ ∧ _) ∧ Below _ _ _›.2.2 ha ‹(_ ∧ _) ∧ (_ ∧ _) ∧ Below _ _ _›.2.2.size; have hzK := hbK.size)
        | (go_at_call_of 53 (at8 b 0); refine (l07Complement_any n b SB.out _).mono ?_; rintro e wb ⟨rfl, hb⟩; (first | with_reducible have kW := Lib.hid ((Row8.zeros _ .u8 24 _ rfl).below hb) | with_reducible have kW := Lib.hid (kJ.below hb) | with_reducible replace kW := Lib.hid (kW.out.below hb) | skip); have hbK := below_go ‹(_ ∧ _) ∧ (_ ∧ _) ∧ Below _ _ _›.2.2 hb ‹(_ ∧ _) ∧ (_ ∧ _) ∧ Below _ _ _›.2.2.size; have hzK := hbK.size)
        | (go_at_call 50; refine (l07Meet_any n (compP n a) (compP n b) CA.out CB.out _).mono ?_; rw [HR.out]; rintro e wm ⟨rfl, hm⟩; (first | with_reducible have kW := Lib.hid ((Row8.zeros _ .u8 24 _ rfl).below hm) | with_reducible have kW := Lib.hid (kJ.below hm) | with_reducible replace kW := Lib.hid (kW.out.below hm) | skip); have hbK := below_go ‹(_ ∧ _) ∧ (_ ∧ _) ∧ Below _ _ _›.2.2 hm ‹(_ ∧ _) ∧ (_ ∧ _) ∧ Below _ _ _›.2.2.size; have hzK := hbK.size; (first | (obtain ⟨⟨d0, d1, d2, d3⟩, d4, d5, d6, d7⟩ := kW.out.all; obtain ⟨⟨f0, f1, f2, f3⟩, f4, f5, f6, f7⟩ := kW.out.frees; have zq := kW.out.lt) | skip)))
    all_goals
      go_wp2_with fail
      go_meet
      first
        | exact ⟨_, rfl, hbK.size, Row8.place _ .u8 r 24 _ rfl MS.out.len, hbK.alloc hbK.size _⟩
        | exact ⟨_, rfl, by omega, kW.out.fill r MS.out.len, below_fill8 hbK _ (by omega) _ _ _ _ _ _ _ _⟩
  case rest =>
    obtain ⟨X1, hwc⟩ : ∃ x, x = wc := ⟨_, rfl⟩; subst hwc
    obtain ⟨g1, rfl, hg1, hRO, hb⟩ := hcut
    clear RA RB
    have zr := RZ.out.lt
    replace RZ := Lib.hid (RZ.out.below hb)
    replace BB := Lib.hid (below_go BB.out hb BB.out.size)
    have RO := Lib.hid hRO
    clear hRO hb
    go_upto_region 5 with fail
    replace RO := Lib.hid RO.out.drew
    replace RZ := Lib.hid RZ.out.drew
    replace BB := Lib.hid BB.out.drew
    go_region_held3 (fun w' => (w'.cell? ⟨g1, 0, none⟩ = some (.int .u8 (at8 r 0)) ∧ w'.cell? ⟨g1, 1, none⟩ = some (.int .u8 (at8 r 1)) ∧ w'.cell? ⟨g1, 2, none⟩ = some (.int .u8 (at8 r 2)) ∧ w'.cell? ⟨g1, 3, none⟩ = some (.int .u8 (at8 r 3)) ∧ w'.cell? ⟨g1, 4, none⟩ = some (.int .u8 (at8 r 4)) ∧ w'.cell? ⟨g1, 5, none⟩ = some (.int .u8 (at8 r 5)) ∧ w'.cell? ⟨g1, 6, none⟩ = some (.int .u8 (at8 r 6)) ∧ w'.cell? ⟨g1, 7, none⟩ = some (.int .u8 (at8 r 7)))) (first | with_reducible exact RO.out.flat | with_reducible exact (RO.out.past (w.heap.size + 1 + 1) (by omega) _ _ _ _ _ _ _ _).flat)
      (first
        | (go_at_call 55; refine (l07Whole_any n h1 h8 _).mono ?_; rintro e v1 ⟨rfl, k1⟩; replace RO := Lib.hid (RO.out.below k1); replace RZ := Lib.hid (RZ.out.below k1); replace BB := Lib.hid (below_go BB.out k1 BB.out.size))
        | (go_at_call 56; refine (l07Back_any n r MS.out _).mono ?_; rintro e v2 ⟨rfl, k2⟩; replace RO := Lib.hid (RO.out.below k2); replace RZ := Lib.hid (RZ.out.below k2); replace BB := Lib.hid (below_go BB.out k2 BB.out.size))
        | (go_at_call 54; refine (l07Then_any n h8 (wholeR n) (backR n r) (mapR_len _ _ h8) (mapR_len _ _ h8) (wholeR_sim n h1 h8).wide _).mono ?_; rintro e v3 ⟨rfl, k3⟩; replace RO := Lib.hid (RO.out.below k3); replace RZ := Lib.hid (RZ.out.below k3); replace BB := Lib.hid (below_go BB.out k3 BB.out.size); obtain ⟨⟨d0, d1, d2, d3⟩, d4, d5, d6, d7⟩ := RZ.out.all; obtain ⟨⟨f0, f1, f2, f3⟩, f4, f5, f6, f7⟩ := RZ.out.frees; have zq := RZ.out.lt))
    all_goals
      clear d0 d1 d2 d3 d4 d5 d6 d7 f0 f1 f2 f3 f4 f5 f6 f7
      go_wp2
      obtain ⟨⟨e0, e1, e2, e3⟩, e4, e5, e6, e7⟩ := (RZ.out.fill (thenR n (wholeR n) (backR n r)) (mapR_len _ _ h8)).all
      refine bodyPost_ret (v := .tuple #[arr8 .u8 (thenR n (wholeR n) (backR n r)), .int .i64 0]) (by simp [results, Try.results21, go_sem, e0, e1, e2, e3, e4, e5, e6, e7]) rfl ⟨by rw [← HR.out]; rfl, ?_⟩
      exact below_fill8 BB.out _ (by omega) _ _ _ _ _ _ _ _

theorem specJoinOfParts_any (n : Int) (a : List Int) (la : a.length = 8) (ya : Bytes8 a) (b : List Int) (lb : b.length = 8) (yb : Bytes8 b) (r : List Int) (c : Int) (hM : mJoinOfParts n a b = (r, c)) (w : World) :
    Calls Try.prog 21 #[arr8 .u8 a, arr8 .u8 b, .int .i64 n] w (fun e w' => e = .returned (.tuple #[arr8 .u8 (r), .int .i64 c]) ∧ Below w.heap.size w w') := by
  by_cases h : (isPt n a && isPt n b) = true
  · simp only [mJoinOfParts, if_pos h, Prod.mk.injEq] at hM
    obtain ⟨rfl, rfl⟩ := hM
    rw [Bool.and_eq_true] at h
    obtain ⟨k, rfl, hs⟩ := isPt_sim la h.1
    rw [Int.toNat_natCast]
    exact specJoinOfParts_yes k a la ya b lb yb (Lib.hid h.1) (Lib.hid h.2) hs (sim_of_isPt lb h.2) w
  · have h0 : (isPt n a && isPt n b) = false := by simpa using h
    simp only [mJoinOfParts, if_neg h, Prod.mk.injEq] at hM
    obtain ⟨rfl, rfl⟩ := hM
    cases ha : isPt n a with
    | false => exact specJoinOfParts_no1 n a la ya b lb yb (Lib.hid ha) w
    | true => exact specJoinOfParts_no2 n a la ya b lb yb (Lib.hid ha) (Lib.hid (by rw [ha, Bool.true_and] at h0; exact h0)) w

set_option maxRecDepth 100000 in
set_option maxHeartbeats 1000000 in
theorem implJoinOfParts_no1 (n : Int) (a : List Int) (la : a.length = 8) (ya : Bytes8 a) (b : List Int) (lb : b.length = 8) (yb : Bytes8 b) (HA : Hid (isPt n a = false)) (w : World) :
    Calls Try.prog 22 #[arr8 .u8 a, arr8 .u8 b, .int .i64 n] w (fun e w' => e = .returned (.tuple #[arr8 .u8 (zeros8), .int .i64 1]) ∧ Below w.heap.size w w') := by
  have LA := Lib.hid la
  have YA := Lib.hid ya
  clear ya
  have LB := Lib.hid lb
  have YB := Lib.hid yb
  clear yb
  go_enter Try.func22, Try.ntmps22
  have RA := Lib.hid (((Row8.place w .u8 a 24 w.heap.size rfl la).alloc (.cells #[.int .u8 (at8 b 0), .int .u8 (at8 b 1), .int .u8 (at8 b 2), .int .u8 (at8 b 3), .int .u8 (at8 b 4), .int .u8 (at8 b 5), .int .u8 (at8 b 6), .int .u8 (at8 b 7)] 24)).alloc (.cells #[.int .u8 0, .int .u8 0, .int .u8 0, .int .u8 0, .int .u8 0, .int .u8 0, .int .u8 0, .int .u8 0] 24))
  have RB := Lib.hid ((Row8.place (w.alloc (.cells #[.int .u8 (at8 a 0), .int .u8 (at8 a 1), .int .u8 (at8 a 2), .int .u8 (at8 a 3), .int .u8 (at8 a 4), .int .u8 (at8 a 5), .int .u8 (at8 a 6), .int .u8 (at8 a 7)] 24)) .u8 b 24 (w.heap.size + 1) (by simp) lb).alloc (.cells #[.int .u8 0, .int .u8 0, .int .u8 0, .int .u8 0, .int .u8 0, .int .u8 0, .int .u8 0, .int .u8 0] 24))
  have RZ := Lib.hid (Row8.zeros ((w.alloc (.cells #[.int .u8 (at8 a 0), .int .u8 (at8 a 1), .int .u8 (at8 a 2), .int .u8 (at8 a 3), .int .u8 (at8 a 4), .int .u8 (at8 a 5), .int .u8 (at8 a 6), .int .u8 (at8 a 7)] 24)).alloc (.cells #[.int .u8 (at8 b 0), .int .u8 (at8 b 1), .int .u8 (at8 b 2), .int .u8 (at8 b 3), .int .u8 (at8 b 4), .int .u8 (at8 b 5), .int .u8 (at8 b 6), .int .u8 (at8 b 7)] 24)) .u8 24 (w.heap.size + 1 + 1) (by simp))
  have BB := Lib.hid (below3 w (.cells #[.int .u8 (at8 a 0), .int .u8 (at8 a 1), .int .u8 (at8 a 2), .int .u8 (at8 a 3), .int .u8 (at8 a 4), .int .u8 (at8 a 5), .int .u8 (at8 a 6), .int .u8 (at8 a 7)] 24) (.cells #[.int .u8 (at8 b 0), .int .u8 (at8 b 1), .int .u8 (at8 b 2), .int .u8 (at8 b 3), .int .u8 (at8 b 4), .int .u8 (at8 b 5), .int .u8 (at8 b 6), .int .u8 (at8 b 7)] 24) (.cells #[.int .u8 0, .int .u8 0, .int .u8 0, .int .u8 0, .int .u8 0, .int .u8 0, .int .u8 0, .int .u8 0] 24))
  clear la lb
  obtain ⟨⟨qRA0, qRA1, qRA2, qRA3⟩, qRA4, qRA5, qRA6, qRA7⟩ := RA.out.all
  obtain ⟨⟨qRB0, qRB1, qRB2, qRB3⟩, qRB4, qRB5, qRB6, qRB7⟩ := RB.out.all
  go_wp2_with fail
  refine (partTwo_no1 _ n a LA.out b LB.out HA _).mono ?_
  rintro e w2 ⟨rfl, hb⟩
  clear qRA0 qRA1 qRA2 qRA3 qRA4 qRA5 qRA6 qRA7 qRB0 qRB1 qRB2 qRB3 qRB4 qRB5 qRB6 qRB7
  replace RA := Lib.hid (RA.out.below hb)
  replace RB := Lib.hid (RB.out.below hb)
  replace RZ := Lib.hid (RZ.out.below hb)
  replace BB := Lib.hid (below_go BB.out hb BB.out.size)
  clear hb
  obtain ⟨⟨d0, d1, d2, d3⟩, d4, d5, d6, d7⟩ := RZ.out.all
  obtain ⟨⟨f0, f1, f2, f3⟩, f4, f5, f6, f7⟩ := RZ.out.frees
  have zq := RZ.out.lt
  go_wp2
  obtain ⟨⟨e0, e1, e2, e3⟩, e4, e5, e6, e7⟩ := RZ.out.fillz
  refine bodyPost_ret (v := .tuple #[arr8 .u8 zeros8, .int .i64 1]) (by simp [results, Try.results22, go_sem, e0, e1, e2, e3, e4, e5, e6, e7, zeros8, at8]) rfl ⟨rfl, ?_⟩
  exact below_fill8 BB.out _ (by omega) _ _ _ _ _ _ _ _

set_option maxRecDepth 100000 in
set_option maxHeartbeats 1000000 in
theorem implJoinOfParts_no2 (n : Int) (a : List Int) (la : a.length = 8) (ya : Bytes8 a) (b : List Int) (lb : b.length = 8) (yb : Bytes8 b) (HA : Hid (isPt n a = true)) (HB : Hid (isPt n b = false)) (w : World) :
    Calls Try.prog 22 #[arr8 .u8 a, arr8 .u8 b, .int .i64 n] w (fun e w' => e = .returned (.tuple #[arr8 .u8 (zeros8), .int .i64 1]) ∧ Below w.heap.size w w') := by
  have LA := Lib.hid la
  have YA := Lib.hid ya
  clear ya
  have LB := Lib.hid lb
  have YB := Lib.hid yb
  clear yb
  go_enter Try.func22, Try.ntmps22
  have RA := Lib.hid (((Row8.place w .u8 a 24 w.heap.size rfl la).alloc (.cells #[.int .u8 (at8 b 0), .int .u8 (at8 b 1), .int .u8 (at8 b 2), .int .u8 (at8 b 3), .int .u8 (at8 b 4), .int .u8 (at8 b 5), .int .u8 (at8 b 6), .int .u8 (at8 b 7)] 24)).alloc (.cells #[.int .u8 0, .int .u8 0, .int .u8 0, .int .u8 0, .int .u8 0, .int .u8 0, .int .u8 0, .int .u8 0] 24))
  have RB := Lib.hid ((Row8.place (w.alloc (.cells #[.int .u8 (at8 a 0), .int .u8 (at8 a 1), .int .u8 (at8 a 2), .int .u8 (at8 a 3), .int .u8 (at8 a 4), .int .u8 (at8 a 5), .int .u8 (at8 a 6), .int .u8 (at8 a 7)] 24)) .u8 b 24 (w.heap.size + 1) (by simp) lb).alloc (.cells #[.int .u8 0, .int .u8 0, .int .u8 0, .int .u8 0, .int .u8 0, .int .u8 0, .int .u8 0, .int .u8 0] 24))
  have RZ := Lib.hid (Row8.zeros ((w.alloc (.cells #[.int .u8 (at8 a 0), .int .u8 (at8 a 1), .int .u8 (at8 a 2), .int .u8 (at8 a 3), .int .u8 (at8 a 4), .int .u8 (at8 a 5), .int .u8 (at8 a 6), .int .u8 (at8 a 7)] 24)).alloc (.cells #[.int .u8 (at8 b 0), .int .u8 (at8 b 1), .int .u8 (at8 b 2), .int .u8 (at8 b 3), .int .u8 (at8 b 4), .int .u8 (at8 b 5), .int .u8 (at8 b 6), .int .u8 (at8 b 7)] 24)) .u8 24 (w.heap.size + 1 + 1) (by simp))
  have BB := Lib.hid (below3 w (.cells #[.int .u8 (at8 a 0), .int .u8 (at8 a 1), .int .u8 (at8 a 2), .int .u8 (at8 a 3), .int .u8 (at8 a 4), .int .u8 (at8 a 5), .int .u8 (at8 a 6), .int .u8 (at8 a 7)] 24) (.cells #[.int .u8 (at8 b 0), .int .u8 (at8 b 1), .int .u8 (at8 b 2), .int .u8 (at8 b 3), .int .u8 (at8 b 4), .int .u8 (at8 b 5), .int .u8 (at8 b 6), .int .u8 (at8 b 7)] 24) (.cells #[.int .u8 0, .int .u8 0, .int .u8 0, .int .u8 0, .int .u8 0, .int .u8 0, .int .u8 0, .int .u8 0] 24))
  clear la lb
  obtain ⟨⟨qRA0, qRA1, qRA2, qRA3⟩, qRA4, qRA5, qRA6, qRA7⟩ := RA.out.all
  obtain ⟨⟨qRB0, qRB1, qRB2, qRB3⟩, qRB4, qRB5, qRB6, qRB7⟩ := RB.out.all
  go_wp2_with fail
  refine (partTwo_no2 _ n a LA.out b LB.out HA HB _).mono ?_
  rintro e w2 ⟨rfl, hb⟩
  clear qRA0 qRA1 qRA2 qRA3 qRA4 qRA5 qRA6 qRA7 qRB0 qRB1 qRB2 qRB3 qRB4 qRB5 qRB6 qRB7
  replace RA := Lib.hid (RA.out.below hb)
  replace RB := Lib.hid (RB.out.below hb)
  replace RZ := Lib.hid (RZ.out.below hb)
  replace BB := Lib.hid (below_go BB.out hb BB.out.size)
  clear hb
  obtain ⟨⟨d0, d1, d2, d3⟩, d4, d5, d6, d7⟩ := RZ.out.all
  obtain ⟨⟨f0, f1, f2, f3⟩, f4, f5, f6, f7⟩ := RZ.out.frees
  have zq := RZ.out.lt
  go_wp2
  obtain ⟨⟨e0, e1, e2, e3⟩, e4, e5, e6, e7⟩ := RZ.out.fillz
  refine bodyPost_ret (v := .tuple #[arr8 .u8 zeros8, .int .i64 1]) (by simp [results, Try.results22, go_sem, e0, e1, e2, e3, e4, e5, e6, e7, zeros8, at8]) rfl ⟨rfl, ?_⟩
  exact below_fill8 BB.out _ (by omega) _ _ _ _ _ _ _ _

set_option maxRecDepth 100000 in
set_option maxHeartbeats 1000000 in
theorem implJoinOfParts_yes (n : Nat) (a : List Int) (la : a.length = 8) (ya : Bytes8 a) (b : List Int) (lb : b.length = 8) (yb : Bytes8 b) (HA : Hid (isPt n a = true)) (HB : Hid (isPt n b = true)) (sa : Sim n a) (sb : Sim n b) (w : World) :
    Calls Try.prog 22 #[arr8 .u8 a, arr8 .u8 b, .int .i64 n] w (fun e w' => e = .returned (.tuple #[arr8 .u8 ((leftP n (meetP n (compP n a) (compP n b)))), .int .i64 0]) ∧ Below w.heap.size w w') := by
  have h1 := sa.lo
  have h8 := sa.hi
  have SA := Lib.hid sa
  clear sa
  have SB := Lib.hid sb
  clear sb
  have LA := Lib.hid la
  have YA := Lib.hid ya
  clear ya
  have LB := Lib.hid lb
  have YB := Lib.hid yb
  clear yb
  go_enter Try.func22, Try.ntmps22
  have RA := Lib.hid (((Row8.place w .u8 a 24 w.heap.size rfl la).alloc (.cells #[.int .u8 (at8 b 0), .int .u8 (at8 b 1), .int .u8 (at8 b 2), .int .u8 (at8 b 3), .int .u8 (at8 b 4), .int .u8 (at8 b 5), .int .u8 (at8 b 6), .int .u8 (at8 b 7)] 24)).alloc (.cells #[.int .u8 0, .int .u8 0, .int .u8 0, .int .u8 0, .int .u8 0, .int .u8 0, .int .u8 0, .int .u8 0] 24))
  have RB := Lib.hid ((Row8.place (w.alloc (.cells #[.int .u8 (at8 a 0), .int .u8 (at8 a 1), .int .u8 (at8 a 2), .int .u8 (at8 a 3), .int .u8 (at8 a 4), .int .u8 (at8 a 5), .int .u8 (at8 a 6), .int .u8 (at8 a 7)] 24)) .u8 b 24 (w.heap.size + 1) (by simp) lb).alloc (.cells #[.int .u8 0, .int .u8 0, .int .u8 0, .int .u8 0, .int .u8 0, .int .u8 0, .int .u8 0, .int .u8 0] 24))
  have RZ := Lib.hid (Row8.zeros ((w.alloc (.cells #[.int .u8 (at8 a 0), .int .u8 (at8 a 1), .int .u8 (at8 a 2), .int .u8 (at8 a 3), .int .u8 (at8 a 4), .int .u8 (at8 a 5), .int .u8 (at8 a 6), .int .u8 (at8 a 7)] 24)).alloc (.cells #[.int .u8 (at8 b 0), .int .u8 (at8 b 1), .int .u8 (at8 b 2), .int .u8 (at8 b 3), .int .u8 (at8 b 4), .int .u8 (at8 b 5), .int .u8 (at8 b 6), .int .u8 (at8 b 7)] 24)) .u8 24 (w.heap.size + 1 + 1) (by simp))
  have BB := Lib.hid (below3 w (.cells #[.int .u8 (at8 a 0), .int .u8 (at8 a 1), .int .u8 (at8 a 2), .int .u8 (at8 a 3), .int .u8 (at8 a 4), .int .u8 (at8 a 5), .int .u8 (at8 a 6), .int .u8 (at8 a 7)] 24) (.cells #[.int .u8 (at8 b 0), .int .u8 (at8 b 1), .int .u8 (at8 b 2), .int .u8 (at8 b 3), .int .u8 (at8 b 4), .int .u8 (at8 b 5), .int .u8 (at8 b 6), .int .u8 (at8 b 7)] 24) (.cells #[.int .u8 0, .int .u8 0, .int .u8 0, .int .u8 0, .int .u8 0, .int .u8 0, .int .u8 0, .int .u8 0] 24))
  clear la lb
  have HRL : Hid ((leftP n (meetP n (compP n a) (compP n b))).length = 8) := Lib.hid (mapR_len _ _ h8)
  obtain ⟨⟨qRA0, qRA1, qRA2, qRA3⟩, qRA4, qRA5, qRA6, qRA7⟩ := RA.out.all
  obtain ⟨⟨qRB0, qRB1, qRB2, qRB3⟩, qRB4, qRB5, qRB6, qRB7⟩ := RB.out.all
  go_wp2_with fail
  refine (partTwo_yes 57 _ a LA.out b LB.out HA HB (leftP n (meetP n (compP n a) (compP n b))) HRL _ (fun args W => by kernel_rfl) (fun W => pJoin_any _ a b SA.out SB.out (asc_of (isPt_comp HA.out LA.out)) W)).mono ?_
  rintro e w2 ⟨rfl, hb⟩
  clear qRA0 qRA1 qRA2 qRA3 qRA4 qRA5 qRA6 qRA7 qRB0 qRB1 qRB2 qRB3 qRB4 qRB5 qRB6 qRB7
  replace RA := Lib.hid (RA.out.below hb)
  replace RB := Lib.hid (RB.out.below hb)
  replace RZ := Lib.hid (RZ.out.below hb)
  replace BB := Lib.hid (below_go BB.out hb BB.out.size)
  clear hb
  obtain ⟨⟨d0, d1, d2, d3⟩, d4, d5, d6, d7⟩ := RZ.out.all
  obtain ⟨⟨f0, f1, f2, f3⟩, f4, f5, f6, f7⟩ := RZ.out.frees
  have zq := RZ.out.lt
  go_wp2
  obtain ⟨⟨e0, e1, e2, e3⟩, e4, e5, e6, e7⟩ := (RZ.out.fill (leftP n (meetP n (compP n a) (compP n b))) HRL.out).all
  refine bodyPost_ret (v := .tuple #[arr8 .u8 (leftP n (meetP n (compP n a) (compP n b))), .int .i64 0]) (by simp [results, Try.results22, go_sem, e0, e1, e2, e3, e4, e5, e6, e7]) rfl ⟨rfl, ?_⟩
  exact below_fill8 BB.out _ (by omega) _ _ _ _ _ _ _ _

theorem implJoinOfParts_any (n : Int) (a : List Int) (la : a.length = 8) (ya : Bytes8 a) (b : List Int) (lb : b.length = 8) (yb : Bytes8 b) (r : List Int) (c : Int) (hM : mJoinOfParts n a b = (r, c)) (w : World) :
    Calls Try.prog 22 #[arr8 .u8 a, arr8 .u8 b, .int .i64 n] w (fun e w' => e = .returned (.tuple #[arr8 .u8 (r), .int .i64 c]) ∧ Below w.heap.size w w') := by
  by_cases h : (isPt n a && isPt n b) = true
  · simp only [mJoinOfParts, if_pos h, Prod.mk.injEq] at hM
    obtain ⟨rfl, rfl⟩ := hM
    rw [Bool.and_eq_true] at h
    obtain ⟨k, rfl, hs⟩ := isPt_sim la h.1
    rw [Int.toNat_natCast]
    exact implJoinOfParts_yes k a la ya b lb yb (Lib.hid h.1) (Lib.hid h.2) hs (sim_of_isPt lb h.2) w
  · have h0 : (isPt n a && isPt n b) = false := by simpa using h
    simp only [mJoinOfParts, if_neg h, Prod.mk.injEq] at hM
    obtain ⟨rfl, rfl⟩ := hM
    cases ha : isPt n a with
    | false => exact implJoinOfParts_no1 n a la ya b lb yb (Lib.hid ha) w
    | true => exact implJoinOfParts_no2 n a la ya b lb yb (Lib.hid ha) (Lib.hid (by rw [ha, Bool.true_and] at h0; exact h0)) w

end Go.Proofs.Ythelncibpoijoaa
