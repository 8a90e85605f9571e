/- The program: rows of partitions: the whole one, then, back, complements, turn. -/
import Derived.Test.YthelncibpoijoaaIRows
import Derived.Test.YthelncibpoijoaaQB
namespace Go.Proofs.Ythelncibpoijoaa
open Go.RowKit Go.ChangeShapes

theorem enter_whole1 (args : Array Value) (W : World) : Sem.run Try.prog (callFunc 82 args) W = .ok (.enter 82 args) W := by kernel_rfl

theorem whole1_any (n x g : Nat) (h1 : 1 ≤ n) (hn : n ≤ 8) (hx : x < n) (W : World) (hc : At1 W g (.int .i64 n)) : Calls Try.prog 82 #[.int .u8 x, .pointer (some ⟨g, 0, none⟩)] W fun e w' => e = .returned (.int .u8 (((x : Int) + 1) % (n : Int))) ∧ W = w' := by
  obtain ⟨q1, q2, q3⟩ := hc
  have b1 : (0 : Int) ≤ ((x : Int) + 1) % (n : Int) := Int.emod_nonneg _ (by omega)
  have b2 : ((x : Int) + 1) % (n : Int) < 8 := by have := Int.emod_lt_of_pos ((x : Int) + 1) (show (n : Int) > 0 by omega); omega
  have b3 : ((x : Int) + 1).tmod n = ((x : Int) + 1) % (n : Int) := Int.tmod_eq_emod_of_nonneg (by omega)
  have b4 : ((n : Int) == 0) = false := by rw [beq_eq_false_iff_ne]; omega
  have b5 : (x : Int) < 8 := by omega
  go_enter Try.func82, Try.ntmps82
  go_wp2
  go_ret
  exact ⟨rfl, rfl⟩

set_option maxRecDepth 100000 in
set_option maxHeartbeats 1000000 in
theorem whole_any (n : Nat) (h1 : 1 ≤ n) (h8 : n ≤ 8) (w : World) :
    Calls Try.prog 47 #[.int .i64 n] w (RetArr .u8 w (wholeR n)) := by
  go_enter Try.func47, Try.ntmps47
  have AN := Lib.hid ((At1.place w (.int .i64 n) 2 w.heap.size rfl).alloc (.cells #[.int .u8 0, .int .u8 0, .int .u8 0, .int .u8 0, .int .u8 0, .int .u8 0, .int .u8 0, .int .u8 0] 24))
  have RZ := Lib.hid (Row8.zeros (w.alloc (.cells #[.int .i64 n] 2)) .u8 24 (w.heap.size + 1) (by simp))
  have BB := Lib.hid (below2 w (.cells #[.int .i64 n] 2) (.cells #[.int .u8 0, .int .u8 0, .int .u8 0, .int .u8 0, .int .u8 0, .int .u8 0, .int .u8 0, .int .u8 0] 24))
  obtain ⟨qn1, qn2, qn3⟩ := AN.out
  go_wp2_with fail
  refine (simpleFrom_any 82 #[.pointer (some ⟨w.heap.size, 0, none⟩)] (fun x => ((x : Int) + 1) % (n : Int)) n h8 _ enter_whole1 (fun x W hW hx => (whole1_any n x _ h1 h8 hx W (AN.out.below hW)).mono fun _ _ ⟨he, hw⟩ => ⟨he, hw ▸ Below.refl _ _⟩)).mono ?_
  rintro e w2 ⟨rfl, hb⟩
  replace RZ := Lib.hid (RZ.out.below hb)
  replace BB := Lib.hid (below_go BB.out hb BB.out.size)
  clear hb
  clear qn1 qn2 qn3
  obtain ⟨⟨d0, d1, d2, d3⟩, d4, d5, d6, d7⟩ := RZ.out.all
  obtain ⟨⟨f0, f1, f2, f3⟩, f4, f5, f6, f7⟩ := RZ.out.frees
  have zq := RZ.out.lt
  go_wp2
  obtain ⟨⟨e0, e1, e2, e3⟩, e4, e5, e6, e7⟩ := (RZ.out.fill (mapR n fun x => ((x : Int) + 1) % (n : Int)) (mapR_len _ _ h8)).all
  refine bodyPost_ret (v := arr8 .u8 (mapR n fun x => ((x : Int) + 1) % (n : Int))) (by simp [results, Try.results47, go_sem, e0, e1, e2, e3, e4, e5, e6, e7]) rfl ⟨rfl, ?_⟩
  exact below_fill8 BB.out _ (by omega) _ _ _ _ _ _ _ _

set_option maxRecDepth 100000 in
set_option maxHeartbeats 1000000 in
theorem pThen_any (n : Nat) (h8 : n ≤ 8) (a b : List Int) (la : a.length = 8) (lb : b.length = 8) (ha : ∀ j, j < n → 0 ≤ at8 a j ∧ at8 a j < 8) (w : World) :
    Calls Try.prog 80 #[arr8 .u8 a, arr8 .u8 b, .int .i64 n] w (RetArr .u8 w (thenR n a b)) := by
  have HA := Lib.hid ha
  have LA := Lib.hid la
  have LB := Lib.hid lb
  clear ha
  go_enter Try.func80, Try.ntmps80
  have RA := Lib.hid (((Row8.place w .u8 a 24 w.heap.size rfl la).alloc (.cells #[.int .u8 (at8 b 0), .int .u8 (at8 b 1), .int .u8 (at8 b 2), .int .u8 (at8 b 3), .int .u8 (at8 b 4), .int .u8 (at8 b 5), .int .u8 (at8 b 6), .int .u8 (at8 b 7)] 24)).alloc (.cells #[.int .u8 0, .int .u8 0, .int .u8 0, .int .u8 0, .int .u8 0, .int .u8 0, .int .u8 0, .int .u8 0] 24))
  have RB := Lib.hid ((Row8.place (w.alloc (.cells #[.int .u8 (at8 a 0), .int .u8 (at8 a 1), .int .u8 (at8 a 2), .int .u8 (at8 a 3), .int .u8 (at8 a 4), .int .u8 (at8 a 5), .int .u8 (at8 a 6), .int .u8 (at8 a 7)] 24)) .u8 b 24 (w.heap.size + 1) (by simp) lb).alloc (.cells #[.int .u8 0, .int .u8 0, .int .u8 0, .int .u8 0, .int .u8 0, .int .u8 0, .int .u8 0, .int .u8 0] 24))
  have RZ := Lib.hid (Row8.zeros ((w.alloc (.cells #[.int .u8 (at8 a 0), .int .u8 (at8 a 1), .int .u8 (at8 a 2), .int .u8 (at8 a 3), .int .u8 (at8 a 4), .int .u8 (at8 a 5), .int .u8 (at8 a 6), .int .u8 (at8 a 7)] 24)).alloc (.cells #[.int .u8 (at8 b 0), .int .u8 (at8 b 1), .int .u8 (at8 b 2), .int .u8 (at8 b 3), .int .u8 (at8 b 4), .int .u8 (at8 b 5), .int .u8 (at8 b 6), .int .u8 (at8 b 7)] 24)) .u8 24 (w.heap.size + 1 + 1) (by simp))
  have BB := Lib.hid (below3 w (.cells #[.int .u8 (at8 a 0), .int .u8 (at8 a 1), .int .u8 (at8 a 2), .int .u8 (at8 a 3), .int .u8 (at8 a 4), .int .u8 (at8 a 5), .int .u8 (at8 a 6), .int .u8 (at8 a 7)] 24) (.cells #[.int .u8 (at8 b 0), .int .u8 (at8 b 1), .int .u8 (at8 b 2), .int .u8 (at8 b 3), .int .u8 (at8 b 4), .int .u8 (at8 b 5), .int .u8 (at8 b 6), .int .u8 (at8 b 7)] 24) (.cells #[.int .u8 0, .int .u8 0, .int .u8 0, .int .u8 0, .int .u8 0, .int .u8 0, .int .u8 0, .int .u8 0] 24))
  obtain ⟨⟨qRA0, qRA1, qRA2, qRA3⟩, qRA4, qRA5, qRA6, qRA7⟩ := RA.out.all
  obtain ⟨⟨qRB0, qRB1, qRB2, qRB3⟩, qRB4, qRB5, qRB6, qRB7⟩ := RB.out.all
  go_wp2_with fail
  refine (then_any n h8 a b LA.out LB.out HA.out _).mono ?_
  rintro e w2 ⟨rfl, hb⟩
  clear qRA0 qRA1 qRA2 qRA3 qRA4 qRA5 qRA6 qRA7 qRB0 qRB1 qRB2 qRB3 qRB4 qRB5 qRB6 qRB7
  replace RA := Lib.hid (RA.out.below hb)
  replace RB := Lib.hid (RB.out.below hb)
  replace RZ := Lib.hid (RZ.out.below hb)
  replace BB := Lib.hid (below_go BB.out hb BB.out.size)
  clear hb
  obtain ⟨⟨d0, d1, d2, d3⟩, d4, d5, d6, d7⟩ := RZ.out.all
  obtain ⟨⟨f0, f1, f2, f3⟩, f4, f5, f6, f7⟩ := RZ.out.frees
  have zq := RZ.out.lt
  go_wp2
  obtain ⟨⟨e0, e1, e2, e3⟩, e4, e5, e6, e7⟩ := (RZ.out.fill (thenR n a b) (mapR_len _ _ h8)).all
  refine bodyPost_ret (v := arr8 .u8 (thenR n a b)) (by simp [results, Try.results80, go_sem, e0, e1, e2, e3, e4, e5, e6, e7]) rfl ⟨rfl, ?_⟩
  exact below_fill8 BB.out _ (by omega) _ _ _ _ _ _ _ _

set_option maxRecDepth 100000 in
set_option maxHeartbeats 1000000 in
theorem pBack_any (n : Nat) (p : List Int) (hp : Sim n p) (w : World) :
    Calls Try.prog 79 #[arr8 .u8 p, .int .i64 n] w (RetArr .u8 w (backR n p)) := by
  have h8 := hp.hi
  have lp := hp.len
  have HP := Lib.hid hp
  clear hp
  go_enter Try.func79, Try.ntmps79
  have RA := Lib.hid ((Row8.place w .u8 p 24 w.heap.size rfl lp).alloc (.cells #[.int .u8 0, .int .u8 0, .int .u8 0, .int .u8 0, .int .u8 0, .int .u8 0, .int .u8 0, .int .u8 0] 24))
  have RZ := Lib.hid (Row8.zeros (w.alloc (.cells #[.int .u8 (at8 p 0), .int .u8 (at8 p 1), .int .u8 (at8 p 2), .int .u8 (at8 p 3), .int .u8 (at8 p 4), .int .u8 (at8 p 5), .int .u8 (at8 p 6), .int .u8 (at8 p 7)] 24)) .u8 24 (w.heap.size + 1) (by simp))
  have BB := Lib.hid (below2 w (.cells #[.int .u8 (at8 p 0), .int .u8 (at8 p 1), .int .u8 (at8 p 2), .int .u8 (at8 p 3), .int .u8 (at8 p 4), .int .u8 (at8 p 5), .int .u8 (at8 p 6), .int .u8 (at8 p 7)] 24) (.cells #[.int .u8 0, .int .u8 0, .int .u8 0, .int .u8 0, .int .u8 0, .int .u8 0, .int .u8 0, .int .u8 0] 24))
  obtain ⟨⟨qRA0, qRA1, qRA2, qRA3⟩, qRA4, qRA5, qRA6, qRA7⟩ := RA.out.all
  go_wp2_with fail
  refine (back_any n p HP.out _).mono ?_
  rintro e w2 ⟨rfl, hb⟩
  clear qRA0 qRA1 qRA2 qRA3 qRA4 qRA5 qRA6 qRA7
  replace RA := Lib.hid (RA.out.below hb)
  replace RZ := Lib.hid (RZ.out.below hb)
  replace BB := Lib.hid (below_go BB.out hb BB.out.size)
  clear hb
  obtain ⟨⟨d0, d1, d2, d3⟩, d4, d5, d6, d7⟩ := RZ.out.all
  obtain ⟨⟨f0, f1, f2, f3⟩, f4, f5, f6, f7⟩ := RZ.out.frees
  have zq := RZ.out.lt
  go_wp2
  obtain ⟨⟨e0, e1, e2, e3⟩, e4, e5, e6, e7⟩ := (RZ.out.fill (backR n p) (mapR_len _ _ h8)).all
  refine bodyPost_ret (v := arr8 .u8 (backR n p)) (by simp [results, Try.results79, go_sem, e0, e1, e2, e3, e4, e5, e6, e7]) rfl ⟨rfl, ?_⟩
  exact below_fill8 BB.out _ (by omega) _ _ _ _ _ _ _ _

set_option maxRecDepth 100000 in
set_option maxHeartbeats 1000000 in
theorem pComp_any (n : Nat) (p : List Int) (hp : Sim n p) (w : World) :
    Calls Try.prog 46 #[arr8 .u8 p, .int .i64 n] w (RetArr .u8 w (compP n p)) := by
  have h1 := hp.lo
  have h8 := hp.hi
  have lp := hp.len
  have HP := Lib.hid hp
  clear hp
  go_enter Try.func46, Try.ntmps46
  have RA := Lib.hid ((Row8.place w .u8 p 24 w.heap.size rfl lp).alloc (.cells #[.int .u8 0, .int .u8 0, .int .u8 0, .int .u8 0, .int .u8 0, .int .u8 0, .int .u8 0, .int .u8 0] 24))
  have RZ := Lib.hid (Row8.zeros (w.alloc (.cells #[.int .u8 (at8 p 0), .int .u8 (at8 p 1), .int .u8 (at8 p 2), .int .u8 (at8 p 3), .int .u8 (at8 p 4), .int .u8 (at8 p 5), .int .u8 (at8 p 6), .int .u8 (at8 p 7)] 24)) .u8 24 (w.heap.size + 1) (by simp))
  have BB := Lib.hid (below2 w (.cells #[.int .u8 (at8 p 0), .int .u8 (at8 p 1), .int .u8 (at8 p 2), .int .u8 (at8 p 3), .int .u8 (at8 p 4), .int .u8 (at8 p 5), .int .u8 (at8 p 6), .int .u8 (at8 p 7)] 24) (.cells #[.int .u8 0, .int .u8 0, .int .u8 0, .int .u8 0, .int .u8 0, .int .u8 0, .int .u8 0, .int .u8 0] 24))
  obtain ⟨⟨qRA0, qRA1, qRA2, qRA3⟩, qRA4, qRA5, qRA6, qRA7⟩ := RA.out.all
  go_wp2_with fail
  refine (pBack_any n p HP.out _).mono ?_
  rintro e w2 ⟨rfl, hb⟩
  clear qRA0 qRA1 qRA2 qRA3 qRA4 qRA5 qRA6 qRA7
  replace RA := Lib.hid (RA.out.below hb)
  replace RZ := Lib.hid (RZ.out.below hb)
  replace BB := Lib.hid (below_go BB.out hb BB.out.size)
  clear hb
  obtain ⟨⟨qRA0, qRA1, qRA2, qRA3⟩, qRA4, qRA5, qRA6, qRA7⟩ := RA.out.all
  go_wp2_with fail
  refine (whole_any n h1 h8 _).mono ?_
  rintro e w4 ⟨rfl, hb⟩
  clear qRA0 qRA1 qRA2 qRA3 qRA4 qRA5 qRA6 qRA7
  replace RA := Lib.hid (RA.out.below hb)
  replace RZ := Lib.hid (RZ.out.below hb)
  replace BB := Lib.hid (below_go BB.out hb BB.out.size)
  clear hb
  obtain ⟨⟨qRA0, qRA1, qRA2, qRA3⟩, qRA4, qRA5, qRA6, qRA7⟩ := RA.out.all
  go_wp2_with fail
  refine (pThen_any n h8 (backR n p) (wholeR n) (mapR_len _ _ h8) (mapR_len _ _ h8) (backR_sim HP.out).wide _).mono ?_
  rintro e w6 ⟨rfl, hb⟩
  clear qRA0 qRA1 qRA2 qRA3 qRA4 qRA5 qRA6 qRA7
  replace RA := Lib.hid (RA.out.below hb)
  replace RZ := Lib.hid (RZ.out.below hb)
  replace BB := Lib.hid (below_go BB.out hb BB.out.size)
  clear hb
  obtain ⟨⟨d0, d1, d2, d3⟩, d4, d5, d6, d7⟩ := RZ.out.all
  obtain ⟨⟨f0, f1, f2, f3⟩, f4, f5, f6, f7⟩ := RZ.out.frees
  have zq := RZ.out.lt
  go_wp2
  obtain ⟨⟨e0, e1, e2, e3⟩, e4, e5, e6, e7⟩ := (RZ.out.fill (thenR n (backR n p) (wholeR n)) (mapR_len _ _ h8)).all
  refine bodyPost_ret (v := arr8 .u8 (thenR n (backR n p) (wholeR n))) (by simp [results, Try.results46, go_sem, e0, e1, e2, e3, e4, e5, e6, e7]) rfl ⟨rfl, ?_⟩
  exact below_fill8 BB.out _ (by omega) _ _ _ _ _ _ _ _

end Go.Proofs.Ythelncibpoijoaa
