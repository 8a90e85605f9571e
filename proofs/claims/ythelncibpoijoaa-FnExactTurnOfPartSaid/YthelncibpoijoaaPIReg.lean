/- The program: left complements and turns. -/
import Derived.Test.YthelncibpoijoaaPIRow
import Derived.Deep.RegionHeld3
import Derived.Deep.DeepCutAuto
namespace Go.Proofs.Ythelncibpoijoaa
open Go.RowKit Go.ChangeShapes

set_option maxRecDepth 100000 in
set_option maxHeartbeats 1000000 in
theorem pLeft_any (n : Nat) (p : List Int) (hp : Sim n p) (w : World) :
    Calls Try.prog 85 #[arr8 .u8 p, .int .i64 n] w (RetArr .u8 w (leftP n p)) := by
  have h1 := hp.lo
  have h8 := hp.hi
  have lp := hp.len
  have HP := Lib.hid hp
  clear hp
  go_enter Try.func85, Try.ntmps85
  have RA := Lib.hid ((Row8.place w .u8 p 24 w.heap.size rfl lp).alloc (.cells #[.int .u8 0, .int .u8 0, .int .u8 0, .int .u8 0, .int .u8 0, .int .u8 0, .int .u8 0, .int .u8 0] 24))
  have RZ := Lib.hid (Row8.zeros (w.alloc (.cells #[.int .u8 (at8 p 0), .int .u8 (at8 p 1), .int .u8 (at8 p 2), .int .u8 (at8 p 3), .int .u8 (at8 p 4), .int .u8 (at8 p 5), .int .u8 (at8 p 6), .int .u8 (at8 p 7)] 24)) .u8 24 (w.heap.size + 1) (by simp))
  have BB := Lib.hid (below2 w (.cells #[.int .u8 (at8 p 0), .int .u8 (at8 p 1), .int .u8 (at8 p 2), .int .u8 (at8 p 3), .int .u8 (at8 p 4), .int .u8 (at8 p 5), .int .u8 (at8 p 6), .int .u8 (at8 p 7)] 24) (.cells #[.int .u8 0, .int .u8 0, .int .u8 0, .int .u8 0, .int .u8 0, .int .u8 0, .int .u8 0, .int .u8 0] 24))
  obtain ⟨W, hW⟩ : ∃ W, W = ((w.alloc (.cells #[.int .u8 (at8 p 0), .int .u8 (at8 p 1), .int .u8 (at8 p 2), .int .u8 (at8 p 3), .int .u8 (at8 p 4), .int .u8 (at8 p 5), .int .u8 (at8 p 6), .int .u8 (at8 p 7)] 24)).alloc (.cells #[.int .u8 0, .int .u8 0, .int .u8 0, .int .u8 0, .int .u8 0, .int .u8 0, .int .u8 0, .int .u8 0] 24)) := ⟨_, rfl⟩
  go_upto_region 1 with fail
  rw [← hW] at RA RZ BB ⊢
  clear hW
  replace RA := Lib.hid RA.out.drew
  replace RZ := Lib.hid RZ.out.drew
  replace BB := Lib.hid BB.out.drew
  go_region_held3 (fun w' => (w'.cell? ⟨w.heap.size, 0, none⟩ = some (.int .u8 (at8 p 0)) ∧ w'.cell? ⟨w.heap.size, 1, none⟩ = some (.int .u8 (at8 p 1)) ∧ w'.cell? ⟨w.heap.size, 2, none⟩ = some (.int .u8 (at8 p 2)) ∧ w'.cell? ⟨w.heap.size, 3, none⟩ = some (.int .u8 (at8 p 3)) ∧ w'.cell? ⟨w.heap.size, 4, none⟩ = some (.int .u8 (at8 p 4)) ∧ w'.cell? ⟨w.heap.size, 5, none⟩ = some (.int .u8 (at8 p 5)) ∧ w'.cell? ⟨w.heap.size, 6, none⟩ = some (.int .u8 (at8 p 6)) ∧ w'.cell? ⟨w.heap.size, 7, none⟩ = some (.int .u8 (at8 p 7)))) (first | with_reducible exact RA.out.flat | with_reducible exact (RA.out.past (w.heap.size + 1) (by omega) _ _ _ _ _ _ _ _).flat)
    (first
      | (go_at_call 47; refine (whole_any n h1 h8 _).mono ?_; rintro e w1 ⟨rfl, g1⟩; replace RA := Lib.hid (RA.out.below g1); replace RZ := Lib.hid (RZ.out.below g1); replace BB := Lib.hid (below_go BB.out g1 BB.out.size))
      | (go_at_call 79; refine (pBack_any n p HP.out _).mono ?_; rintro e w2 ⟨rfl, g2⟩; replace RA := Lib.hid (RA.out.below g2); replace RZ := Lib.hid (RZ.out.below g2); replace BB := Lib.hid (below_go BB.out g2 BB.out.size))
      | (go_at_call 80; refine (pThen_any n h8 (wholeR n) (backR n p) (mapR_len _ _ h8) (mapR_len _ _ h8) (wholeR_sim n h1 h8).wide _).mono ?_; rintro e w3 ⟨rfl, g3⟩; replace RA := Lib.hid (RA.out.below g3); replace RZ := Lib.hid (RZ.out.below g3); replace BB := Lib.hid (below_go BB.out g3 BB.out.size); obtain ⟨⟨d0, d1, d2, d3⟩, d4, d5, d6, d7⟩ := RZ.out.all; obtain ⟨⟨f0, f1, f2, f3⟩, f4, f5, f6, f7⟩ := RZ.out.frees; have zq := RZ.out.lt))
  all_goals
    clear d0 d1 d2 d3 d4 d5 d6 d7 f0 f1 f2 f3 f4 f5 f6 f7
    go_wp2
    obtain ⟨⟨e0, e1, e2, e3⟩, e4, e5, e6, e7⟩ := (RZ.out.fill (thenR n (wholeR n) (backR n p)) (mapR_len _ _ h8)).all
    refine bodyPost_ret (v := arr8 .u8 (thenR n (wholeR n) (backR n p))) (by simp [results, Try.results85, go_sem, e0, e1, e2, e3, e4, e5, e6, e7]) rfl ⟨rfl, ?_⟩
    exact below_fill8 BB.out _ (by omega) _ _ _ _ _ _ _ _

set_option maxRecDepth 100000 in
set_option maxHeartbeats 1000000 in
theorem pTurn_any (n : Nat) (p : List Int) (hp : Sim n p) (w : World) :
    Calls Try.prog 60 #[arr8 .u8 p, .int .i64 n] w (RetArr .u8 w (turnP n p)) := by
  have h1 := hp.lo
  have h8 := hp.hi
  have lp := hp.len
  have HP := Lib.hid hp
  clear hp
  go_enter Try.func60, Try.ntmps60
  have RA := Lib.hid ((Row8.place w .u8 p 24 w.heap.size rfl lp).alloc (.cells #[.int .u8 0, .int .u8 0, .int .u8 0, .int .u8 0, .int .u8 0, .int .u8 0, .int .u8 0, .int .u8 0] 24))
  have RZ := Lib.hid (Row8.zeros (w.alloc (.cells #[.int .u8 (at8 p 0), .int .u8 (at8 p 1), .int .u8 (at8 p 2), .int .u8 (at8 p 3), .int .u8 (at8 p 4), .int .u8 (at8 p 5), .int .u8 (at8 p 6), .int .u8 (at8 p 7)] 24)) .u8 24 (w.heap.size + 1) (by simp))
  have BB := Lib.hid (below2 w (.cells #[.int .u8 (at8 p 0), .int .u8 (at8 p 1), .int .u8 (at8 p 2), .int .u8 (at8 p 3), .int .u8 (at8 p 4), .int .u8 (at8 p 5), .int .u8 (at8 p 6), .int .u8 (at8 p 7)] 24) (.cells #[.int .u8 0, .int .u8 0, .int .u8 0, .int .u8 0, .int .u8 0, .int .u8 0, .int .u8 0, .int .u8 0] 24))
  obtain ⟨W, hW⟩ : ∃ W, W = ((w.alloc (.cells #[.int .u8 (at8 p 0), .int .u8 (at8 p 1), .int .u8 (at8 p 2), .int .u8 (at8 p 3), .int .u8 (at8 p 4), .int .u8 (at8 p 5), .int .u8 (at8 p 6), .int .u8 (at8 p 7)] 24)).alloc (.cells #[.int .u8 0, .int .u8 0, .int .u8 0, .int .u8 0, .int .u8 0, .int .u8 0, .int .u8 0, .int .u8 0] 24)) := ⟨_, rfl⟩
  go_upto_region 1 with fail
  rw [← hW] at RA RZ BB ⊢
  clear hW
  replace RA := Lib.hid RA.out.drew
  replace RZ := Lib.hid RZ.out.drew
  replace BB := Lib.hid BB.out.drew
  go_region_held3 (fun w' => (w'.cell? ⟨w.heap.size, 0, none⟩ = some (.int .u8 (at8 p 0)) ∧ w'.cell? ⟨w.heap.size, 1, none⟩ = some (.int .u8 (at8 p 1)) ∧ w'.cell? ⟨w.heap.size, 2, none⟩ = some (.int .u8 (at8 p 2)) ∧ w'.cell? ⟨w.heap.size, 3, none⟩ = some (.int .u8 (at8 p 3)) ∧ w'.cell? ⟨w.heap.size, 4, none⟩ = some (.int .u8 (at8 p 4)) ∧ w'.cell? ⟨w.heap.size, 5, none⟩ = some (.int .u8 (at8 p 5)) ∧ w'.cell? ⟨w.heap.size, 6, none⟩ = some (.int .u8 (at8 p 6)) ∧ w'.cell? ⟨w.heap.size, 7, none⟩ = some (.int .u8 (at8 p 7)))) (first | with_reducible exact RA.out.flat | with_reducible exact (RA.out.past (w.heap.size + 1) (by omega) _ _ _ _ _ _ _ _).flat)
    (first
      | (go_at_call 79; refine (pBack_any n (wholeR n) (wholeR_sim n h1 h8) _).mono ?_; rintro e w1 ⟨rfl, g1⟩; replace RA := Lib.hid (RA.out.below g1); replace RZ := Lib.hid (RZ.out.below g1); replace BB := Lib.hid (below_go BB.out g1 BB.out.size))
      | (go_at_call_of 80 (at8 p 0); refine (pThen_any n h8 (backR n (wholeR n)) p (mapR_len _ _ h8) HP.out.len (backR_sim (wholeR_sim n h1 h8)).wide _).mono ?_; rintro e w2 ⟨rfl, g2⟩; replace RA := Lib.hid (RA.out.below g2); replace RZ := Lib.hid (RZ.out.below g2); replace BB := Lib.hid (below_go BB.out g2 BB.out.size))
      | (go_at_call 47; refine (whole_any n h1 h8 _).mono ?_; rintro e w3 ⟨rfl, g3⟩; replace RA := Lib.hid (RA.out.below g3); replace RZ := Lib.hid (RZ.out.below g3); replace BB := Lib.hid (below_go BB.out g3 BB.out.size))
      | (go_at_call 80; refine (pThen_any n h8 (thenR n (backR n (wholeR n)) p) (wholeR n) (mapR_len _ _ h8) (mapR_len _ _ h8) (thenR_sim (backR_sim (wholeR_sim n h1 h8)) HP.out).wide _).mono ?_; rintro e w4 ⟨rfl, g4⟩; replace RA := Lib.hid (RA.out.below g4); replace RZ := Lib.hid (RZ.out.below g4); replace BB := Lib.hid (below_go BB.out g4 BB.out.size); obtain ⟨⟨d0, d1, d2, d3⟩, d4, d5, d6, d7⟩ := RZ.out.all; obtain ⟨⟨f0, f1, f2, f3⟩, f4, f5, f6, f7⟩ := RZ.out.frees; have zq := RZ.out.lt))
  all_goals
    clear d0 d1 d2 d3 d4 d5 d6 d7 f0 f1 f2 f3 f4 f5 f6 f7
    go_wp2
    obtain ⟨⟨e0, e1, e2, e3⟩, e4, e5, e6, e7⟩ := (RZ.out.fill (thenR n (thenR n (backR n (wholeR n)) p) (wholeR n)) (mapR_len _ _ h8)).all
    refine bodyPost_ret (v := arr8 .u8 (thenR n (thenR n (backR n (wholeR n)) p) (wholeR n))) (by simp [results, Try.results60, go_sem, e0, e1, e2, e3, e4, e5, e6, e7]) rfl ⟨rfl, ?_⟩
    exact below_fill8 BB.out _ (by omega) _ _ _ _ _ _ _ _

end Go.Proofs.Ythelncibpoijoaa
