/- The join of two simple braids: the program. -/
import Derived.Test.YtinflgcpkeomlabEMeet
import Derived.Test.YtinflgcpkeomlabIRows
import Derived.Test.YtinflgcpkeomlabSThen
import Derived.Test.YtinflgcpkeomlabSHalf
import Derived.Deep.RegionHeld3
namespace Go.Proofs.Ytinflgcpkeomlab
open Go.RowKit Go.ChangeShapes

set_option maxRecDepth 100000 in
set_option maxHeartbeats 1000000 in
theorem join_any (n : Nat) (a b : List Int) (sa : Sim n a) (sb : Sim n b) (w : World) :
    Calls Try.prog 60 #[arr8 .u8 a, arr8 .u8 b, .int .i64 n] w (RetArr .u8 w (thenR n (exsR n (takeR n [thenR n a (halfR n), thenR n b (halfR n)])) (halfR n))) := by
  have h8 := sa.hi
  have h1 := sa.lo
  have SA := Lib.hid sa
  have SB := Lib.hid sb
  clear sa sb
  go_enter Try.func60, Try.ntmps60
  have RA := Lib.hid (((Row8.place w .u8 a 23 w.heap.size rfl SA.out.len).alloc (.cells #[.int .u8 (at8 b 0), .int .u8 (at8 b 1), .int .u8 (at8 b 2), .int .u8 (at8 b 3), .int .u8 (at8 b 4), .int .u8 (at8 b 5), .int .u8 (at8 b 6), .int .u8 (at8 b 7)] 23)).alloc (.cells #[.int .u8 0, .int .u8 0, .int .u8 0, .int .u8 0, .int .u8 0, .int .u8 0, .int .u8 0, .int .u8 0] 23))
  have RB := Lib.hid ((Row8.place (w.alloc (.cells #[.int .u8 (at8 a 0), .int .u8 (at8 a 1), .int .u8 (at8 a 2), .int .u8 (at8 a 3), .int .u8 (at8 a 4), .int .u8 (at8 a 5), .int .u8 (at8 a 6), .int .u8 (at8 a 7)] 23)) .u8 b 23 (w.heap.size + 1) (by simp) SB.out.len).alloc (.cells #[.int .u8 0, .int .u8 0, .int .u8 0, .int .u8 0, .int .u8 0, .int .u8 0, .int .u8 0, .int .u8 0] 23))
  have RZ := Lib.hid (Row8.zeros ((w.alloc (.cells #[.int .u8 (at8 a 0), .int .u8 (at8 a 1), .int .u8 (at8 a 2), .int .u8 (at8 a 3), .int .u8 (at8 a 4), .int .u8 (at8 a 5), .int .u8 (at8 a 6), .int .u8 (at8 a 7)] 23)).alloc (.cells #[.int .u8 (at8 b 0), .int .u8 (at8 b 1), .int .u8 (at8 b 2), .int .u8 (at8 b 3), .int .u8 (at8 b 4), .int .u8 (at8 b 5), .int .u8 (at8 b 6), .int .u8 (at8 b 7)] 23)) .u8 23 (w.heap.size + 1 + 1) (by simp))
  have BB := Lib.hid (below3 w (.cells #[.int .u8 (at8 a 0), .int .u8 (at8 a 1), .int .u8 (at8 a 2), .int .u8 (at8 a 3), .int .u8 (at8 a 4), .int .u8 (at8 a 5), .int .u8 (at8 a 6), .int .u8 (at8 a 7)] 23) (.cells #[.int .u8 (at8 b 0), .int .u8 (at8 b 1), .int .u8 (at8 b 2), .int .u8 (at8 b 3), .int .u8 (at8 b 4), .int .u8 (at8 b 5), .int .u8 (at8 b 6), .int .u8 (at8 b 7)] 23) (.cells #[.int .u8 0, .int .u8 0, .int .u8 0, .int .u8 0, .int .u8 0, .int .u8 0, .int .u8 0, .int .u8 0] 23))
  go_wp2_with fail
  refine (halfTurn_any n h8 _).mono ?_
  rintro e w2 ⟨rfl, hb⟩
  replace RA := Lib.hid (RA.out.below hb)
  replace RB := Lib.hid (RB.out.below hb)
  replace RZ := Lib.hid (RZ.out.below hb)
  replace BB := Lib.hid (below_go BB.out hb BB.out.size)
  clear hb
  have zh := RZ.out.lt
  have RH := Lib.hid (Row8.place w2 .u8 (halfR n) 23 w2.heap.size rfl (mapR_len _ _ h8))
  replace RA := Lib.hid (RA.out.alloc (.cells #[.int .u8 (at8 (halfR n) 0), .int .u8 (at8 (halfR n) 1), .int .u8 (at8 (halfR n) 2), .int .u8 (at8 (halfR n) 3), .int .u8 (at8 (halfR n) 4), .int .u8 (at8 (halfR n) 5), .int .u8 (at8 (halfR n) 6), .int .u8 (at8 (halfR n) 7)] 23))
  replace RB := Lib.hid (RB.out.alloc (.cells #[.int .u8 (at8 (halfR n) 0), .int .u8 (at8 (halfR n) 1), .int .u8 (at8 (halfR n) 2), .int .u8 (at8 (halfR n) 3), .int .u8 (at8 (halfR n) 4), .int .u8 (at8 (halfR n) 5), .int .u8 (at8 (halfR n) 6), .int .u8 (at8 (halfR n) 7)] 23))
  replace RZ := Lib.hid (RZ.out.alloc (.cells #[.int .u8 (at8 (halfR n) 0), .int .u8 (at8 (halfR n) 1), .int .u8 (at8 (halfR n) 2), .int .u8 (at8 (halfR n) 3), .int .u8 (at8 (halfR n) 4), .int .u8 (at8 (halfR n) 5), .int .u8 (at8 (halfR n) 6), .int .u8 (at8 (halfR n) 7)] 23))
  replace BB := Lib.hid (BB.out.alloc BB.out.size (.cells #[.int .u8 (at8 (halfR n) 0), .int .u8 (at8 (halfR n) 1), .int .u8 (at8 (halfR n) 2), .int .u8 (at8 (halfR n) 3), .int .u8 (at8 (halfR n) 4), .int .u8 (at8 (halfR n) 5), .int .u8 (at8 (halfR n) 6), .int .u8 (at8 (halfR n) 7)] 23))
  go_upto_region 2 with fail
  obtain ⟨W, hW⟩ : ∃ W, W = w2.alloc (.cells #[.int .u8 (at8 (halfR n) 0), .int .u8 (at8 (halfR n) 1), .int .u8 (at8 (halfR n) 2), .int .u8 (at8 (halfR n) 3), .int .u8 (at8 (halfR n) 4), .int .u8 (at8 (halfR n) 5), .int .u8 (at8 (halfR n) 6), .int .u8 (at8 (halfR n) 7)] 23) := ⟨_, rfl⟩
  rw [← hW] at RA RB RZ RH BB ⊢
  clear hW
  obtain ⟨gh, hgh⟩ : ∃ gh, gh = w2.heap.size := ⟨_, rfl⟩
  rw [← hgh] at RH zh ⊢
  clear hgh
  have SH := Lib.hid (halfR_sim n h1 h8)
  have SX := Lib.hid (thenR_sim SA.out SH.out)
  have SY := Lib.hid (thenR_sim SB.out SH.out)
  have SM := Lib.hid (exsR_sim n h1 h8 (takeR n [thenR n a (halfR n), thenR n b (halfR n)]) (takeF_lets n 200 _))
  replace RA := Lib.hid RA.out.drew
  replace RB := Lib.hid RB.out.drew
  replace RH := Lib.hid RH.out.drew
  replace RZ := Lib.hid RZ.out.drew
  replace BB := Lib.hid BB.out.drew
  go_region_held3 (fun w' => (w'.cell? ⟨w.heap.size, 0, none⟩ = some (.int .u8 (at8 a 0)) ∧ w'.cell? ⟨w.heap.size, 1, none⟩ = some (.int .u8 (at8 a 1)) ∧ w'.cell? ⟨w.heap.size, 2, none⟩ = some (.int .u8 (at8 a 2)) ∧ w'.cell? ⟨w.heap.size, 3, none⟩ = some (.int .u8 (at8 a 3)) ∧ w'.cell? ⟨w.heap.size, 4, none⟩ = some (.int .u8 (at8 a 4)) ∧ w'.cell? ⟨w.heap.size, 5, none⟩ = some (.int .u8 (at8 a 5)) ∧ w'.cell? ⟨w.heap.size, 6, none⟩ = some (.int .u8 (at8 a 6)) ∧ w'.cell? ⟨w.heap.size, 7, none⟩ = some (.int .u8 (at8 a 7))) ∧ (w'.cell? ⟨w.heap.size + 1, 0, none⟩ = some (.int .u8 (at8 b 0)) ∧ w'.cell? ⟨w.heap.size + 1, 1, none⟩ = some (.int .u8 (at8 b 1)) ∧ w'.cell? ⟨w.heap.size + 1, 2, none⟩ = some (.int .u8 (at8 b 2)) ∧ w'.cell? ⟨w.heap.size + 1, 3, none⟩ = some (.int .u8 (at8 b 3)) ∧ w'.cell? ⟨w.heap.size + 1, 4, none⟩ = some (.int .u8 (at8 b 4)) ∧ w'.cell? ⟨w.heap.size + 1, 5, none⟩ = some (.int .u8 (at8 b 5)) ∧ w'.cell? ⟨w.heap.size + 1, 6, none⟩ = some (.int .u8 (at8 b 6)) ∧ w'.cell? ⟨w.heap.size + 1, 7, none⟩ = some (.int .u8 (at8 b 7))) ∧ (w'.cell? ⟨gh, 0, none⟩ = some (.int .u8 (at8 (halfR n) 0)) ∧ w'.cell? ⟨gh, 1, none⟩ = some (.int .u8 (at8 (halfR n) 1)) ∧ w'.cell? ⟨gh, 2, none⟩ = some (.int .u8 (at8 (halfR n) 2)) ∧ w'.cell? ⟨gh, 3, none⟩ = some (.int .u8 (at8 (halfR n) 3)) ∧ w'.cell? ⟨gh, 4, none⟩ = some (.int .u8 (at8 (halfR n) 4)) ∧ w'.cell? ⟨gh, 5, none⟩ = some (.int .u8 (at8 (halfR n) 5)) ∧ w'.cell? ⟨gh, 6, none⟩ = some (.int .u8 (at8 (halfR n) 6)) ∧ w'.cell? ⟨gh, 7, none⟩ = some (.int .u8 (at8 (halfR n) 7)))) (first | with_reducible exact ⟨RA.out.flat, RB.out.flat, RH.out.flat⟩ | with_reducible exact ⟨(RA.out.past (w.heap.size + 1 + 1) (by omega) _ _ _ _ _ _ _ _).flat, (RB.out.past (w.heap.size + 1 + 1) (by omega) _ _ _ _ _ _ _ _).flat, (RH.out.past (w.heap.size + 1 + 1) (by omega) _ _ _ _ _ _ _ _).flat⟩)
    (first
      | (go_at_call_of 84 (at8 a 0); refine (then_any n h8 a (halfR n) SA.out.len (mapR_len _ _ h8) SA.out.wide _).mono ?_; rintro e w1 ⟨rfl, g1⟩; replace RA := Lib.hid (RA.out.below g1); replace RB := Lib.hid (RB.out.below g1); replace RH := Lib.hid (RH.out.below g1); replace RZ := Lib.hid (RZ.out.below g1); replace BB := Lib.hid (below_go BB.out g1 BB.out.size))
      | (go_at_call_of 84 (at8 b 0); refine (then_any n h8 b (halfR n) SB.out.len (mapR_len _ _ h8) SB.out.wide _).mono ?_; rintro e w2 ⟨rfl, g2⟩; replace RA := Lib.hid (RA.out.below g2); replace RB := Lib.hid (RB.out.below g2); replace RH := Lib.hid (RH.out.below g2); replace RZ := Lib.hid (RZ.out.below g2); replace BB := Lib.hid (below_go BB.out g2 BB.out.size))
      | (go_at_call 58; refine (meet_any n (thenR n a (halfR n)) (thenR n b (halfR n)) SX.out SY.out _).mono ?_; rintro e w3 ⟨rfl, g3⟩; replace RA := Lib.hid (RA.out.below g3); replace RB := Lib.hid (RB.out.below g3); replace RH := Lib.hid (RH.out.below g3); replace RZ := Lib.hid (RZ.out.below g3); replace BB := Lib.hid (below_go BB.out g3 BB.out.size))
      | (go_at_call 84; refine (then_any n h8 (exsR n (takeR n [thenR n a (halfR n), thenR n b (halfR n)])) (halfR n) SM.out.len (mapR_len _ _ h8) SM.out.wide _).mono ?_; rintro e w4 ⟨rfl, g4⟩; replace RA := Lib.hid (RA.out.below g4); replace RB := Lib.hid (RB.out.below g4); replace RH := Lib.hid (RH.out.below g4); replace RZ := Lib.hid (RZ.out.below g4); replace BB := Lib.hid (below_go BB.out g4 BB.out.size); obtain ⟨⟨d0, d1, d2, d3⟩, d4, d5, d6, d7⟩ := RZ.out.all; obtain ⟨⟨f0, f1, f2, f3⟩, f4, f5, f6, f7⟩ := RZ.out.frees; have zq := RZ.out.lt))
  all_goals
    clear d0 d1 d2 d3 d4 d5 d6 d7 f0 f1 f2 f3 f4 f5 f6 f7
    go_wp2
    obtain ⟨⟨e0, e1, e2, e3⟩, e4, e5, e6, e7⟩ := (RZ.out.fill (thenR n (exsR n (takeR n [thenR n a (halfR n), thenR n b (halfR n)])) (halfR n)) (mapR_len _ _ h8)).all
    refine bodyPost_ret (v := arr8 .u8 (thenR n (exsR n (takeR n [thenR n a (halfR n), thenR n b (halfR n)])) (halfR n))) (by simp [results, Try.results60, go_sem, e0, e1, e2, e3, e4, e5, e6, e7]) rfl ⟨rfl, ?_⟩
    exact below_fill8 BB.out _ (by omega) _ _ _ _ _ _ _ _

end Go.Proofs.Ytinflgcpkeomlab
