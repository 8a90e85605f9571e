/- Complements, both. -/
import Derived.Test.YtleoohplnkdbdabCjIRows
import Derived.Test.YtleoohplnkdbdabCjSThen
import Derived.Test.YtleoohplnkdbdabCjSHalf
import Derived.Test.YtleoohplnkdbdabCjSBack
namespace Go.Proofs.Ytleoohplnkdbdab
open Go.RowKit Go.ChangeShapes

set_option maxRecDepth 100000 in
set_option maxHeartbeats 1000000 in
theorem l02Complement_any (n : Nat) (s : List Int) (hs : Sim n s) (w : World) :
  Calls Try.prog 103 #[arr8 .u8 s, .int .i64 n] w (RetArr .u8 w (thenR n (backR n s) (halfR n))) := by
 have h8 := hs.hi
 have ls := hs.len
 have HS := Lib.hid hs
 clear hs
 go_enter Try.func103, Try.ntmps103
 have RA := Lib.hid ((Row8.place w .u8 s 54 w.heap.size rfl ls).alloc (.cells #[.int .u8 0, .int .u8 0, .int .u8 0, .int .u8 0, .int .u8 0, .int .u8 0, .int .u8 0, .int .u8 0] 54))
 have RZ := Lib.hid (Row8.zeros (w.alloc (.cells #[.int .u8 (at8 s 0), .int .u8 (at8 s 1), .int .u8 (at8 s 2), .int .u8 (at8 s 3), .int .u8 (at8 s 4), .int .u8 (at8 s 5), .int .u8 (at8 s 6), .int .u8 (at8 s 7)] 54)) .u8 54 (w.heap.size + 1) (by simp))
 have BB := Lib.hid (below2 w (.cells #[.int .u8 (at8 s 0), .int .u8 (at8 s 1), .int .u8 (at8 s 2), .int .u8 (at8 s 3), .int .u8 (at8 s 4), .int .u8 (at8 s 5), .int .u8 (at8 s 6), .int .u8 (at8 s 7)] 54) (.cells #[.int .u8 0, .int .u8 0, .int .u8 0, .int .u8 0, .int .u8 0, .int .u8 0, .int .u8 0, .int .u8 0] 54))
 have LS := Lib.hid ls
 clear ls
 obtain ⟨⟨qRA0, qRA1, qRA2, qRA3⟩, qRA4, qRA5, qRA6, qRA7⟩ := RA.out.all
 go_wp2_with fail
 refine (l02Back_any n s HS.out _).mono ?_
 rintro e w2 ⟨rfl, hb⟩
 clear qRA0 qRA1 qRA2 qRA3 qRA4 qRA5 qRA6 qRA7
 replace RA := Lib.hid (RA.out.below hb)
 replace RZ := Lib.hid (RZ.out.below hb)
 replace BB := Lib.hid (below_go BB.out hb BB.out.size)
 clear hb
 obtain ⟨⟨qRA0, qRA1, qRA2, qRA3⟩, qRA4, qRA5, qRA6, qRA7⟩ := RA.out.all
 go_wp2_with fail
 refine (l02Half_any n h8 _).mono ?_
 rintro e w4 ⟨rfl, hb⟩
 clear qRA0 qRA1 qRA2 qRA3 qRA4 qRA5 qRA6 qRA7
 replace RA := Lib.hid (RA.out.below hb)
 replace RZ := Lib.hid (RZ.out.below hb)
 replace BB := Lib.hid (below_go BB.out hb BB.out.size)
 clear hb
 obtain ⟨⟨qRA0, qRA1, qRA2, qRA3⟩, qRA4, qRA5, qRA6, qRA7⟩ := RA.out.all
 go_wp2_with fail
 refine (l02Then_any n h8 (backR n s) (halfR n) (mapR_len _ _ h8) (mapR_len _ _ h8) (backR_sim HS.out).wide _).mono ?_
 rintro e w6 ⟨rfl, hb⟩
 clear qRA0 qRA1 qRA2 qRA3 qRA4 qRA5 qRA6 qRA7
 replace RA := Lib.hid (RA.out.below hb)
 replace RZ := Lib.hid (RZ.out.below hb)
 replace BB := Lib.hid (below_go BB.out hb BB.out.size)
 clear hb
 obtain ⟨⟨d0, d1, d2, d3⟩, d4, d5, d6, d7⟩ := RZ.out.all
 obtain ⟨⟨f0, f1, f2, f3⟩, f4, f5, f6, f7⟩ := RZ.out.frees
 have zq := RZ.out.lt
 go_wp2
 obtain ⟨⟨e0, e1, e2, e3⟩, e4, e5, e6, e7⟩ := (RZ.out.fill (thenR n (backR n s) (halfR n)) (mapR_len _ _ h8)).all
 refine bodyPost_ret (v := arr8 .u8 (thenR n (backR n s) (halfR n))) (by simp [results, Try.results103, go_sem, e0, e1, e2, e3, e4, e5, e6, e7]) rfl ⟨rfl, ?_⟩
 exact below_fill8 BB.out _ (by omega) _ _ _ _ _ _ _ _

set_option maxRecDepth 100000 in
set_option maxHeartbeats 1000000 in
theorem complement_any (n : Nat) (s : List Int) (hs : Sim n s) (w : World) :
  Calls Try.prog 85 #[arr8 .u8 s, .int .i64 n] w (RetArr .u8 w (thenR n (backR n s) (halfR n))) := by
 have h8 := hs.hi
 have ls := hs.len
 have HS := Lib.hid hs
 clear hs
 go_enter Try.func85, Try.ntmps85
 have RA := Lib.hid ((Row8.place w .u8 s 54 w.heap.size rfl ls).alloc (.cells #[.int .u8 0, .int .u8 0, .int .u8 0, .int .u8 0, .int .u8 0, .int .u8 0, .int .u8 0, .int .u8 0] 54))
 have RZ := Lib.hid (Row8.zeros (w.alloc (.cells #[.int .u8 (at8 s 0), .int .u8 (at8 s 1), .int .u8 (at8 s 2), .int .u8 (at8 s 3), .int .u8 (at8 s 4), .int .u8 (at8 s 5), .int .u8 (at8 s 6), .int .u8 (at8 s 7)] 54)) .u8 54 (w.heap.size + 1) (by simp))
 have BB := Lib.hid (below2 w (.cells #[.int .u8 (at8 s 0), .int .u8 (at8 s 1), .int .u8 (at8 s 2), .int .u8 (at8 s 3), .int .u8 (at8 s 4), .int .u8 (at8 s 5), .int .u8 (at8 s 6), .int .u8 (at8 s 7)] 54) (.cells #[.int .u8 0, .int .u8 0, .int .u8 0, .int .u8 0, .int .u8 0, .int .u8 0, .int .u8 0, .int .u8 0] 54))
 have LS := Lib.hid ls
 clear ls
 obtain ⟨⟨qRA0, qRA1, qRA2, qRA3⟩, qRA4, qRA5, qRA6, qRA7⟩ := RA.out.all
 go_wp2_with fail
 refine (back_any n s HS.out _).mono ?_
 rintro e w2 ⟨rfl, hb⟩
 clear qRA0 qRA1 qRA2 qRA3 qRA4 qRA5 qRA6 qRA7
 replace RA := Lib.hid (RA.out.below hb)
 replace RZ := Lib.hid (RZ.out.below hb)
 replace BB := Lib.hid (below_go BB.out hb BB.out.size)
 clear hb
 obtain ⟨⟨qRA0, qRA1, qRA2, qRA3⟩, qRA4, qRA5, qRA6, qRA7⟩ := RA.out.all
 go_wp2_with fail
 refine (halfTurn_any n h8 _).mono ?_
 rintro e w4 ⟨rfl, hb⟩
 clear qRA0 qRA1 qRA2 qRA3 qRA4 qRA5 qRA6 qRA7
 replace RA := Lib.hid (RA.out.below hb)
 replace RZ := Lib.hid (RZ.out.below hb)
 replace BB := Lib.hid (below_go BB.out hb BB.out.size)
 clear hb
 obtain ⟨⟨qRA0, qRA1, qRA2, qRA3⟩, qRA4, qRA5, qRA6, qRA7⟩ := RA.out.all
 go_wp2_with fail
 refine (then_any n h8 (backR n s) (halfR n) (mapR_len _ _ h8) (mapR_len _ _ h8) (backR_sim HS.out).wide _).mono ?_
 rintro e w6 ⟨rfl, hb⟩
 clear qRA0 qRA1 qRA2 qRA3 qRA4 qRA5 qRA6 qRA7
 replace RA := Lib.hid (RA.out.below hb)
 replace RZ := Lib.hid (RZ.out.below hb)
 replace BB := Lib.hid (below_go BB.out hb BB.out.size)
 clear hb
 obtain ⟨⟨d0, d1, d2, d3⟩, d4, d5, d6, d7⟩ := RZ.out.all
 obtain ⟨⟨f0, f1, f2, f3⟩, f4, f5, f6, f7⟩ := RZ.out.frees
 have zq := RZ.out.lt
 go_wp2
 obtain ⟨⟨e0, e1, e2, e3⟩, e4, e5, e6, e7⟩ := (RZ.out.fill (thenR n (backR n s) (halfR n)) (mapR_len _ _ h8)).all
 refine bodyPost_ret (v := arr8 .u8 (thenR n (backR n s) (halfR n))) (by simp [results, Try.results85, go_sem, e0, e1, e2, e3, e4, e5, e6, e7]) rfl ⟨rfl, ?_⟩
 exact below_fill8 BB.out _ (by omega) _ _ _ _ _ _ _ _

end Go.Proofs.Ytleoohplnkdbdab

