/- The turn of a simple braid, both. -/
import Derived.Test.YtleoohplnkdbdabCjIRows
import Derived.Test.YtleoohplnkdbdabCjSThen
import Derived.Test.YtleoohplnkdbdabCjSHalf
import Derived.Deep.RegionHeld3
namespace Go.Proofs.Ytleoohplnkdbdab
open Go.RowKit Go.ChangeShapes

set_option maxRecDepth 100000 in
set_option maxHeartbeats 1000000 in
theorem l02Turn_any (n : Nat) (s : List Int) (hs : Sim n s) (w : World) :
  Calls Try.prog 98 #[arr8 .u8 s, .int .i64 n] w (RetArr .u8 w (thenR n (thenR n (halfR n) s) (halfR n))) := by
 have h8 := hs.hi
 have ls := hs.len
 have HS := Lib.hid hs
 clear hs
 go_enter Try.func98, Try.ntmps98
 have RA := Lib.hid ((Row8.place w .u8 s 54 w.heap.size rfl ls).alloc (.cells #[.int .u8 0, .int .u8 0, .int .u8 0, .int .u8 0, .int .u8 0, .int .u8 0, .int .u8 0, .int .u8 0] 54))
 have RZ := Lib.hid (Row8.zeros (w.alloc (.cells #[.int .u8 (at8 s 0), .int .u8 (at8 s 1), .int .u8 (at8 s 2), .int .u8 (at8 s 3), .int .u8 (at8 s 4), .int .u8 (at8 s 5), .int .u8 (at8 s 6), .int .u8 (at8 s 7)] 54)) .u8 54 (w.heap.size + 1) (by simp))
 have BB := Lib.hid (below2 w (.cells #[.int .u8 (at8 s 0), .int .u8 (at8 s 1), .int .u8 (at8 s 2), .int .u8 (at8 s 3), .int .u8 (at8 s 4), .int .u8 (at8 s 5), .int .u8 (at8 s 6), .int .u8 (at8 s 7)] 54) (.cells #[.int .u8 0, .int .u8 0, .int .u8 0, .int .u8 0, .int .u8 0, .int .u8 0, .int .u8 0, .int .u8 0] 54))
 have LS := Lib.hid ls
 clear ls
 go_wp2_with fail
 refine (l02Half_any n h8 _).mono ?_
 rintro e w2 ⟨rfl, hb⟩
 replace RA := Lib.hid (RA.out.below hb)
 replace RZ := Lib.hid (RZ.out.below hb)
 replace BB := Lib.hid (below_go BB.out hb BB.out.size)
 clear hb
 have zh := RZ.out.lt
 have RH := Lib.hid (Row8.place w2 .u8 (halfR n) 54 w2.heap.size rfl (mapR_len _ _ h8))
 replace RA := Lib.hid (RA.out.alloc (.cells #[.int .u8 (at8 (halfR n) 0), .int .u8 (at8 (halfR n) 1), .int .u8 (at8 (halfR n) 2), .int .u8 (at8 (halfR n) 3), .int .u8 (at8 (halfR n) 4), .int .u8 (at8 (halfR n) 5), .int .u8 (at8 (halfR n) 6), .int .u8 (at8 (halfR n) 7)] 54))
 replace RZ := Lib.hid (RZ.out.alloc (.cells #[.int .u8 (at8 (halfR n) 0), .int .u8 (at8 (halfR n) 1), .int .u8 (at8 (halfR n) 2), .int .u8 (at8 (halfR n) 3), .int .u8 (at8 (halfR n) 4), .int .u8 (at8 (halfR n) 5), .int .u8 (at8 (halfR n) 6), .int .u8 (at8 (halfR n) 7)] 54))
 replace BB := Lib.hid (BB.out.alloc BB.out.size (.cells #[.int .u8 (at8 (halfR n) 0), .int .u8 (at8 (halfR n) 1), .int .u8 (at8 (halfR n) 2), .int .u8 (at8 (halfR n) 3), .int .u8 (at8 (halfR n) 4), .int .u8 (at8 (halfR n) 5), .int .u8 (at8 (halfR n) 6), .int .u8 (at8 (halfR n) 7)] 54))
 go_wp2
 obtain ⟨W, hW⟩ : ∃ W, W = w2.alloc (.cells #[.int .u8 (at8 (halfR n) 0), .int .u8 (at8 (halfR n) 1), .int .u8 (at8 (halfR n) 2), .int .u8 (at8 (halfR n) 3), .int .u8 (at8 (halfR n) 4), .int .u8 (at8 (halfR n) 5), .int .u8 (at8 (halfR n) 6), .int .u8 (at8 (halfR n) 7)] 54) := ⟨_, rfl⟩
 rw [← hW] at RA RZ RH BB ⊢
 clear hW
 obtain ⟨gh, hgh⟩ : ∃ gh, gh = w2.heap.size := ⟨_, rfl⟩
 rw [← hgh] at RH zh ⊢
 clear hgh
 have zb := BB.out.size
 go_region_held3 (fun w' => (w'.cell? ⟨w.heap.size, 0, none⟩ = some (.int .u8 (at8 s 0)) ∧ w'.cell? ⟨w.heap.size, 1, none⟩ = some (.int .u8 (at8 s 1)) ∧ w'.cell? ⟨w.heap.size, 2, none⟩ = some (.int .u8 (at8 s 2)) ∧ w'.cell? ⟨w.heap.size, 3, none⟩ = some (.int .u8 (at8 s 3)) ∧ w'.cell? ⟨w.heap.size, 4, none⟩ = some (.int .u8 (at8 s 4)) ∧ w'.cell? ⟨w.heap.size, 5, none⟩ = some (.int .u8 (at8 s 5)) ∧ w'.cell? ⟨w.heap.size, 6, none⟩ = some (.int .u8 (at8 s 6)) ∧ w'.cell? ⟨w.heap.size, 7, none⟩ = some (.int .u8 (at8 s 7))) ∧ (w'.cell? ⟨gh, 0, none⟩ = some (.int .u8 (at8 (halfR n) 0)) ∧ w'.cell? ⟨gh, 1, none⟩ = some (.int .u8 (at8 (halfR n) 1)) ∧ w'.cell? ⟨gh, 2, none⟩ = some (.int .u8 (at8 (halfR n) 2)) ∧ w'.cell? ⟨gh, 3, none⟩ = some (.int .u8 (at8 (halfR n) 3)) ∧ w'.cell? ⟨gh, 4, none⟩ = some (.int .u8 (at8 (halfR n) 4)) ∧ w'.cell? ⟨gh, 5, none⟩ = some (.int .u8 (at8 (halfR n) 5)) ∧ w'.cell? ⟨gh, 6, none⟩ = some (.int .u8 (at8 (halfR n) 6)) ∧ w'.cell? ⟨gh, 7, none⟩ = some (.int .u8 (at8 (halfR n) 7)))) (first | with_reducible exact ⟨(RA.out.drew).flat, (RH.out.drew).flat⟩ | with_reducible exact ⟨(RA.out.drew.below h1).flat, (RH.out.drew.below h1).flat⟩ | with_reducible exact ⟨((RA.out.drew.below h1).below h2).flat, ((RH.out.drew.below h1).below h2).flat⟩ | with_reducible exact ⟨(((RA.out.drew.below h1).below h2).past (w.heap.size + 1) (by omega) _ _ _ _ _ _ _ _).flat, (((RH.out.drew.below h1).below h2).past (w.heap.size + 1) (by omega) _ _ _ _ _ _ _ _).flat⟩)
  (first
   | (go_at_call_of 114 (at8 s 0); refine (l02Then_any n h8 (halfR n) s (mapR_len _ _ h8) LS.out (halfR_sim n HS.out.lo h8).wide _).mono ?_; rintro e w1 ⟨rfl, h1⟩)
   | (go_at_call 114; refine (l02Then_any n h8 (thenR n (halfR n) s) (halfR n) (mapR_len _ _ h8) (mapR_len _ _ h8) (thenR_sim (halfR_sim n HS.out.lo h8) HS.out).wide _).mono ?_; rintro e w2 ⟨rfl, h2⟩; obtain ⟨⟨d0, d1, d2, d3⟩, d4, d5, d6, d7⟩ := ((RZ.out.drew.below h1).below h2).all; obtain ⟨⟨f0, f1, f2, f3⟩, f4, f5, f6, f7⟩ := ((RZ.out.drew.below h1).below h2).frees; have zq := ((RZ.out.drew.below h1).below h2).lt))
 have R3 := Lib.hid ((RZ.out.drew.below h1).below h2)
 have B3 := Lib.hid (below_go (below_go BB.out.drew h1 zb) h2 (Nat.le_trans zb h1.size))
 clear BB
 have BB := B3
 clear h1 h2
 go_wp2
 obtain ⟨⟨e0, e1, e2, e3⟩, e4, e5, e6, e7⟩ := (R3.out.fill (thenR n (thenR n (halfR n) s) (halfR n)) (mapR_len _ _ h8)).all
 refine bodyPost_ret (v := arr8 .u8 (thenR n (thenR n (halfR n) s) (halfR n))) (by simp [results, Try.results98, go_sem, e0, e1, e2, e3, e4, e5, e6, e7]) rfl ⟨rfl, ?_⟩
 exact below_fill8 BB.out _ (by omega) _ _ _ _ _ _ _ _

set_option maxRecDepth 100000 in
set_option maxHeartbeats 1000000 in
theorem turn_any (n : Nat) (s : List Int) (hs : Sim n s) (w : World) :
  Calls Try.prog 110 #[arr8 .u8 s, .int .i64 n] w (RetArr .u8 w (thenR n (thenR n (halfR n) s) (halfR n))) := by
 have h8 := hs.hi
 have ls := hs.len
 have HS := Lib.hid hs
 clear hs
 go_enter Try.func110, Try.ntmps110
 have RA := Lib.hid ((Row8.place w .u8 s 54 w.heap.size rfl ls).alloc (.cells #[.int .u8 0, .int .u8 0, .int .u8 0, .int .u8 0, .int .u8 0, .int .u8 0, .int .u8 0, .int .u8 0] 54))
 have RZ := Lib.hid (Row8.zeros (w.alloc (.cells #[.int .u8 (at8 s 0), .int .u8 (at8 s 1), .int .u8 (at8 s 2), .int .u8 (at8 s 3), .int .u8 (at8 s 4), .int .u8 (at8 s 5), .int .u8 (at8 s 6), .int .u8 (at8 s 7)] 54)) .u8 54 (w.heap.size + 1) (by simp))
 have BB := Lib.hid (below2 w (.cells #[.int .u8 (at8 s 0), .int .u8 (at8 s 1), .int .u8 (at8 s 2), .int .u8 (at8 s 3), .int .u8 (at8 s 4), .int .u8 (at8 s 5), .int .u8 (at8 s 6), .int .u8 (at8 s 7)] 54) (.cells #[.int .u8 0, .int .u8 0, .int .u8 0, .int .u8 0, .int .u8 0, .int .u8 0, .int .u8 0, .int .u8 0] 54))
 have LS := Lib.hid ls
 clear ls
 go_wp2_with fail
 refine (halfTurn_any n h8 _).mono ?_
 rintro e w2 ⟨rfl, hb⟩
 replace RA := Lib.hid (RA.out.below hb)
 replace RZ := Lib.hid (RZ.out.below hb)
 replace BB := Lib.hid (below_go BB.out hb BB.out.size)
 clear hb
 have zh := RZ.out.lt
 have RH := Lib.hid (Row8.place w2 .u8 (halfR n) 54 w2.heap.size rfl (mapR_len _ _ h8))
 replace RA := Lib.hid (RA.out.alloc (.cells #[.int .u8 (at8 (halfR n) 0), .int .u8 (at8 (halfR n) 1), .int .u8 (at8 (halfR n) 2), .int .u8 (at8 (halfR n) 3), .int .u8 (at8 (halfR n) 4), .int .u8 (at8 (halfR n) 5), .int .u8 (at8 (halfR n) 6), .int .u8 (at8 (halfR n) 7)] 54))
 replace RZ := Lib.hid (RZ.out.alloc (.cells #[.int .u8 (at8 (halfR n) 0), .int .u8 (at8 (halfR n) 1), .int .u8 (at8 (halfR n) 2), .int .u8 (at8 (halfR n) 3), .int .u8 (at8 (halfR n) 4), .int .u8 (at8 (halfR n) 5), .int .u8 (at8 (halfR n) 6), .int .u8 (at8 (halfR n) 7)] 54))
 replace BB := Lib.hid (BB.out.alloc BB.out.size (.cells #[.int .u8 (at8 (halfR n) 0), .int .u8 (at8 (halfR n) 1), .int .u8 (at8 (halfR n) 2), .int .u8 (at8 (halfR n) 3), .int .u8 (at8 (halfR n) 4), .int .u8 (at8 (halfR n) 5), .int .u8 (at8 (halfR n) 6), .int .u8 (at8 (halfR n) 7)] 54))
 go_wp2
 obtain ⟨W, hW⟩ : ∃ W, W = w2.alloc (.cells #[.int .u8 (at8 (halfR n) 0), .int .u8 (at8 (halfR n) 1), .int .u8 (at8 (halfR n) 2), .int .u8 (at8 (halfR n) 3), .int .u8 (at8 (halfR n) 4), .int .u8 (at8 (halfR n) 5), .int .u8 (at8 (halfR n) 6), .int .u8 (at8 (halfR n) 7)] 54) := ⟨_, rfl⟩
 rw [← hW] at RA RZ RH BB ⊢
 clear hW
 obtain ⟨gh, hgh⟩ : ∃ gh, gh = w2.heap.size := ⟨_, rfl⟩
 rw [← hgh] at RH zh ⊢
 clear hgh
 have zb := BB.out.size
 go_region_held3 (fun w' => (w'.cell? ⟨w.heap.size, 0, none⟩ = some (.int .u8 (at8 s 0)) ∧ w'.cell? ⟨w.heap.size, 1, none⟩ = some (.int .u8 (at8 s 1)) ∧ w'.cell? ⟨w.heap.size, 2, none⟩ = some (.int .u8 (at8 s 2)) ∧ w'.cell? ⟨w.heap.size, 3, none⟩ = some (.int .u8 (at8 s 3)) ∧ w'.cell? ⟨w.heap.size, 4, none⟩ = some (.int .u8 (at8 s 4)) ∧ w'.cell? ⟨w.heap.size, 5, none⟩ = some (.int .u8 (at8 s 5)) ∧ w'.cell? ⟨w.heap.size, 6, none⟩ = some (.int .u8 (at8 s 6)) ∧ w'.cell? ⟨w.heap.size, 7, none⟩ = some (.int .u8 (at8 s 7))) ∧ (w'.cell? ⟨gh, 0, none⟩ = some (.int .u8 (at8 (halfR n) 0)) ∧ w'.cell? ⟨gh, 1, none⟩ = some (.int .u8 (at8 (halfR n) 1)) ∧ w'.cell? ⟨gh, 2, none⟩ = some (.int .u8 (at8 (halfR n) 2)) ∧ w'.cell? ⟨gh, 3, none⟩ = some (.int .u8 (at8 (halfR n) 3)) ∧ w'.cell? ⟨gh, 4, none⟩ = some (.int .u8 (at8 (halfR n) 4)) ∧ w'.cell? ⟨gh, 5, none⟩ = some (.int .u8 (at8 (halfR n) 5)) ∧ w'.cell? ⟨gh, 6, none⟩ = some (.int .u8 (at8 (halfR n) 6)) ∧ w'.cell? ⟨gh, 7, none⟩ = some (.int .u8 (at8 (halfR n) 7)))) (first | with_reducible exact ⟨(RA.out.drew).flat, (RH.out.drew).flat⟩ | with_reducible exact ⟨(RA.out.drew.below h1).flat, (RH.out.drew.below h1).flat⟩ | with_reducible exact ⟨((RA.out.drew.below h1).below h2).flat, ((RH.out.drew.below h1).below h2).flat⟩ | with_reducible exact ⟨(((RA.out.drew.below h1).below h2).past (w.heap.size + 1) (by omega) _ _ _ _ _ _ _ _).flat, (((RH.out.drew.below h1).below h2).past (w.heap.size + 1) (by omega) _ _ _ _ _ _ _ _).flat⟩)
  (first
   | (go_at_call_of 109 (at8 s 0); refine (then_any n h8 (halfR n) s (mapR_len _ _ h8) LS.out (halfR_sim n HS.out.lo h8).wide _).mono ?_; rintro e w1 ⟨rfl, h1⟩)
   | (go_at_call 109; refine (then_any n h8 (thenR n (halfR n) s) (halfR n) (mapR_len _ _ h8) (mapR_len _ _ h8) (thenR_sim (halfR_sim n HS.out.lo h8) HS.out).wide _).mono ?_; rintro e w2 ⟨rfl, h2⟩; obtain ⟨⟨d0, d1, d2, d3⟩, d4, d5, d6, d7⟩ := ((RZ.out.drew.below h1).below h2).all; obtain ⟨⟨f0, f1, f2, f3⟩, f4, f5, f6, f7⟩ := ((RZ.out.drew.below h1).below h2).frees; have zq := ((RZ.out.drew.below h1).below h2).lt))
 have R3 := Lib.hid ((RZ.out.drew.below h1).below h2)
 have B3 := Lib.hid (below_go (below_go BB.out.drew h1 zb) h2 (Nat.le_trans zb h1.size))
 clear BB
 have BB := B3
 clear h1 h2
 go_wp2
 obtain ⟨⟨e0, e1, e2, e3⟩, e4, e5, e6, e7⟩ := (R3.out.fill (thenR n (thenR n (halfR n) s) (halfR n)) (mapR_len _ _ h8)).all
 refine bodyPost_ret (v := arr8 .u8 (thenR n (thenR n (halfR n) s) (halfR n))) (by simp [results, Try.results110, go_sem, e0, e1, e2, e3, e4, e5, e6, e7]) rfl ⟨rfl, ?_⟩
 exact below_fill8 BB.out _ (by omega) _ _ _ _ _ _ _ _

end Go.Proofs.Ytleoohplnkdbdab

