/- Left complements, both. -/
import Derived.Test.YtleoohplnkdbdabSlIRows
import Derived.Test.YtleoohplnkdbdabSlSB
import Derived.Deep.RegionHeld3
namespace Go.Proofs.Ytleoohplnkdbdab
open Go.RowKit Go.ChangeShapes

set_option maxRecDepth 100000 in
set_option maxHeartbeats 1000000 in
theorem l02Left_any (n : Nat) (s : List Int) (hs : Sim n s) (w : World) :
  Calls Try.prog 106 #[arr8 .u8 s, .int .i64 n] w (RetArr .u8 w (thenR n (halfR n) (backR n s))) := by
 have h8 := hs.hi
 have ls := hs.len
 have HS := Lib.hid hs
 clear hs
 go_enter Try.func106, Try.ntmps106
 have RA := Lib.hid ((Row8.place w .u8 s 54 w.heap.size rfl ls).alloc (.cells #[.int .u8 0, .int .u8 0, .int .u8 0, .int .u8 0, .int .u8 0, .int .u8 0, .int .u8 0, .int .u8 0] 54))
 have RZ := Lib.hid (Row8.zeros (w.alloc (.cells #[.int .u8 (at8 s 0), .int .u8 (at8 s 1), .int .u8 (at8 s 2), .int .u8 (at8 s 3), .int .u8 (at8 s 4), .int .u8 (at8 s 5), .int .u8 (at8 s 6), .int .u8 (at8 s 7)] 54)) .u8 54 (w.heap.size + 1) (by simp))
 have BB := Lib.hid (below2 w (.cells #[.int .u8 (at8 s 0), .int .u8 (at8 s 1), .int .u8 (at8 s 2), .int .u8 (at8 s 3), .int .u8 (at8 s 4), .int .u8 (at8 s 5), .int .u8 (at8 s 6), .int .u8 (at8 s 7)] 54) (.cells #[.int .u8 0, .int .u8 0, .int .u8 0, .int .u8 0, .int .u8 0, .int .u8 0, .int .u8 0, .int .u8 0] 54))
 have LS := Lib.hid ls
 clear ls
 obtain ⟨W, hW⟩ : ∃ W, W = ((w.alloc (.cells #[.int .u8 (at8 s 0), .int .u8 (at8 s 1), .int .u8 (at8 s 2), .int .u8 (at8 s 3), .int .u8 (at8 s 4), .int .u8 (at8 s 5), .int .u8 (at8 s 6), .int .u8 (at8 s 7)] 54)).alloc (.cells #[.int .u8 0, .int .u8 0, .int .u8 0, .int .u8 0, .int .u8 0, .int .u8 0, .int .u8 0, .int .u8 0] 54)) := ⟨_, rfl⟩
 go_wp2
 rw [← hW] at RA RZ BB ⊢
 clear hW
 have zb := BB.out.size
 obtain ⟨⟨q0, q1, q2, q3⟩, q4, q5, q6, q7⟩ := RA.out.all
 go_region_held3 (fun w' => w'.cell? ⟨w.heap.size, 0, none⟩ = some (.int .u8 (at8 s 0)) ∧ w'.cell? ⟨w.heap.size, 1, none⟩ = some (.int .u8 (at8 s 1)) ∧ w'.cell? ⟨w.heap.size, 2, none⟩ = some (.int .u8 (at8 s 2)) ∧ w'.cell? ⟨w.heap.size, 3, none⟩ = some (.int .u8 (at8 s 3)) ∧ w'.cell? ⟨w.heap.size, 4, none⟩ = some (.int .u8 (at8 s 4)) ∧ w'.cell? ⟨w.heap.size, 5, none⟩ = some (.int .u8 (at8 s 5)) ∧ w'.cell? ⟨w.heap.size, 6, none⟩ = some (.int .u8 (at8 s 6)) ∧ w'.cell? ⟨w.heap.size, 7, none⟩ = some (.int .u8 (at8 s 7))) (first | with_reducible exact (RA.out.drew).flat | with_reducible exact (RA.out.drew.below hb1).flat | with_reducible exact ((RA.out.drew.below hb1).below hb2).flat | with_reducible exact (((RA.out.drew.below hb1).below hb2).below hb3).flat | with_reducible exact ((((RA.out.drew.below hb1).below hb2).below hb3).past (w.heap.size + 1) (by omega) _ _ _ _ _ _ _ _).flat)
  (first
   | (go_at_call 88; refine (l02Half_any n h8 _).mono ?_; rintro e w1 ⟨rfl, hb1⟩)
   | (go_at_call 33; refine (l02Back_any n s HS.out _).mono ?_; rintro e w2 ⟨rfl, hb2⟩)
   | (go_at_call 114; refine (l02Then_any n h8 (halfR n) (backR n s) (mapR_len _ _ h8) (mapR_len _ _ h8) (halfR_sim n HS.out.lo h8).wide _).mono ?_; rintro e w3 ⟨rfl, hb3⟩; obtain ⟨⟨d0, d1, d2, d3⟩, d4, d5, d6, d7⟩ := (((RZ.out.drew.below hb1).below hb2).below hb3).all; obtain ⟨⟨f0, f1, f2, f3⟩, f4, f5, f6, f7⟩ := (((RZ.out.drew.below hb1).below hb2).below hb3).frees; have zq := (((RZ.out.drew.below hb1).below hb2).below hb3).lt))
 have R3 := Lib.hid (((RZ.out.drew.below hb1).below hb2).below hb3)
 have B3 := Lib.hid (below_go (below_go (below_go BB.out.drew hb1 zb) hb2 (Nat.le_trans zb hb1.size)) hb3 (Nat.le_trans (Nat.le_trans zb hb1.size) hb2.size))
 clear BB
 have BB := B3
 clear hb1 hb2 hb3
 go_wp2
 obtain ⟨⟨e0, e1, e2, e3⟩, e4, e5, e6, e7⟩ := (R3.out.fill (thenR n (halfR n) (backR n s)) (mapR_len _ _ h8)).all
 refine bodyPost_ret (v := arr8 .u8 (thenR n (halfR n) (backR n s))) (by simp [results, Try.results106, go_sem, e0, e1, e2, e3, e4, e5, e6, e7]) rfl ⟨rfl, ?_⟩
 exact below_fill8 BB.out _ (by omega) _ _ _ _ _ _ _ _

end Go.Proofs.Ytleoohplnkdbdab

