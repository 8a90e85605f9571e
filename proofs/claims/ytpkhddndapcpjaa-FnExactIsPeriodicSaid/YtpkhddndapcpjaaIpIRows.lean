/- Simple braids: the program's rows: nothing, the half turn, one after the other, the way back. -/
import Derived.Test.YtpkhddndapcpjaaIpQA
namespace Go.Proofs.Ytpkhddndapcpjaa
open Go.RowKit Go.ChangeShapes

set_option maxRecDepth 100000 in
set_option maxHeartbeats 1000000 in
theorem nothing_any (n : Nat) (h8 : n ≤ 8) (w : World) :
  Calls Try.prog 45 #[.int .i64 n] w (RetArr .u8 w (sameR n)) := by
 go_enter Try.func45, Try.ntmps45
 have RZ := Lib.hid (Row8.zeros w .u8 53 w.heap.size rfl)
 have BB := Lib.hid (below1 w (.cells #[.int .u8 0, .int .u8 0, .int .u8 0, .int .u8 0, .int .u8 0, .int .u8 0, .int .u8 0, .int .u8 0] 53))
 go_wp2_with fail
 refine (simpleFrom_any 66 #[] (fun x => (x : Int)) n h8 _ enter_nothing1 (fun x W _ _ => (nothing1_any x W).mono fun _ _ ⟨he, hw⟩ => ⟨he, hw ▸ Below.refl _ _⟩)).mono ?_
 rintro e w2 ⟨rfl, hb⟩
 replace RZ := Lib.hid (RZ.out.below hb)
 replace BB := Lib.hid (below_go BB.out hb BB.out.size)
 clear hb
 obtain ⟨⟨d0, d1, d2, d3⟩, d4, d5, d6, d7⟩ := RZ.out.all
 obtain ⟨⟨f0, f1, f2, f3⟩, f4, f5, f6, f7⟩ := RZ.out.frees
 have zq := RZ.out.lt
 go_wp2
 obtain ⟨⟨e0, e1, e2, e3⟩, e4, e5, e6, e7⟩ := (RZ.out.fill (mapR n fun x => (x : Int)) (mapR_len _ _ h8)).all
 refine bodyPost_ret (v := arr8 .u8 (mapR n fun x => (x : Int))) (by simp [results, Try.results45, go_sem, e0, e1, e2, e3, e4, e5, e6, e7]) rfl ⟨rfl, ?_⟩
 exact below_fill8 BB.out _ (by omega) _ _ _ _ _ _ _ _

set_option maxRecDepth 100000 in
set_option maxHeartbeats 1000000 in
theorem halfTurn_any (n : Nat) (h8 : n ≤ 8) (w : World) :
  Calls Try.prog 46 #[.int .i64 n] w (RetArr .u8 w (halfR n)) := by
 go_enter Try.func46, Try.ntmps46
 have AN := Lib.hid ((At1.place w (.int .i64 n) 2 w.heap.size rfl).alloc (.cells #[.int .u8 0, .int .u8 0, .int .u8 0, .int .u8 0, .int .u8 0, .int .u8 0, .int .u8 0, .int .u8 0] 53))
 have RZ := Lib.hid (Row8.zeros (w.alloc (.cells #[.int .i64 n] 2)) .u8 53 (w.heap.size + 1) (by simp))
 have BB := Lib.hid (below2 w (.cells #[.int .i64 n] 2) (.cells #[.int .u8 0, .int .u8 0, .int .u8 0, .int .u8 0, .int .u8 0, .int .u8 0, .int .u8 0, .int .u8 0] 53))
 obtain ⟨qn1, qn2, qn3⟩ := AN.out
 go_wp2_with fail
 refine (simpleFrom_any 67 #[.pointer (some ⟨w.heap.size, 0, none⟩)] (fun x => (n : Int) - 1 - x) n h8 _ enter_half1 (fun x W hW hx => (half1_any n x _ h8 hx W (AN.out.below hW)).mono fun _ _ ⟨he, hw⟩ => ⟨he, hw ▸ Below.refl _ _⟩)).mono ?_
 rintro e w2 ⟨rfl, hb⟩
 replace RZ := Lib.hid (RZ.out.below hb)
 replace BB := Lib.hid (below_go BB.out hb BB.out.size)
 clear hb
 clear qn1 qn2 qn3
 obtain ⟨⟨d0, d1, d2, d3⟩, d4, d5, d6, d7⟩ := RZ.out.all
 obtain ⟨⟨f0, f1, f2, f3⟩, f4, f5, f6, f7⟩ := RZ.out.frees
 have zq := RZ.out.lt
 go_wp2
 obtain ⟨⟨e0, e1, e2, e3⟩, e4, e5, e6, e7⟩ := (RZ.out.fill (mapR n fun x => (n : Int) - 1 - x) (mapR_len _ _ h8)).all
 refine bodyPost_ret (v := arr8 .u8 (mapR n fun x => (n : Int) - 1 - x)) (by simp [results, Try.results46, go_sem, e0, e1, e2, e3, e4, e5, e6, e7]) rfl ⟨rfl, ?_⟩
 exact below_fill8 BB.out _ (by omega) _ _ _ _ _ _ _ _

set_option maxRecDepth 100000 in
set_option maxHeartbeats 1000000 in
theorem then_any (n : Nat) (h8 : n ≤ 8) (a b : List Int) (la : a.length = 8) (lb : b.length = 8) (ha : ∀ j, j < n → 0 ≤ at8 a j ∧ at8 a j < 8) (w : World) :
  Calls Try.prog 83 #[arr8 .u8 a, arr8 .u8 b, .int .i64 n] w (RetArr .u8 w (thenR n a b)) := by
 have HA := Lib.hid ha
 clear ha
 go_enter Try.func83, Try.ntmps83
 have RA := Lib.hid (((Row8.place w .u8 a 53 w.heap.size rfl la).alloc (.cells #[.int .u8 (at8 b 0), .int .u8 (at8 b 1), .int .u8 (at8 b 2), .int .u8 (at8 b 3), .int .u8 (at8 b 4), .int .u8 (at8 b 5), .int .u8 (at8 b 6), .int .u8 (at8 b 7)] 53)).alloc (.cells #[.int .u8 0, .int .u8 0, .int .u8 0, .int .u8 0, .int .u8 0, .int .u8 0, .int .u8 0, .int .u8 0] 53))
 have RB := Lib.hid ((Row8.place (w.alloc (.cells #[.int .u8 (at8 a 0), .int .u8 (at8 a 1), .int .u8 (at8 a 2), .int .u8 (at8 a 3), .int .u8 (at8 a 4), .int .u8 (at8 a 5), .int .u8 (at8 a 6), .int .u8 (at8 a 7)] 53)) .u8 b 53 (w.heap.size + 1) (by simp) lb).alloc (.cells #[.int .u8 0, .int .u8 0, .int .u8 0, .int .u8 0, .int .u8 0, .int .u8 0, .int .u8 0, .int .u8 0] 53))
 have RZ := Lib.hid (Row8.zeros ((w.alloc (.cells #[.int .u8 (at8 a 0), .int .u8 (at8 a 1), .int .u8 (at8 a 2), .int .u8 (at8 a 3), .int .u8 (at8 a 4), .int .u8 (at8 a 5), .int .u8 (at8 a 6), .int .u8 (at8 a 7)] 53)).alloc (.cells #[.int .u8 (at8 b 0), .int .u8 (at8 b 1), .int .u8 (at8 b 2), .int .u8 (at8 b 3), .int .u8 (at8 b 4), .int .u8 (at8 b 5), .int .u8 (at8 b 6), .int .u8 (at8 b 7)] 53)) .u8 53 (w.heap.size + 1 + 1) (by simp))
 have BB := Lib.hid (below3 w (.cells #[.int .u8 (at8 a 0), .int .u8 (at8 a 1), .int .u8 (at8 a 2), .int .u8 (at8 a 3), .int .u8 (at8 a 4), .int .u8 (at8 a 5), .int .u8 (at8 a 6), .int .u8 (at8 a 7)] 53) (.cells #[.int .u8 (at8 b 0), .int .u8 (at8 b 1), .int .u8 (at8 b 2), .int .u8 (at8 b 3), .int .u8 (at8 b 4), .int .u8 (at8 b 5), .int .u8 (at8 b 6), .int .u8 (at8 b 7)] 53) (.cells #[.int .u8 0, .int .u8 0, .int .u8 0, .int .u8 0, .int .u8 0, .int .u8 0, .int .u8 0, .int .u8 0] 53))
 go_wp2_with fail
 refine (simpleFrom_any 98 #[.pointer (some ⟨w.heap.size + 1, 0, none⟩), .pointer (some ⟨w.heap.size, 0, none⟩)] (fun x => at8 b (at8 a x).toNat) n h8 _ enter_then1 (fun x W hW hx => (then1_any n x _ _ h8 hx a b HA.out W (RA.out.below hW) (RB.out.below hW)).mono fun _ _ ⟨he, hw⟩ => ⟨he, hw ▸ Below.refl _ _⟩)).mono ?_
 rintro e w2 ⟨rfl, hb⟩
 replace RA := Lib.hid (RA.out.below hb)
 replace RB := Lib.hid (RB.out.below hb)
 replace RZ := Lib.hid (RZ.out.below hb)
 replace BB := Lib.hid (below_go BB.out hb BB.out.size)
 clear hb
 obtain ⟨⟨d0, d1, d2, d3⟩, d4, d5, d6, d7⟩ := RZ.out.all
 obtain ⟨⟨f0, f1, f2, f3⟩, f4, f5, f6, f7⟩ := RZ.out.frees
 have zq := RZ.out.lt
 go_wp2
 obtain ⟨⟨e0, e1, e2, e3⟩, e4, e5, e6, e7⟩ := (RZ.out.fill (mapR n fun x => at8 b (at8 a x).toNat) (mapR_len _ _ h8)).all
 refine bodyPost_ret (v := arr8 .u8 (mapR n fun x => at8 b (at8 a x).toNat)) (by simp [results, Try.results83, go_sem, e0, e1, e2, e3, e4, e5, e6, e7]) rfl ⟨rfl, ?_⟩
 exact below_fill8 BB.out _ (by omega) _ _ _ _ _ _ _ _

set_option maxRecDepth 100000 in
set_option maxHeartbeats 1000000 in
theorem back_any (n : Nat) (s : List Int) (hs : Sim n s) (w : World) :
  Calls Try.prog 80 #[arr8 .u8 s, .int .i64 n] w (RetArr .u8 w (backR n s)) := by
 have h8 := hs.hi
 have ls := hs.len
 have HS := Lib.hid hs
 clear hs
 go_enter Try.func80, Try.ntmps80
 have RA := Lib.hid (((Row8.place w .u8 s 53 w.heap.size rfl ls).alloc (.cells #[.int .i64 n] 2)).alloc (.cells #[.int .u8 0, .int .u8 0, .int .u8 0, .int .u8 0, .int .u8 0, .int .u8 0, .int .u8 0, .int .u8 0] 53))
 have AN := Lib.hid ((At1.place (w.alloc (.cells #[.int .u8 (at8 s 0), .int .u8 (at8 s 1), .int .u8 (at8 s 2), .int .u8 (at8 s 3), .int .u8 (at8 s 4), .int .u8 (at8 s 5), .int .u8 (at8 s 6), .int .u8 (at8 s 7)] 53)) (.int .i64 n) 2 (w.heap.size + 1) (by simp)).alloc (.cells #[.int .u8 0, .int .u8 0, .int .u8 0, .int .u8 0, .int .u8 0, .int .u8 0, .int .u8 0, .int .u8 0] 53))
 have RZ := Lib.hid (Row8.zeros ((w.alloc (.cells #[.int .u8 (at8 s 0), .int .u8 (at8 s 1), .int .u8 (at8 s 2), .int .u8 (at8 s 3), .int .u8 (at8 s 4), .int .u8 (at8 s 5), .int .u8 (at8 s 6), .int .u8 (at8 s 7)] 53)).alloc (.cells #[.int .i64 n] 2)) .u8 53 (w.heap.size + 1 + 1) (by simp))
 have BB := Lib.hid (below3 w (.cells #[.int .u8 (at8 s 0), .int .u8 (at8 s 1), .int .u8 (at8 s 2), .int .u8 (at8 s 3), .int .u8 (at8 s 4), .int .u8 (at8 s 5), .int .u8 (at8 s 6), .int .u8 (at8 s 7)] 53) (.cells #[.int .i64 n] 2) (.cells #[.int .u8 0, .int .u8 0, .int .u8 0, .int .u8 0, .int .u8 0, .int .u8 0, .int .u8 0, .int .u8 0] 53))
 have LS := Lib.hid ls
 clear ls
 obtain ⟨qn1, qn2, qn3⟩ := AN.out
 go_wp2_with fail
 refine (simpleFrom_any 96 #[.pointer (some ⟨w.heap.size, 0, none⟩), .pointer (some ⟨w.heap.size + 1, 0, none⟩)] (fun x => findR s x n 0) n h8 _ enter_back1 (fun x W hW hx => (back1_any n x _ _ s HS.out hx W (RA.out.below hW) (AN.out.below hW)).mono fun _ _ ⟨he, hw⟩ => ⟨he, hw ▸ Below.refl _ _⟩)).mono ?_
 rintro e w2 ⟨rfl, hb⟩
 replace RZ := Lib.hid (RZ.out.below hb)
 replace BB := Lib.hid (below_go BB.out hb BB.out.size)
 clear hb
 clear qn1 qn2 qn3
 obtain ⟨⟨d0, d1, d2, d3⟩, d4, d5, d6, d7⟩ := RZ.out.all
 obtain ⟨⟨f0, f1, f2, f3⟩, f4, f5, f6, f7⟩ := RZ.out.frees
 have zq := RZ.out.lt
 go_wp2
 obtain ⟨⟨e0, e1, e2, e3⟩, e4, e5, e6, e7⟩ := (RZ.out.fill (mapR n fun x => findR s x n 0) (mapR_len _ _ h8)).all
 refine bodyPost_ret (v := arr8 .u8 (mapR n fun x => findR s x n 0)) (by simp [results, Try.results80, go_sem, e0, e1, e2, e3, e4, e5, e6, e7]) rfl ⟨rfl, ?_⟩
 exact below_fill8 BB.out _ (by omega) _ _ _ _ _ _ _ _

end Go.Proofs.Ytpkhddndapcpjaa

