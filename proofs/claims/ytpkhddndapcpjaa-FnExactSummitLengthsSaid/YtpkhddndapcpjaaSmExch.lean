/- Exchanges of neighbours, both. -/
import Derived.Test.YtpkhddndapcpjaaSmIRows
import Derived.Test.YtpkhddndapcpjaaSmSB
import Derived.Test.YtpkhddndapcpjaaSmPB
import Derived.Deep.DeepCutAuto
namespace Go.Proofs.Ytpkhddndapcpjaa
open Go.RowKit Go.ChangeShapes

set_option maxRecDepth 100000 in
set_option maxHeartbeats 1000000 in
theorem l02Exchange_any (n k : Nat) (h8 : n ≤ 8) (hk : k + 1 < n) (w : World) :
  Calls Try.prog 77 #[.int .i64 n, .int .i64 ((k : Int) + 1)] w (RetArr .u8 w (exR n k)) := by
 go_enter Try.func77, Try.ntmps77
 have RZ := Lib.hid (Row8.zeros w .u8 53 w.heap.size rfl)
 have BB := Lib.hid (below1 w (.cells #[.int .u8 0, .int .u8 0, .int .u8 0, .int .u8 0, .int .u8 0, .int .u8 0, .int .u8 0, .int .u8 0] 53))
 go_wp2_with fail
 refine (l02Same_any n h8 _).mono ?_
 rintro e w2 ⟨rfl, hb⟩
 replace RZ := Lib.hid (RZ.out.below hb)
 replace BB := Lib.hid (below_go BB.out hb BB.out.size)
 clear hb
 have zh := RZ.out.lt
 have RO := Lib.hid (Row8.place w2 .u8 (sameR n) 53 w2.heap.size rfl (mapR_len _ _ h8))
 replace RZ := Lib.hid (RZ.out.alloc (.cells #[.int .u8 (at8 (sameR n) 0), .int .u8 (at8 (sameR n) 1), .int .u8 (at8 (sameR n) 2), .int .u8 (at8 (sameR n) 3), .int .u8 (at8 (sameR n) 4), .int .u8 (at8 (sameR n) 5), .int .u8 (at8 (sameR n) 6), .int .u8 (at8 (sameR n) 7)] 53))
 replace BB := Lib.hid (BB.out.alloc BB.out.size (.cells #[.int .u8 (at8 (sameR n) 0), .int .u8 (at8 (sameR n) 1), .int .u8 (at8 (sameR n) 2), .int .u8 (at8 (sameR n) 3), .int .u8 (at8 (sameR n) 4), .int .u8 (at8 (sameR n) 5), .int .u8 (at8 (sameR n) 6), .int .u8 (at8 (sameR n) 7)] 53))
 go_upto_region 2 with fail
 obtain ⟨W, hW⟩ : ∃ W, W = w2.alloc (.cells #[.int .u8 (at8 (sameR n) 0), .int .u8 (at8 (sameR n) 1), .int .u8 (at8 (sameR n) 2), .int .u8 (at8 (sameR n) 3), .int .u8 (at8 (sameR n) 4), .int .u8 (at8 (sameR n) 5), .int .u8 (at8 (sameR n) 6), .int .u8 (at8 (sameR n) 7)] 53) := ⟨_, rfl⟩
 rw [← hW] at RZ RO BB ⊢
 clear hW
 obtain ⟨gh, hgh⟩ : ∃ gh, gh = w2.heap.size := ⟨_, rfl⟩
 rw [← hgh] at RO zh ⊢
 clear hgh
 have zb : w.heap.size < gh := by omega
 have z2 := RO.out.lt
 have b1 : (k : Int) + 1 < 8 := by omega
 have b2 : (k : Int) < 8 := by omega
 have f1 := RO.out.free k (by omega)
 have f2 := RO.out.free (k + 1) (by omega)
 have c1 := RO.out.cell k (by omega)
 have c2 := RO.out.cell (k + 1) (by omega)
 go_upto_region 4 with fail
 have RN := Lib.hid ((RO.out.store k (by omega) ((k : Int) + 1)).store (k + 1) (by omega) (k : Int))
 replace RZ := Lib.hid ((RZ.out.setCell (p := ⟨gh, k, none⟩) (by simp; omega) (.int .u8 ((k : Int) + 1))).setCell (p := ⟨gh, k + 1, none⟩) (by simp; omega) (.int .u8 (k : Int)))
 replace BB := Lib.hid ((BB.out.setCell (p := ⟨gh, k, none⟩) (by simp; omega) (.int .u8 ((k : Int) + 1))).setCell (p := ⟨gh, k + 1, none⟩) (by simp; omega) (.int .u8 (k : Int)))
 clear f1 f2 c1 c2 z2
 obtain ⟨X, hX⟩ : ∃ X, X = ((W.setCell ⟨gh, k, none⟩ (.int .u8 ((k : Int) + 1))).setCell ⟨gh, k + 1, none⟩ (.int .u8 (k : Int))) := ⟨_, rfl⟩
 rw [← hX] at RZ RN BB ⊢
 clear hX
 obtain ⟨⟨c0, c1, c2, c3⟩, c4, c5, c6, c7⟩ := RN.out.all
 obtain ⟨⟨d0, d1, d2, d3⟩, d4, d5, d6, d7⟩ := RZ.out.all
 obtain ⟨⟨f0, f1, f2, f3⟩, f4, f5, f6, f7⟩ := RZ.out.frees
 have zq := RZ.out.lt
 go_wp2
 obtain ⟨⟨e0, e1, e2, e3⟩, e4, e5, e6, e7⟩ := (RZ.out.fill (((sameR n).set k ((k : Int) + 1)).set (k + 1) (k : Int)) (exR_len n k h8)).all
 refine bodyPost_ret (v := arr8 .u8 (((sameR n).set k ((k : Int) + 1)).set (k + 1) (k : Int))) (by simp [results, Try.results77, go_sem, e0, e1, e2, e3, e4, e5, e6, e7]) rfl ⟨rfl, ?_⟩
 exact below_fill8 BB.out _ (by omega) _ _ _ _ _ _ _ _

set_option maxRecDepth 100000 in
set_option maxHeartbeats 1000000 in
theorem exchange_any (n k : Nat) (h8 : n ≤ 8) (hk : k + 1 < n) (w : World) :
  Calls Try.prog 82 #[.int .i64 ((k : Int) + 1), .int .i64 n] w (RetArr .u8 w (exR n k)) := by
 go_enter Try.func82, Try.ntmps82
 have RZ := Lib.hid (Row8.zeros w .u8 53 w.heap.size rfl)
 have BB := Lib.hid (below1 w (.cells #[.int .u8 0, .int .u8 0, .int .u8 0, .int .u8 0, .int .u8 0, .int .u8 0, .int .u8 0, .int .u8 0] 53))
 go_wp2_with fail
 refine (nothing_any n h8 _).mono ?_
 rintro e w2 ⟨rfl, hb⟩
 replace RZ := Lib.hid (RZ.out.below hb)
 replace BB := Lib.hid (below_go BB.out hb BB.out.size)
 clear hb
 have zh := RZ.out.lt
 have RO := Lib.hid (Row8.place w2 .u8 (sameR n) 53 w2.heap.size rfl (mapR_len _ _ h8))
 replace RZ := Lib.hid (RZ.out.alloc (.cells #[.int .u8 (at8 (sameR n) 0), .int .u8 (at8 (sameR n) 1), .int .u8 (at8 (sameR n) 2), .int .u8 (at8 (sameR n) 3), .int .u8 (at8 (sameR n) 4), .int .u8 (at8 (sameR n) 5), .int .u8 (at8 (sameR n) 6), .int .u8 (at8 (sameR n) 7)] 53))
 replace BB := Lib.hid (BB.out.alloc BB.out.size (.cells #[.int .u8 (at8 (sameR n) 0), .int .u8 (at8 (sameR n) 1), .int .u8 (at8 (sameR n) 2), .int .u8 (at8 (sameR n) 3), .int .u8 (at8 (sameR n) 4), .int .u8 (at8 (sameR n) 5), .int .u8 (at8 (sameR n) 6), .int .u8 (at8 (sameR n) 7)] 53))
 go_upto_region 2 with fail
 obtain ⟨W, hW⟩ : ∃ W, W = w2.alloc (.cells #[.int .u8 (at8 (sameR n) 0), .int .u8 (at8 (sameR n) 1), .int .u8 (at8 (sameR n) 2), .int .u8 (at8 (sameR n) 3), .int .u8 (at8 (sameR n) 4), .int .u8 (at8 (sameR n) 5), .int .u8 (at8 (sameR n) 6), .int .u8 (at8 (sameR n) 7)] 53) := ⟨_, rfl⟩
 rw [← hW] at RZ RO BB ⊢
 clear hW
 obtain ⟨gh, hgh⟩ : ∃ gh, gh = w2.heap.size := ⟨_, rfl⟩
 rw [← hgh] at RO zh ⊢
 clear hgh
 have zb : w.heap.size < gh := by omega
 have z2 := RO.out.lt
 have b1 : (k : Int) + 1 < 8 := by omega
 have b2 : (k : Int) < 8 := by omega
 have f1 := RO.out.free k (by omega)
 have f2 := RO.out.free (k + 1) (by omega)
 have c1 := RO.out.cell k (by omega)
 have c2 := RO.out.cell (k + 1) (by omega)
 rw [at8_same n k (by omega)] at c1
 rw [at8_same n (k + 1) (by omega)] at c2
 push_cast at c2
 have hw1 : IntKind.i64.wrap (k : Int) = k := IntWalk.i64_in _ (by omega)
 go_region
 clear hw1
 have RN := Lib.hid ((RO.out.store k (by omega) ((k : Int) + 1)).store (k + 1) (by omega) (k : Int)).drew
 replace RZ := Lib.hid ((RZ.out.setCell (p := ⟨gh, k, none⟩) (by simp; omega) (.int .u8 ((k : Int) + 1))).setCell (p := ⟨gh, k + 1, none⟩) (by simp; omega) (.int .u8 (k : Int))).drew
 replace BB := Lib.hid ((BB.out.setCell (p := ⟨gh, k, none⟩) (by simp; omega) (.int .u8 ((k : Int) + 1))).setCell (p := ⟨gh, k + 1, none⟩) (by simp; omega) (.int .u8 (k : Int))).drew
 clear f1 f2 c1 c2 z2
 obtain ⟨X, hX⟩ : ∃ X, X = ((W.setCell ⟨gh, k, none⟩ (.int .u8 ((k : Int) + 1))).setCell ⟨gh, k + 1, none⟩ (.int .u8 (k : Int))).drew := ⟨_, rfl⟩
 rw [← hX] at RZ RN BB ⊢
 clear hX
 obtain ⟨⟨c0, c1, c2, c3⟩, c4, c5, c6, c7⟩ := RN.out.all
 obtain ⟨⟨d0, d1, d2, d3⟩, d4, d5, d6, d7⟩ := RZ.out.all
 obtain ⟨⟨f0, f1, f2, f3⟩, f4, f5, f6, f7⟩ := RZ.out.frees
 have zq := RZ.out.lt
 go_wp2
 obtain ⟨⟨e0, e1, e2, e3⟩, e4, e5, e6, e7⟩ := (RZ.out.fill (((sameR n).set k ((k : Int) + 1)).set (k + 1) (k : Int)) (exR_len n k h8)).all
 refine bodyPost_ret (v := arr8 .u8 (((sameR n).set k ((k : Int) + 1)).set (k + 1) (k : Int))) (by simp [results, Try.results82, go_sem, e0, e1, e2, e3, e4, e5, e6, e7]) rfl ⟨rfl, ?_⟩
 exact below_fill8 BB.out _ (by omega) _ _ _ _ _ _ _ _

end Go.Proofs.Ytpkhddndapcpjaa

