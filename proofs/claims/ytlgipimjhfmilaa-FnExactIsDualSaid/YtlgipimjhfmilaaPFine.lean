/- The fine partition, both. -/
import Derived.Test.YtlgipimjhfmilaaIRows
import Derived.Test.YtlgipimjhfmilaaPerm
import Derived.Test.YtlgipimjhfmilaaQB
namespace Go.Proofs.Ytlgipimjhfmilaa
open Go.RowKit Go.ChangeShapes

theorem fine_ends (n : Nat) (h1 : 1 ≤ n) (h8 : n ≤ 8) : ends 8 (run8 (startM n) []) n = sameR n := by
  have hn : n = 1 ∨ n = 2 ∨ n = 3 ∨ n = 4 ∨ n = 5 ∨ n = 6 ∨ n = 7 ∨ n = 8 := by omega
  rcases hn with rfl | rfl | rfl | rfl | rfl | rfl | rfl | rfl <;> decide

set_option maxRecDepth 100000 in
set_option maxHeartbeats 1000000 in
theorem l07Fine_any (n : Nat) (h1 : 1 ≤ n) (h8 : n ≤ 8) (w : World) :
    Calls Try.prog 74 #[.int .i64 n] w (RetArr .u8 w (sameR n)) := by
  have HE := Lib.hid (fine_ends n h1 h8)
  go_enter Try.func74, Try.ntmps74
  have RZ := Lib.hid (Row8.zeros w .u8 59 w.heap.size rfl)
  have BB := Lib.hid (below1 w (.cells #[.int .u8 0, .int .u8 0, .int .u8 0, .int .u8 0, .int .u8 0, .int .u8 0, .int .u8 0, .int .u8 0] 59))
  go_wp2_with fail
  refine (l01Perm_any n h8 none 0 0 [] _ ⟨rfl, .inl rfl⟩ (fun x hx => absurd hx List.not_mem_nil) (by omega)).mono ?_
  rw [HE.out]
  rintro e w2 ⟨rfl, hb⟩
  replace RZ := Lib.hid (RZ.out.below hb)
  replace BB := Lib.hid (below_go BB.out hb BB.out.size)
  clear hb
  obtain ⟨⟨d0, d1, d2, d3⟩, d4, d5, d6, d7⟩ := RZ.out.all
  obtain ⟨⟨f0, f1, f2, f3⟩, f4, f5, f6, f7⟩ := RZ.out.frees
  have zq := RZ.out.lt
  go_wp2
  obtain ⟨⟨e0, e1, e2, e3⟩, e4, e5, e6, e7⟩ := (RZ.out.fill (sameR n) (mapR_len _ _ h8)).all
  refine bodyPost_ret (v := arr8 .u8 (sameR n)) (by simp [results, Try.results74, go_sem, e0, e1, e2, e3, e4, e5, e6, e7]) rfl ⟨rfl, ?_⟩
  exact below_fill8 BB.out _ (by omega) _ _ _ _ _ _ _ _

set_option maxRecDepth 100000 in
set_option maxHeartbeats 1000000 in
theorem fine_any (n : Nat) (h8 : n ≤ 8) (w : World) :
    Calls Try.prog 33 #[.int .i64 n] w (RetArr .u8 w (sameR n)) := by
  go_enter Try.func33, Try.ntmps33
  have RZ := Lib.hid (Row8.zeros w .u8 59 w.heap.size rfl)
  have BB := Lib.hid (below1 w (.cells #[.int .u8 0, .int .u8 0, .int .u8 0, .int .u8 0, .int .u8 0, .int .u8 0, .int .u8 0, .int .u8 0] 59))
  go_wp2_with fail
  refine (nothing_any n h8 _).mono ?_
  rintro e w2 ⟨rfl, hb⟩
  replace RZ := Lib.hid (RZ.out.below hb)
  replace BB := Lib.hid (below_go BB.out hb BB.out.size)
  clear hb
  obtain ⟨⟨d0, d1, d2, d3⟩, d4, d5, d6, d7⟩ := RZ.out.all
  obtain ⟨⟨f0, f1, f2, f3⟩, f4, f5, f6, f7⟩ := RZ.out.frees
  have zq := RZ.out.lt
  go_wp2
  obtain ⟨⟨e0, e1, e2, e3⟩, e4, e5, e6, e7⟩ := (RZ.out.fill (sameR n) (mapR_len _ _ h8)).all
  refine bodyPost_ret (v := arr8 .u8 (sameR n)) (by simp [results, Try.results33, go_sem, e0, e1, e2, e3, e4, e5, e6, e7]) rfl ⟨rfl, ?_⟩
  exact below_fill8 BB.out _ (by omega) _ _ _ _ _ _ _ _

end Go.Proofs.Ytlgipimjhfmilaa
