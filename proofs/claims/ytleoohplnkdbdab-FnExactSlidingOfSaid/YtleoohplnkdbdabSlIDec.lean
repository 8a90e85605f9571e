/- The program: decycling. -/
import Derived.Test.YtleoohplnkdbdabSlIBeh
import Derived.Test.YtleoohplnkdbdabSlPQ
namespace Go.Proofs.Ytleoohplnkdbdab
open Go.RowKit Go.ChangeShapes

set_option maxRecDepth 100000 in
set_option maxHeartbeats 600000 in
theorem lastPart_any (m : Nat) (p : Int) (a : Option Addr) (n cap : Nat) (l : List (List Int)) (w : World) (hr : ReadsA w a (n + 1) l) (hn : n ≤ 1000000) :
  Calls Try.prog 100 #[.agg #[.int .i64 m, .int .i64 p, .slice a (n + 1) cap]] w (RetArr .u8 w (rowAt l n)) := by
 obtain ⟨row, hrow⟩ : ∃ row, row = rowAt l n := ⟨_, rfl⟩
 have R8 : Hid (row.length = 8) := Lib.hid (by rw [hrow]; exact hr.rows.at (by rw [hr.len]; omega))
 obtain ⟨ba, off, rfl, hbl, hcl⟩ := hr.cells (by omega)
 have hC : Cells8 w ba (off + n * 8) row := by rw [hrow]; exact fun i hi => hcl n (by omega) i hi
 rw [← hrow]
 clear hrow hcl
 have HC := Lib.hid hC
 have hba : ba < w.heap.size := by exact hbl
 have hw1 : IntKind.i64.wrap ((((n + 1 : Nat) : Int)) - 1) = (n : Int) := by rw [show (((n + 1 : Nat) : Int)) - 1 = (n : Int) by omega]; exact IntWalk.i64_in _ (by omega)
 have hw1' : IntKind.i64.wrap ((n : Int) + 1 - 1) = (n : Int) := by rw [show (n : Int) + 1 - 1 = (n : Int) by omega]; exact IntWalk.i64_in _ (by omega)
 have hw4 : IntKind.i64.wrap (n : Int) = (n : Int) := IntWalk.i64_in _ (by omega)
 have hi1 : (n : Int) < ((n + 1 : Nat) : Int) := by omega
 have hi4 : (n : Int) < (n : Int) + 1 := by omega
 have hi2 : (0 : Int) ≤ (n : Int) := by omega
 have A := Lib.hid ((At3.place w (.int .i64 m) (.int .i64 p) (.slice (some ⟨ba, off, none⟩) (n + 1) cap) 28 w.heap.size rfl).alloc (.cells #[.int .u8 0, .int .u8 0, .int .u8 0, .int .u8 0, .int .u8 0, .int .u8 0, .int .u8 0, .int .u8 0] 54))
 have RZ := Lib.hid (Row8.zeros (w.alloc (.cells #[.int .i64 m, .int .i64 p, .slice (some ⟨ba, off, none⟩) (n + 1) cap] 28)) .u8 54 (w.heap.size + 1) (by simp))
 have B := Lib.hid (below2 w (.cells #[.int .i64 m, .int .i64 p, .slice (some ⟨ba, off, none⟩) (n + 1) cap] 28) (.cells #[.int .u8 0, .int .u8 0, .int .u8 0, .int .u8 0, .int .u8 0, .int .u8 0, .int .u8 0, .int .u8 0] 54))
 have HC2 : Hid (Cells8 ((w.alloc (.cells #[.int .i64 m, .int .i64 p, .slice (some ⟨ba, off, none⟩) (n + 1) cap] 28)).alloc (.cells #[.int .u8 0, .int .u8 0, .int .u8 0, .int .u8 0, .int .u8 0, .int .u8 0, .int .u8 0, .int .u8 0] 54)) ba (off + n * 8) row) := Lib.hid fun i hi => (B.out.cell hba).trans (HC.out i hi)
 go_enter Try.func100, Try.ntmps100
 go_upto_region 1 with fail
 obtain ⟨W0, hW0⟩ : ∃ W0, W0 = ((w.alloc (.cells #[.int .i64 m, .int .i64 p, .slice (some ⟨ba, off, none⟩) (n + 1) cap] 28)).alloc (.cells #[.int .u8 0, .int .u8 0, .int .u8 0, .int .u8 0, .int .u8 0, .int .u8 0, .int .u8 0, .int .u8 0] 54)) := ⟨_, rfl⟩
 rw [← hW0] at A RZ B HC2 ⊢
 clear hW0
 obtain ⟨q1, q2, q3⟩ := A.out.all
 obtain ⟨c0, c1, c2, c3, c4, c5, c6, c7⟩ := HC2.out.flat
 obtain ⟨⟨d0, d1, d2, d3⟩, d4, d5, d6, d7⟩ := RZ.out.all
 obtain ⟨⟨f0, f1, f2, f3⟩, f4, f5, f6, f7⟩ := RZ.out.frees
 go_wp2
 try rw [Exit.noGoto_ret]
 obtain ⟨⟨e0, e1, e2, e3⟩, e4, e5, e6, e7⟩ := (RZ.out.fill row R8.out).all
 refine bodyPost_ret (v := arr8 .u8 row) (by simp [results, Try.results100, go_sem, e0, e1, e2, e3, e4, e5, e6, e7]) rfl ⟨rfl, ?_⟩
 exact below_fill8 B.out _ (by omega) _ _ _ _ _ _ _ _

end Go.Proofs.Ytleoohplnkdbdab

