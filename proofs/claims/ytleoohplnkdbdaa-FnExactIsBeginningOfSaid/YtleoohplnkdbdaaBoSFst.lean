/- The model: the longest simple braid that begins a positive braid. -/
import Derived.Test.YtleoohplnkdbdaaBoPQ
import Derived.Test.YtleoohplnkdbdaaBoSSld
import Derived.Test.YtleoohplnkdbdaaBoSCyc
namespace Go.Proofs.Ytleoohplnkdbdaa
open Go.RowKit Go.ChangeShapes

set_option maxRecDepth 100000 in
set_option maxHeartbeats 2000000 in
theorem l03First_any (m : Nat) (m8 : m ≤ 8) (p : Int) (a : Option Addr) (n cap : Nat) (l : List (List Int)) (w : World) (hr : ReadsA w a n l) (hl : Sims m l) :
  Calls Try.prog 76 #[.agg #[.int .i64 m, .int .i64 p, .slice a n cap]] w (RetArr .u8 w (firstN m p l)) := by
 have HL := Lib.hid hr.len
 have HR := Lib.hid hr
 have HS := Lib.hid hl
 clear hr hl
 have A := Lib.hid ((At3.place w (.int .i64 m) (.int .i64 p) (.slice a n cap) 28 w.heap.size rfl).alloc (.cells #[.int .u8 0, .int .u8 0, .int .u8 0, .int .u8 0, .int .u8 0, .int .u8 0, .int .u8 0, .int .u8 0] 77))
 have RZ := Lib.hid (Row8.zeros (w.alloc (.cells #[.int .i64 m, .int .i64 p, .slice a n cap] 28)) .u8 77 (w.heap.size + 1) (by simp))
 have B := Lib.hid (below2 w (.cells #[.int .i64 m, .int .i64 p, .slice a n cap] 28) (.cells #[.int .u8 0, .int .u8 0, .int .u8 0, .int .u8 0, .int .u8 0, .int .u8 0, .int .u8 0, .int .u8 0] 77))
 obtain ⟨W0, hW0⟩ : ∃ W0, W0 = ((w.alloc (.cells #[.int .i64 m, .int .i64 p, .slice a n cap] 28)).alloc (.cells #[.int .u8 0, .int .u8 0, .int .u8 0, .int .u8 0, .int .u8 0, .int .u8 0, .int .u8 0, .int .u8 0] 77)) := ⟨_, rfl⟩
 have HW0 := Lib.hid hW0
 rw [← hW0] at A RZ B
 clear hW0
 by_cases h1 : 0 < p
 ·have E : Hid (firstN m p l = halfR m) := Lib.hid (by unfold firstN; rw [if_pos h1])
  go_enter Try.func76, Try.ntmps76
  go_upto_region 1 with fail
  rw [← HW0.out]
  obtain ⟨q1, q2, q3⟩ := A.out.all
  go_wp2_with fail
  refine (l02Half_any m m8 _).mono ?_
  rintro e w1 ⟨rfl, hb⟩
  replace RZ := Lib.hid (RZ.out.below hb)
  replace B := Lib.hid (below_go B.out hb B.out.size)
  clear hb q1 q2 q3
  have h8 : (halfR m).length = 8 := mapR_len _ _ m8
  obtain ⟨⟨d0, d1, d2, d3⟩, d4, d5, d6, d7⟩ := RZ.out.all
  obtain ⟨⟨f0, f1, f2, f3⟩, f4, f5, f6, f7⟩ := RZ.out.frees
  go_wp2
  try rw [Exit.noGoto_ret]
  obtain ⟨⟨e0, e1, e2, e3⟩, e4, e5, e6, e7⟩ := (RZ.out.fill (halfR m) h8).all
  exact bodyPost_ret (v := arr8 .u8 (halfR m)) (by simp [results, Try.results76, go_sem, e0, e1, e2, e3, e4, e5, e6, e7]) rfl ⟨by rw [E.out], below_fill8 B.out _ (by omega) _ _ _ _ _ _ _ _⟩
 ·by_cases h2 : 0 < n
  ·obtain ⟨ba, off, rfl, hbl, hcl⟩ := HR.out.cells h2
   have E : Hid (firstN m p l = rowAt l 0) := Lib.hid (by unfold firstN; rw [if_neg h1, if_pos (by rw [HL.out]; exact h2)])
   obtain ⟨row, hrow⟩ : ∃ row, row = rowAt l 0 := ⟨_, rfl⟩
   rw [← hrow] at E
   have S8 : Hid (row.length = 8) := Lib.hid (by rw [hrow]; exact (HS.out _ (rowAt_getElem (by rw [HL.out]; exact h2))).len)
   have HC2 : Cells8 W0 ba off row := fun i hi => by
    have := hcl 0 h2 i hi
    rw [Nat.zero_mul, Nat.add_zero, ← hrow] at this
    exact (B.out.cell (World.block_lt_of_cell? _ _ this)).trans this
   clear hcl hrow
   obtain ⟨c0, c1, c2, c3, c4, c5, c6, c7⟩ := HC2.flat
   clear HC2
   have hn0 : (0 : Int) < (n : Int) := by omega
   go_enter Try.func76, Try.ntmps76
   go_upto_region 1 with fail
   rw [← HW0.out]
   obtain ⟨q1, q2, q3⟩ := A.out.all
   obtain ⟨⟨d0, d1, d2, d3⟩, d4, d5, d6, d7⟩ := RZ.out.all
   obtain ⟨⟨f0, f1, f2, f3⟩, f4, f5, f6, f7⟩ := RZ.out.frees
   go_wp2
   try rw [Exit.noGoto_ret]
   obtain ⟨⟨e0, e1, e2, e3⟩, e4, e5, e6, e7⟩ := (RZ.out.fill row S8.out).all
   exact bodyPost_ret (v := arr8 .u8 row) (by simp [results, Try.results76, go_sem, e0, e1, e2, e3, e4, e5, e6, e7]) rfl ⟨by rw [E.out], below_fill8 B.out _ (by omega) _ _ _ _ _ _ _ _⟩
  ·have E : Hid (firstN m p l = sameR m) := Lib.hid (by unfold firstN; rw [if_neg h1, if_neg (by rw [HL.out]; exact h2)])
   have hn0 : ¬ (0 : Int) < (n : Int) := by omega
   go_enter Try.func76, Try.ntmps76
   go_upto_region 1 with fail
   rw [← HW0.out]
   obtain ⟨q1, q2, q3⟩ := A.out.all
   go_wp2_with fail
   refine (l02Same_any m m8 _).mono ?_
   rintro e w1 ⟨rfl, hb⟩
   replace RZ := Lib.hid (RZ.out.below hb)
   replace B := Lib.hid (below_go B.out hb B.out.size)
   clear hb q1 q2 q3
   have h8 : (sameR m).length = 8 := mapR_len _ _ m8
   obtain ⟨⟨d0, d1, d2, d3⟩, d4, d5, d6, d7⟩ := RZ.out.all
   obtain ⟨⟨f0, f1, f2, f3⟩, f4, f5, f6, f7⟩ := RZ.out.frees
   go_wp2
   try rw [Exit.noGoto_ret]
   obtain ⟨⟨e0, e1, e2, e3⟩, e4, e5, e6, e7⟩ := (RZ.out.fill (sameR m) h8).all
   exact bodyPost_ret (v := arr8 .u8 (sameR m)) (by simp [results, Try.results76, go_sem, e0, e1, e2, e3, e4, e5, e6, e7]) rfl ⟨by rw [E.out], below_fill8 B.out _ (by omega) _ _ _ _ _ _ _ _⟩

end Go.Proofs.Ytleoohplnkdbdaa

