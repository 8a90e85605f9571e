/- The walk of the law of WordOfSimple. -/
import Derived.Test.YtkedkleddpnanaaLawA
import Derived.Test.YtkedkleddpnanaaEWordOf
import Derived.Test.YtkedkleddpnanaaBase5
namespace Go.Proofs.Ytkedkleddpnanaa
open Go.RowKit Go.ChangeShapes

set_option maxRecDepth 100000 in
set_option maxHeartbeats 1000000 in
theorem fnExactWordOfSimple_walk {n : Int} {a : List Int} {w : World} (la : a.length = 8) (ya : Bytes8 a) (_hn : (Lit.int .i64 n).wf = true) :
    Calls Try.prog 3 #[arr8 .u8 a, .int .i64 n] w fun e w' => e = .returned (.bool true) ∧ Below w.heap.size w w' := by
  obtain ⟨r, c, hM⟩ : ∃ r c, mWordOfSimple n a = (r, c) := ⟨_, _, rfl⟩
  have HM := Lib.hid hM
  clear hM
  have LA := Lib.hid la
  have YA := Lib.hid ya
  clear ya
  have t1 : (c != c) = false := by simp
  go_enter Try.func3, Try.ntmps3
  have RA := Lib.hid (Row8.place w .u8 a 22 w.heap.size rfl la)
  have BB := Lib.hid (below1 w (.cells #[.int .u8 (at8 a 0), .int .u8 (at8 a 1), .int .u8 (at8 a 2), .int .u8 (at8 a 3), .int .u8 (at8 a 4), .int .u8 (at8 a 5), .int .u8 (at8 a 6), .int .u8 (at8 a 7)] 22))
  clear la
  obtain ⟨⟨qRA0, qRA1, qRA2, qRA3⟩, qRA4, qRA5, qRA6, qRA7⟩ := RA.out.all
  go_wp2_with fail
  refine (toSimple_any a LA.out _).mono ?_
  rintro e v1 ⟨rfl, hb⟩
  clear qRA0 qRA1 qRA2 qRA3 qRA4 qRA5 qRA6 qRA7
  replace RA := Lib.hid (RA.out.below hb)
  have z1 : w.heap.size + 1 ≤ v1.heap.size := by have := hb.size; simp at this; omega
  replace BB := Lib.hid (below_go BB.out hb BB.out.size)
  clear hb
  obtain ⟨⟨qRA0, qRA1, qRA2, qRA3⟩, qRA4, qRA5, qRA6, qRA7⟩ := RA.out.all
  go_wp2_with fail
  refine (specWordOfSimple_any n a LA.out YA.out r c HM.out _).mono ?_
  rintro e v2 ⟨b2, m2, d2, rfl, hl2, ho, hb⟩
  clear qRA0 qRA1 qRA2 qRA3 qRA4 qRA5 qRA6 qRA7
  have P1 : Hid (OwnIn v1.heap.size v2.heap.size v2 b2 m2 d2 r) := Lib.hid (by simpa using ho.within)
  clear ho
  replace RA := Lib.hid (RA.out.below hb)
  have z2 : v1.heap.size ≤ v2.heap.size := hb.size
  replace BB := Lib.hid (below_go BB.out hb BB.out.size)
  clear hb
  obtain ⟨⟨qRA0, qRA1, qRA2, qRA3⟩, qRA4, qRA5, qRA6, qRA7⟩ := RA.out.all
  go_wp2_with fail
  refine (toSimple_any a LA.out _).mono ?_
  rintro e v3 ⟨rfl, hb⟩
  clear qRA0 qRA1 qRA2 qRA3 qRA4 qRA5 qRA6 qRA7
  replace P1 := Lib.hid (P1.out.below hb)
  replace RA := Lib.hid (RA.out.below hb)
  have z3 : v2.heap.size ≤ v3.heap.size := hb.size
  replace BB := Lib.hid (below_go BB.out hb BB.out.size)
  clear hb
  obtain ⟨⟨qRA0, qRA1, qRA2, qRA3⟩, qRA4, qRA5, qRA6, qRA7⟩ := RA.out.all
  go_wp2_with fail
  refine (implWordOfSimple_any n a LA.out YA.out r c HM.out _).mono ?_
  rintro e v4 ⟨b4, m4, d4, rfl, hl4, ho, hb⟩
  clear qRA0 qRA1 qRA2 qRA3 qRA4 qRA5 qRA6 qRA7
  have P2 : Hid (OwnIn v3.heap.size v4.heap.size v4 b4 m4 d4 r) := Lib.hid (by simpa using ho.within)
  clear ho
  replace P1 := Lib.hid (P1.out.below hb)
  replace RA := Lib.hid (RA.out.below hb)
  have z4 : v3.heap.size ≤ v4.heap.size := hb.size
  replace BB := Lib.hid (below_go BB.out hb BB.out.size)
  clear hb
  obtain ⟨⟨qRA0, qRA1, qRA2, qRA3⟩, qRA4, qRA5, qRA6, qRA7⟩ := RA.out.all
  go_wp2_with fail
  refine (eqInt64S_yes _ _ _ _ _ _ r _ P2.out.reads P1.out.reads hl4).mono ?_
  rintro e v5 ⟨rfl, hb⟩
  clear qRA0 qRA1 qRA2 qRA3 qRA4 qRA5 qRA6 qRA7
  replace P1 := Lib.hid (P1.out.below hb)
  replace P2 := Lib.hid (P2.out.below hb)
  replace RA := Lib.hid (RA.out.below hb)
  have z5 : v4.heap.size ≤ v5.heap.size := hb.size
  replace BB := Lib.hid (below_go BB.out hb BB.out.size)
  clear hb
  obtain ⟨⟨qRA0, qRA1, qRA2, qRA3⟩, qRA4, qRA5, qRA6, qRA7⟩ := RA.out.all
  go_wp2_with fail
  refine (markInt64S_in _ _ _ _ _ r _ _ P2.out hl4 (by omega) (by omega)).mono ?_
  rintro e v6 ⟨rfl, ho, hb⟩
  clear qRA0 qRA1 qRA2 qRA3 qRA4 qRA5 qRA6 qRA7
  replace P1 := Lib.hid (P1.out.wrote hb (by omega))
  replace RA := Lib.hid (RA.out.heap hb.size (hb.block _ RA.out.lt (by omega)))
  have z6 : v5.heap.size ≤ v6.heap.size := hb.size
  replace BB := Lib.hid (below_write BB.out hb (by omega) (by omega))
  clear hb
  replace P2 := Lib.hid ho
  clear ho
  have t3 : ((1 + (m4 : Int)) != (1 + (m4 : Int))) = false := by simp
  obtain ⟨⟨qRA0, qRA1, qRA2, qRA3⟩, qRA4, qRA5, qRA6, qRA7⟩ := RA.out.all
  go_wp2_with fail
  refine (heldInt64S_be _ _ _ _ _ P2.out.reads hl4 (by omega) (by omega)).mono ?_
  rintro e v7 ⟨rfl, hb⟩
  clear qRA0 qRA1 qRA2 qRA3 qRA4 qRA5 qRA6 qRA7
  replace P1 := Lib.hid (P1.out.below hb)
  replace P2 := Lib.hid (P2.out.below hb)
  replace RA := Lib.hid (RA.out.below hb)
  have z7 : v6.heap.size ≤ v7.heap.size := hb.size
  replace BB := Lib.hid (below_go BB.out hb BB.out.size)
  clear hb
  obtain ⟨⟨qRA0, qRA1, qRA2, qRA3⟩, qRA4, qRA5, qRA6, qRA7⟩ := RA.out.all
  go_wp2_with fail
  refine (toSimple_any a LA.out _).mono ?_
  rintro e v8 ⟨rfl, hb⟩
  clear qRA0 qRA1 qRA2 qRA3 qRA4 qRA5 qRA6 qRA7
  replace P1 := Lib.hid (P1.out.below hb)
  replace P2 := Lib.hid (P2.out.below hb)
  replace RA := Lib.hid (RA.out.below hb)
  have z8 : v7.heap.size ≤ v8.heap.size := hb.size
  replace BB := Lib.hid (below_go BB.out hb BB.out.size)
  clear hb
  obtain ⟨⟨qRA0, qRA1, qRA2, qRA3⟩, qRA4, qRA5, qRA6, qRA7⟩ := RA.out.all
  go_wp2_with fail
  refine (implWordOfSimple_any n a LA.out YA.out r c HM.out _).mono ?_
  rintro e v9 ⟨b9, m9, d9, rfl, hl9, ho, hb⟩
  clear qRA0 qRA1 qRA2 qRA3 qRA4 qRA5 qRA6 qRA7
  have P3 : Hid (OwnIn v8.heap.size v9.heap.size v9 b9 m9 d9 r) := Lib.hid (by simpa using ho.within)
  clear ho
  replace P1 := Lib.hid (P1.out.below hb)
  replace P2 := Lib.hid (P2.out.below hb)
  replace RA := Lib.hid (RA.out.below hb)
  have z9 : v8.heap.size ≤ v9.heap.size := hb.size
  replace BB := Lib.hid (below_go BB.out hb BB.out.size)
  clear hb
  obtain ⟨⟨qRA0, qRA1, qRA2, qRA3⟩, qRA4, qRA5, qRA6, qRA7⟩ := RA.out.all
  go_wp2_with fail
  refine (eqInt64S_yes _ _ _ _ _ _ r _ P3.out.reads P1.out.reads hl9).mono ?_
  rintro e v10 ⟨rfl, hb⟩
  clear qRA0 qRA1 qRA2 qRA3 qRA4 qRA5 qRA6 qRA7
  replace P1 := Lib.hid (P1.out.below hb)
  replace P2 := Lib.hid (P2.out.below hb)
  replace P3 := Lib.hid (P3.out.below hb)
  replace RA := Lib.hid (RA.out.below hb)
  have z10 : v9.heap.size ≤ v10.heap.size := hb.size
  replace BB := Lib.hid (below_go BB.out hb BB.out.size)
  clear hb
  obtain ⟨⟨qRA0, qRA1, qRA2, qRA3⟩, qRA4, qRA5, qRA6, qRA7⟩ := RA.out.all
  go_wp2_with fail
  refine (heldInt64S_be _ _ _ _ _ P2.out.reads hl4 (by omega) (by omega)).mono ?_
  rintro e v11 ⟨rfl, hb⟩
  clear qRA0 qRA1 qRA2 qRA3 qRA4 qRA5 qRA6 qRA7
  replace P1 := Lib.hid (P1.out.below hb)
  replace P2 := Lib.hid (P2.out.below hb)
  replace P3 := Lib.hid (P3.out.below hb)
  replace RA := Lib.hid (RA.out.below hb)
  have z11 : v10.heap.size ≤ v11.heap.size := hb.size
  replace BB := Lib.hid (below_go BB.out hb BB.out.size)
  clear hb
  go_wp2
  go_ret
  exact ⟨rfl, BB.out⟩

end Go.Proofs.Ytkedkleddpnanaa
