/- The walk of the law of IsPart. -/
import Derived.Test.YthelncibpoijoaaLawPt
import Derived.Test.YthelncibpoijoaaPSIs
import Derived.Test.YthelncibpoijoaaPIIs
namespace Go.Proofs.Ythelncibpoijoaa
open Go.RowKit Go.ChangeShapes

set_option maxRecDepth 100000 in
set_option maxHeartbeats 1000000 in
theorem specIsPart_any (n : Int) (a : List Int) (la : a.length = 8) (ya : Bytes8 a) (w : World) :
    Calls Try.prog 13 #[arr8 .u8 a, .int .i64 n] w fun e w' => e = .returned (.bool (isPt n a)) ∧ Below w.heap.size w w' := by
  have LA := Lib.hid la
  have YA := Lib.hid ya
  clear ya
  go_enter Try.func13, Try.ntmps13
  have RA := Lib.hid (Row8.place w .u8 a 24 w.heap.size rfl la)
  have BB := Lib.hid (below1 w (.cells #[.int .u8 (at8 a 0), .int .u8 (at8 a 1), .int .u8 (at8 a 2), .int .u8 (at8 a 3), .int .u8 (at8 a 4), .int .u8 (at8 a 5), .int .u8 (at8 a 6), .int .u8 (at8 a 7)] 24))
  clear la
  obtain ⟨⟨qRA0, qRA1, qRA2, qRA3⟩, qRA4, qRA5, qRA6, qRA7⟩ := RA.out.all
  go_wp2_with fail
  refine (l07Is_any n a LA.out YA.out _).mono ?_
  rintro e w2 ⟨rfl, hb⟩
  clear qRA0 qRA1 qRA2 qRA3 qRA4 qRA5 qRA6 qRA7
  replace RA := Lib.hid (RA.out.below hb)
  replace BB := Lib.hid (below_go BB.out hb BB.out.size)
  clear hb
  go_wp2
  go_ret
  exact ⟨rfl, BB.out⟩

set_option maxRecDepth 100000 in
set_option maxHeartbeats 1000000 in
theorem fnExactIsPart_walk {n : Int} {a : List Int} {w : World} (la : a.length = 8) (ya : Bytes8 a) (_hn : (Lit.int .i64 n).wf = true) :
    Calls Try.prog 3 #[arr8 .u8 a, .int .i64 n] w fun e w' => e = .returned (.bool true) ∧ Below w.heap.size w w' := by
  have LA := Lib.hid la
  have YA := Lib.hid ya
  clear ya
  go_enter Try.func3, Try.ntmps3
  have RA := Lib.hid (Row8.place w .u8 a 22 w.heap.size rfl la)
  have BB := Lib.hid (below1 w (.cells #[.int .u8 (at8 a 0), .int .u8 (at8 a 1), .int .u8 (at8 a 2), .int .u8 (at8 a 3), .int .u8 (at8 a 4), .int .u8 (at8 a 5), .int .u8 (at8 a 6), .int .u8 (at8 a 7)] 22))
  clear la
  obtain ⟨r, hr⟩ : ∃ r, r = isPt n a := ⟨_, rfl⟩
  have HR := Lib.hid hr
  clear hr
  obtain ⟨⟨qRA0, qRA1, qRA2, qRA3⟩, qRA4, qRA5, qRA6, qRA7⟩ := RA.out.all
  go_wp2_with fail
  refine (toPart_any a LA.out _).mono ?_
  rintro e w2 ⟨rfl, hb⟩
  clear qRA0 qRA1 qRA2 qRA3 qRA4 qRA5 qRA6 qRA7
  replace RA := Lib.hid (RA.out.below hb)
  replace BB := Lib.hid (below_go BB.out hb BB.out.size)
  clear hb
  obtain ⟨⟨qRA0, qRA1, qRA2, qRA3⟩, qRA4, qRA5, qRA6, qRA7⟩ := RA.out.all
  go_wp2_with fail
  refine (specIsPart_any n a LA.out YA.out _).mono ?_
  rw [← HR.out]
  rintro e w4 ⟨rfl, hb⟩
  clear qRA0 qRA1 qRA2 qRA3 qRA4 qRA5 qRA6 qRA7
  replace RA := Lib.hid (RA.out.below hb)
  replace BB := Lib.hid (below_go BB.out hb BB.out.size)
  clear hb
  obtain ⟨⟨qRA0, qRA1, qRA2, qRA3⟩, qRA4, qRA5, qRA6, qRA7⟩ := RA.out.all
  go_wp2_with fail
  refine (toPart_any a LA.out _).mono ?_
  rintro e w6 ⟨rfl, hb⟩
  clear qRA0 qRA1 qRA2 qRA3 qRA4 qRA5 qRA6 qRA7
  replace RA := Lib.hid (RA.out.below hb)
  replace BB := Lib.hid (below_go BB.out hb BB.out.size)
  clear hb
  obtain ⟨⟨qRA0, qRA1, qRA2, qRA3⟩, qRA4, qRA5, qRA6, qRA7⟩ := RA.out.all
  go_wp2_with fail
  refine (implIsPart_any n a LA.out _).mono ?_
  rw [← HR.out]
  rintro e w8 ⟨rfl, hb⟩
  clear qRA0 qRA1 qRA2 qRA3 qRA4 qRA5 qRA6 qRA7
  replace RA := Lib.hid (RA.out.below hb)
  replace BB := Lib.hid (below_go BB.out hb BB.out.size)
  clear hb
  have t2 : (r != r) = false := by simp
  go_wp2
  go_ret
  exact ⟨rfl, BB.out⟩

end Go.Proofs.Ythelncibpoijoaa
