/- The walk of the law of RankOf. -/
import Derived.Test.YthelncibpoijoaaLawPt
import Derived.Test.YthelncibpoijoaaEPRk
namespace Go.Proofs.Ythelncibpoijoaa
open Go.RowKit Go.ChangeShapes

set_option maxRecDepth 100000 in
set_option maxHeartbeats 1000000 in
theorem fnExactRankOf_walk {n : Int} {a : List Int} {w : World} (la : a.length = 8) (ya : Bytes8 a) (_hn : (Lit.int .i64 n).wf = true) :
    Calls Try.prog 4 #[arr8 .u8 a, .int .i64 n] w fun e w' => e = .returned (.bool true) ∧ Below w.heap.size w w' := by
  obtain ⟨r, c, hM⟩ : ∃ r c, mRankOf n a = (r, c) := ⟨_, _, rfl⟩
  have HM := Lib.hid hM
  clear hM
  have LA := Lib.hid la
  have YA := Lib.hid ya
  clear ya
  go_enter Try.func4, Try.ntmps4
  have RA := Lib.hid (Row8.place w .u8 a 22 w.heap.size rfl la)
  have BB := Lib.hid (below1 w (.cells #[.int .u8 (at8 a 0), .int .u8 (at8 a 1), .int .u8 (at8 a 2), .int .u8 (at8 a 3), .int .u8 (at8 a 4), .int .u8 (at8 a 5), .int .u8 (at8 a 6), .int .u8 (at8 a 7)] 22))
  clear la
  obtain ⟨⟨qRA0, qRA1, qRA2, qRA3⟩, qRA4, qRA5, qRA6, qRA7⟩ := RA.out.all
  go_wp2_with fail
  refine (toPart_any a LA.out _).mono ?_
  rintro e w2 ⟨rfl, hb⟩
  clear qRA0 qRA1 qRA2 qRA3 qRA4 qRA5 qRA6 qRA7
  replace RA := Lib.hid (RA.out.below hb)
  replace BB := Lib.hid (below_go BB.out hb BB.out.size)
  clear hb
  obtain ⟨⟨qRA0, qRA1, qRA2, qRA3⟩, qRA4, qRA5, qRA6, qRA7⟩ := RA.out.all
  go_wp2_with fail
  refine (specRankOf_any n a LA.out YA.out r c HM.out _).mono ?_
  rintro e w4 ⟨rfl, hb⟩
  clear qRA0 qRA1 qRA2 qRA3 qRA4 qRA5 qRA6 qRA7
  replace RA := Lib.hid (RA.out.below hb)
  replace BB := Lib.hid (below_go BB.out hb BB.out.size)
  clear hb
  obtain ⟨⟨qRA0, qRA1, qRA2, qRA3⟩, qRA4, qRA5, qRA6, qRA7⟩ := RA.out.all
  go_wp2_with fail
  refine (toPart_any a LA.out _).mono ?_
  rintro e w6 ⟨rfl, hb⟩
  clear qRA0 qRA1 qRA2 qRA3 qRA4 qRA5 qRA6 qRA7
  replace RA := Lib.hid (RA.out.below hb)
  replace BB := Lib.hid (below_go BB.out hb BB.out.size)
  clear hb
  obtain ⟨⟨qRA0, qRA1, qRA2, qRA3⟩, qRA4, qRA5, qRA6, qRA7⟩ := RA.out.all
  go_wp2_with fail
  refine (implRankOf_any n a LA.out YA.out r c HM.out _).mono ?_
  rintro e w8 ⟨rfl, hb⟩
  clear qRA0 qRA1 qRA2 qRA3 qRA4 qRA5 qRA6 qRA7
  replace RA := Lib.hid (RA.out.below hb)
  replace BB := Lib.hid (below_go BB.out hb BB.out.size)
  clear hb
  have t1 : (c != c) = false := by simp
  have t2 : (r != r) = false := by simp
  go_wp2
  go_ret
  exact ⟨rfl, BB.out⟩

end Go.Proofs.Ythelncibpoijoaa
