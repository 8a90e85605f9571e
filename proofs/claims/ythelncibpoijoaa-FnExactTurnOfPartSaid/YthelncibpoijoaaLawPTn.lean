/- The walk of the law of TurnOfPart. -/
import Derived.Test.YthelncibpoijoaaLawPt
import Derived.Test.YthelncibpoijoaaEPTn
namespace Go.Proofs.Ythelncibpoijoaa
open Go.RowKit Go.ChangeShapes

set_option maxRecDepth 100000 in
set_option maxHeartbeats 1000000 in
theorem fnExactTurnOfPart_walk {n : Int} {a : List Int} {w : World} (la : a.length = 8) (ya : Bytes8 a) (_hn : (Lit.int .i64 n).wf = true) :
    Calls Try.prog 8 #[arr8 .u8 a, .int .i64 n] w fun e w' => e = .returned (.bool true) ∧ Below w.heap.size w w' := by
  obtain ⟨r, c, hM⟩ : ∃ r c, mTurnOfPart n a = (r, c) := ⟨_, _, rfl⟩
  have HM := Lib.hid hM
  clear hM
  have LA := Lib.hid la
  have YA := Lib.hid ya
  clear ya
  go_enter Try.func8, Try.ntmps8
  have RA := Lib.hid (Row8.place w .u8 a 22 w.heap.size rfl la)
  have BB := Lib.hid (below1 w (.cells #[.int .u8 (at8 a 0), .int .u8 (at8 a 1), .int .u8 (at8 a 2), .int .u8 (at8 a 3), .int .u8 (at8 a 4), .int .u8 (at8 a 5), .int .u8 (at8 a 6), .int .u8 (at8 a 7)] 22))
  clear la
  have HR : Hid (r.length = 8) := Lib.hid (mTurnOfPart_len LA.out HM.out)
  obtain ⟨⟨qRA0, qRA1, qRA2, qRA3⟩, qRA4, qRA5, qRA6, qRA7⟩ := RA.out.all
  go_wp2_with fail
  refine (toPart_any a LA.out _).mono ?_
  rintro e w2 ⟨rfl, hb⟩
  clear qRA0 qRA1 qRA2 qRA3 qRA4 qRA5 qRA6 qRA7
  replace RA := Lib.hid (RA.out.below hb)
  replace BB := Lib.hid (below_go BB.out hb BB.out.size)
  clear hb
  obtain ⟨⟨qRA0, qRA1, qRA2, qRA3⟩, qRA4, qRA5, qRA6, qRA7⟩ := RA.out.all
  go_wp2_with fail
  refine (specTurnOfPart_any n a LA.out YA.out r c HM.out _).mono ?_
  rintro e w4 ⟨rfl, hb⟩
  clear qRA0 qRA1 qRA2 qRA3 qRA4 qRA5 qRA6 qRA7
  replace RA := Lib.hid (RA.out.below hb)
  replace BB := Lib.hid (below_go BB.out hb BB.out.size)
  clear hb
  have RW := Lib.hid (Row8.place w4 .u8 r 24 w4.heap.size rfl HR.out)
  replace RA := Lib.hid (RA.out.alloc (.cells #[.int .u8 (at8 r 0), .int .u8 (at8 r 1), .int .u8 (at8 r 2), .int .u8 (at8 r 3), .int .u8 (at8 r 4), .int .u8 (at8 r 5), .int .u8 (at8 r 6), .int .u8 (at8 r 7)] 24))
  replace BB := Lib.hid (BB.out.alloc BB.out.size (.cells #[.int .u8 (at8 r 0), .int .u8 (at8 r 1), .int .u8 (at8 r 2), .int .u8 (at8 r 3), .int .u8 (at8 r 4), .int .u8 (at8 r 5), .int .u8 (at8 r 6), .int .u8 (at8 r 7)] 24))
  obtain ⟨⟨qRA0, qRA1, qRA2, qRA3⟩, qRA4, qRA5, qRA6, qRA7⟩ := RA.out.all
  obtain ⟨⟨qRW0, qRW1, qRW2, qRW3⟩, qRW4, qRW5, qRW6, qRW7⟩ := RW.out.all
  go_wp2_with fail
  refine (toPart_any a LA.out _).mono ?_
  rintro e w6 ⟨rfl, hb⟩
  clear qRA0 qRA1 qRA2 qRA3 qRA4 qRA5 qRA6 qRA7 qRW0 qRW1 qRW2 qRW3 qRW4 qRW5 qRW6 qRW7
  replace RA := Lib.hid (RA.out.below hb)
  replace RW := Lib.hid (RW.out.below hb)
  replace BB := Lib.hid (below_go BB.out hb BB.out.size)
  clear hb
  obtain ⟨⟨qRA0, qRA1, qRA2, qRA3⟩, qRA4, qRA5, qRA6, qRA7⟩ := RA.out.all
  obtain ⟨⟨qRW0, qRW1, qRW2, qRW3⟩, qRW4, qRW5, qRW6, qRW7⟩ := RW.out.all
  go_wp2_with fail
  refine (implTurnOfPart_any n a LA.out YA.out r c HM.out _).mono ?_
  rintro e w8 ⟨rfl, hb⟩
  clear qRA0 qRA1 qRA2 qRA3 qRA4 qRA5 qRA6 qRA7 qRW0 qRW1 qRW2 qRW3 qRW4 qRW5 qRW6 qRW7
  replace RA := Lib.hid (RA.out.below hb)
  replace RW := Lib.hid (RW.out.below hb)
  replace BB := Lib.hid (below_go BB.out hb BB.out.size)
  clear hb
  have RG := Lib.hid (Row8.place w8 .u8 r 24 w8.heap.size rfl HR.out)
  replace RA := Lib.hid (RA.out.alloc (.cells #[.int .u8 (at8 r 0), .int .u8 (at8 r 1), .int .u8 (at8 r 2), .int .u8 (at8 r 3), .int .u8 (at8 r 4), .int .u8 (at8 r 5), .int .u8 (at8 r 6), .int .u8 (at8 r 7)] 24))
  replace RW := Lib.hid (RW.out.alloc (.cells #[.int .u8 (at8 r 0), .int .u8 (at8 r 1), .int .u8 (at8 r 2), .int .u8 (at8 r 3), .int .u8 (at8 r 4), .int .u8 (at8 r 5), .int .u8 (at8 r 6), .int .u8 (at8 r 7)] 24))
  replace BB := Lib.hid (BB.out.alloc BB.out.size (.cells #[.int .u8 (at8 r 0), .int .u8 (at8 r 1), .int .u8 (at8 r 2), .int .u8 (at8 r 3), .int .u8 (at8 r 4), .int .u8 (at8 r 5), .int .u8 (at8 r 6), .int .u8 (at8 r 7)] 24))
  have t1 : (c != c) = false := by simp
  obtain ⟨⟨qRA0, qRA1, qRA2, qRA3⟩, qRA4, qRA5, qRA6, qRA7⟩ := RA.out.all
  obtain ⟨⟨qRW0, qRW1, qRW2, qRW3⟩, qRW4, qRW5, qRW6, qRW7⟩ := RW.out.all
  obtain ⟨⟨qRG0, qRG1, qRG2, qRG3⟩, qRG4, qRG5, qRG6, qRG7⟩ := RG.out.all
  go_wp2_with fail
  refine (eqPart_yes r HR.out _).mono ?_
  rintro e w10 ⟨rfl, hb⟩
  clear qRA0 qRA1 qRA2 qRA3 qRA4 qRA5 qRA6 qRA7 qRW0 qRW1 qRW2 qRW3 qRW4 qRW5 qRW6 qRW7 qRG0 qRG1 qRG2 qRG3 qRG4 qRG5 qRG6 qRG7
  replace RA := Lib.hid (RA.out.below hb)
  replace RW := Lib.hid (RW.out.below hb)
  replace RG := Lib.hid (RG.out.below hb)
  replace BB := Lib.hid (below_go BB.out hb BB.out.size)
  clear hb
  go_wp2
  go_ret
  exact ⟨rfl, BB.out⟩

end Go.Proofs.Ythelncibpoijoaa
