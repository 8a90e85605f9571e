/- The walk of the law of SimpleOfWord. -/
import Derived.Test.YtinflgcpkeomlabLawA
import Derived.Test.YtinflgcpkeomlabIWord
import Derived.Test.YtinflgcpkeomlabSWord
import Derived.Test.YtinflgcpkeomlabBase5
namespace Go.Proofs.Ytinflgcpkeomlab
open Go.RowKit Go.ChangeShapes

set_option maxRecDepth 100000 in
set_option maxHeartbeats 1000000 in
theorem fnExactSimpleOfWord_walk {n : Int} {a : Option Addr} {m cap : Nat} {xs : List Int} {w : World} (hr : Reads w a m xs) (_hx : m ≤ maxLen) (_hn : (Lit.int .i64 n).wf = true) :
    Calls Try.prog 7 #[.slice a m cap, .int .i64 n] w fun e w' => e = .returned (.bool true) ∧ Below w.heap.size w w' := by
  by_cases hbig : (1048576 : Int) < m
  · go_enter Try.func7, Try.ntmps7
    go_wp2
    go_ret
    exact ⟨rfl, Below.refl _ _⟩
  · have hm : m ≤ 1048576 := by omega
    obtain ⟨r, c, hM⟩ : ∃ r c, mWordIn n xs = (r, c) := ⟨_, _, rfl⟩
    have HM := Lib.hid hM
    clear hM
    have HR : Hid (r.length = 8) := Lib.hid (mWordIn_len HM.out)
    have R0 := Lib.hid hr
    clear hr
    go_enter Try.func7, Try.ntmps7
    have BB := Lib.hid (Below.refl w.heap.size w)
    go_wp2_with fail
    refine (toInt64S_any _ _ _ xs _ R0.out hm).mono ?_
    rintro e v1 ⟨a1, c1, rfl, ho, hb⟩
    have C1 := Lib.hid ho.reads
    clear ho
    replace R0 := Lib.hid (R0.out.below hb)
    replace BB := Lib.hid (below_go BB.out hb BB.out.size)
    clear hb
    go_wp2_with fail
    refine (specW_any n _ _ _ xs r c HM.out _ C1.out hm).mono ?_
    rintro e v2 ⟨rfl, hb⟩
    replace R0 := Lib.hid (R0.out.below hb)
    replace C1 := Lib.hid (C1.out.below hb)
    replace BB := Lib.hid (below_go BB.out hb BB.out.size)
    clear hb
    have RW := Lib.hid (Row8.place v2 .u8 r 23 v2.heap.size rfl HR.out)
    replace R0 := Lib.hid (R0.out.alloc (.cells #[.int .u8 (at8 r 0), .int .u8 (at8 r 1), .int .u8 (at8 r 2), .int .u8 (at8 r 3), .int .u8 (at8 r 4), .int .u8 (at8 r 5), .int .u8 (at8 r 6), .int .u8 (at8 r 7)] 23))
    replace C1 := Lib.hid (C1.out.alloc (.cells #[.int .u8 (at8 r 0), .int .u8 (at8 r 1), .int .u8 (at8 r 2), .int .u8 (at8 r 3), .int .u8 (at8 r 4), .int .u8 (at8 r 5), .int .u8 (at8 r 6), .int .u8 (at8 r 7)] 23))
    replace BB := Lib.hid (BB.out.alloc BB.out.size (.cells #[.int .u8 (at8 r 0), .int .u8 (at8 r 1), .int .u8 (at8 r 2), .int .u8 (at8 r 3), .int .u8 (at8 r 4), .int .u8 (at8 r 5), .int .u8 (at8 r 6), .int .u8 (at8 r 7)] 23))
    go_wp2_with fail
    refine (toInt64S_any _ _ _ xs _ R0.out hm).mono ?_
    rintro e v3 ⟨a3, c3, rfl, ho, hb⟩
    have C2 := Lib.hid ho.reads
    clear ho
    replace R0 := Lib.hid (R0.out.below hb)
    replace C1 := Lib.hid (C1.out.below hb)
    replace RW := Lib.hid (RW.out.below hb)
    replace BB := Lib.hid (below_go BB.out hb BB.out.size)
    clear hb
    go_wp2_with fail
    refine (implW_any n _ _ _ xs r c HM.out _ C2.out hm).mono ?_
    rintro e v4 ⟨rfl, hb⟩
    replace R0 := Lib.hid (R0.out.below hb)
    replace C1 := Lib.hid (C1.out.below hb)
    replace RW := Lib.hid (RW.out.below hb)
    replace C2 := Lib.hid (C2.out.below hb)
    replace BB := Lib.hid (below_go BB.out hb BB.out.size)
    clear hb
    have RG := Lib.hid (Row8.place v4 .u8 r 23 v4.heap.size rfl HR.out)
    replace R0 := Lib.hid (R0.out.alloc (.cells #[.int .u8 (at8 r 0), .int .u8 (at8 r 1), .int .u8 (at8 r 2), .int .u8 (at8 r 3), .int .u8 (at8 r 4), .int .u8 (at8 r 5), .int .u8 (at8 r 6), .int .u8 (at8 r 7)] 23))
    replace C1 := Lib.hid (C1.out.alloc (.cells #[.int .u8 (at8 r 0), .int .u8 (at8 r 1), .int .u8 (at8 r 2), .int .u8 (at8 r 3), .int .u8 (at8 r 4), .int .u8 (at8 r 5), .int .u8 (at8 r 6), .int .u8 (at8 r 7)] 23))
    replace RW := Lib.hid (RW.out.alloc (.cells #[.int .u8 (at8 r 0), .int .u8 (at8 r 1), .int .u8 (at8 r 2), .int .u8 (at8 r 3), .int .u8 (at8 r 4), .int .u8 (at8 r 5), .int .u8 (at8 r 6), .int .u8 (at8 r 7)] 23))
    replace C2 := Lib.hid (C2.out.alloc (.cells #[.int .u8 (at8 r 0), .int .u8 (at8 r 1), .int .u8 (at8 r 2), .int .u8 (at8 r 3), .int .u8 (at8 r 4), .int .u8 (at8 r 5), .int .u8 (at8 r 6), .int .u8 (at8 r 7)] 23))
    replace BB := Lib.hid (BB.out.alloc BB.out.size (.cells #[.int .u8 (at8 r 0), .int .u8 (at8 r 1), .int .u8 (at8 r 2), .int .u8 (at8 r 3), .int .u8 (at8 r 4), .int .u8 (at8 r 5), .int .u8 (at8 r 6), .int .u8 (at8 r 7)] 23))
    have t1 : (c != c) = false := by simp
    obtain ⟨⟨qRW0, qRW1, qRW2, qRW3⟩, qRW4, qRW5, qRW6, qRW7⟩ := RW.out.all
    obtain ⟨⟨qRG0, qRG1, qRG2, qRG3⟩, qRG4, qRG5, qRG6, qRG7⟩ := RG.out.all
    go_wp2_with fail
    refine (eqSimple_yes r HR.out _).mono ?_
    rintro e v9 ⟨rfl, hb⟩
    replace R0 := Lib.hid (R0.out.below hb)
    clear qRW0 qRW1 qRW2 qRW3 qRW4 qRW5 qRW6 qRW7 qRG0 qRG1 qRG2 qRG3 qRG4 qRG5 qRG6 qRG7
    replace C1 := Lib.hid (C1.out.below hb)
    replace RW := Lib.hid (RW.out.below hb)
    replace C2 := Lib.hid (C2.out.below hb)
    replace RG := Lib.hid (RG.out.below hb)
    replace BB := Lib.hid (below_go BB.out hb BB.out.size)
    clear hb
    go_wp2_with fail
    refine (toInt64S_any _ _ _ xs _ R0.out hm).mono ?_
    rintro e v5 ⟨a5, c5, rfl, ho, hb⟩
    have C3 := Lib.hid ho.reads
    clear ho
    replace R0 := Lib.hid (R0.out.below hb)
    replace C1 := Lib.hid (C1.out.below hb)
    replace RW := Lib.hid (RW.out.below hb)
    replace C2 := Lib.hid (C2.out.below hb)
    replace RG := Lib.hid (RG.out.below hb)
    replace BB := Lib.hid (below_go BB.out hb BB.out.size)
    clear hb
    go_wp2_with fail
    refine (eqInt64S_yes _ _ _ _ _ _ xs _ C2.out C3.out hm).mono ?_
    rintro e v10 ⟨rfl, hb⟩
    replace BB := Lib.hid (below_go BB.out hb BB.out.size)
    go_wp2
    go_ret
    exact ⟨rfl, BB.out⟩

end Go.Proofs.Ytinflgcpkeomlab
