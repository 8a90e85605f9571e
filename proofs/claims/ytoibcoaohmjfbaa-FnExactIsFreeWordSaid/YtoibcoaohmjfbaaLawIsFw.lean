/- The walk of the law of impl.IsFreeWord: the model's answer and the program's are compared, marks are written into what came back and looked for. -/
import Derived.Test.YtoibcoaohmjfbaaFwI
import Derived.Deep.RegionHeld3
namespace Go.Proofs.Ytoibcoaohmjfbaa
open Go.RowKit Go.ChangeShapes

set_option maxRecDepth 100000 in
set_option maxHeartbeats 4000000 in
theorem fnExactIsFreeWord_walk {a0 : Option Addr} {n0 cap0 : Nat} {xs0 : List Int} {s1 : Int} {w : World} (hr0 : Reads w a0 n0 xs0) (hn0 : n0 ≤ maxLen) (hs1 : (Lit.int .i64 s1).wf = true) :
    Calls Try.prog 3 #[.slice a0 n0 cap0, .int .i64 s1] w fun e w' => e = .returned (.bool true) ∧ Below w.heap.size w w' := by
  have R0 := Lib.hid hr0.old; clear hr0
  have HS1 := Lib.hid hs1; clear hs1
  by_cases hm0 : n0 ≤ 1048576
  rotate_left
  · go_enter Try.func3, Try.ntmps3
    unfold maxLen at hn0
    go_wp2
    go_ret
    exact ⟨rfl, Below.refl _ _⟩
  obtain ⟨fb, hM⟩ : ∃ fb, isFree s1 xs0 = fb := ⟨_, rfl⟩
  have HM := Lib.hid hM; clear hM
  have t2 : (fb != fb) = false := by simp
  go_enter Try.func3, Try.ntmps3
  go_wp2_with fail
  refine (toInt64S_any _ _ _ xs0 _ R0.out.reads hm0).mono ?_
  rintro e w1 ⟨aw1, cw1, rfl, ho, hb⟩
  have O1 : Hid (OwnIn (w.heap.size) w1.heap.size w1 aw1 n0 cw1 xs0) := Lib.hid (by simpa using ho.within); clear ho
  replace R0 := Lib.hid (R0.out.below hb)
  have z1 : w.heap.size ≤ w1.heap.size := hb.size
  have BB := Lib.hid hb
  clear hb
  go_wp2_with fail
  refine (specIsFreeWord_any O1.out.reads hm0 HS1.out HM.out).mono ?_
  rintro e w2 ⟨rfl, hb⟩
  replace R0 := Lib.hid (R0.out.below hb)
  replace O1 := Lib.hid (O1.out.below hb)
  have z2 : w1.heap.size ≤ w2.heap.size := hb.size
  replace BB := Lib.hid (below_go BB.out hb (by omega))
  clear hb
  clear O1
  go_wp2_with fail
  refine (toInt64S_any _ _ _ xs0 _ R0.out.reads hm0).mono ?_
  rintro e w3 ⟨aw3, cw3, rfl, ho, hb⟩
  have O3 : Hid (OwnIn (w2.heap.size) w3.heap.size w3 aw3 n0 cw3 xs0) := Lib.hid (by simpa using ho.within); clear ho
  replace R0 := Lib.hid (R0.out.below hb)
  have z3 : w2.heap.size ≤ w3.heap.size := hb.size
  replace BB := Lib.hid (below_go BB.out hb (by omega))
  clear hb
  go_wp2_with fail
  refine (implIsFreeWord_any O3.out.reads hm0 HS1.out HM.out).mono ?_
  rintro e w4 ⟨rfl, hb⟩
  replace R0 := Lib.hid (R0.out.below hb)
  replace O3 := Lib.hid (O3.out.below hb)
  have z4 : w3.heap.size ≤ w4.heap.size := hb.size
  replace BB := Lib.hid (below_go BB.out hb (by omega))
  clear hb
  go_wp2_with fail
  refine (toInt64S_any _ _ _ xs0 _ R0.out.reads hm0).mono ?_
  rintro e w5 ⟨aw5, cw5, rfl, ho, hb⟩
  have O5 : Hid (OwnIn (w4.heap.size) w5.heap.size w5 aw5 n0 cw5 xs0) := Lib.hid (by simpa using ho.within); clear ho
  replace R0 := Lib.hid (R0.out.below hb)
  replace O3 := Lib.hid (O3.out.below hb)
  have z5 : w4.heap.size ≤ w5.heap.size := hb.size
  replace BB := Lib.hid (below_go BB.out hb (by omega))
  clear hb
  go_wp2_with fail
  refine (eqInt64S_yes _ _ _ _ _ _ xs0 _ O3.out.reads O5.out.reads hm0).mono ?_
  rintro e w6 ⟨rfl, hb⟩
  replace R0 := Lib.hid (R0.out.below hb)
  replace O3 := Lib.hid (O3.out.below hb)
  replace O5 := Lib.hid (O5.out.below hb)
  have z6 : w5.heap.size ≤ w6.heap.size := hb.size
  replace BB := Lib.hid (below_go BB.out hb (by omega))
  clear hb
  clear O5
  go_wp2
  go_ret
  exact ⟨rfl, BB.out⟩

end Go.Proofs.Ytoibcoaohmjfbaa
