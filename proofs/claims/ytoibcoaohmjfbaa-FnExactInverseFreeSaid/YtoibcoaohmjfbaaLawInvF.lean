/- The walk of the law of impl.InverseFree: the model's answer and the program's are compared, marks are written into what came back and looked for. -/
import Derived.Test.YtoibcoaohmjfbaaInvF
import Derived.Test.YtoibcoaohmjfbaaQA
import Derived.Deep.RegionHeld3
namespace Go.Proofs.Ytoibcoaohmjfbaa
open Go.RowKit Go.ChangeShapes

set_option maxRecDepth 100000 in
set_option maxHeartbeats 4000000 in
theorem fnExactInverseFree_walk {a0 : Option Addr} {n0 cap0 : Nat} {xs0 : List Int} {s1 : Int} {w : World} (hr0 : Reads w a0 n0 xs0) (hn0 : n0 ≤ maxLen) (hs1 : (Lit.int .i64 s1).wf = true) :
    Calls Try.prog 4 #[.slice a0 n0 cap0, .int .i64 s1] w fun e w' => e = .returned (.bool true) ∧ Below w.heap.size w w' := by
  have R0 := Lib.hid hr0.old; clear hr0
  have HS1 := Lib.hid hs1; clear hs1
  by_cases hm0 : n0 ≤ 1048576
  rotate_left
  · go_enter Try.func4, Try.ntmps4
    unfold maxLen at hn0
    go_wp2
    go_ret
    exact ⟨rfl, Below.refl _ _⟩
  obtain ⟨fxs, fc, hM⟩ : ∃ fxs fc, mInvFree xs0 s1 = (fxs, fc) := ⟨_, _, rfl⟩
  have HM := Lib.hid hM; clear hM
  have t1 : (fc != fc) = false := by simp
  go_enter Try.func4, Try.ntmps4
  go_wp2_with fail
  refine (toInt64S_any _ _ _ xs0 _ R0.out.reads hm0).mono ?_
  rintro e w1 ⟨aw1, cw1, rfl, ho, hb⟩
  have O1 : Hid (OwnIn (w.heap.size) w1.heap.size w1 aw1 n0 cw1 xs0) := Lib.hid (by simpa using ho.within); clear ho
  replace R0 := Lib.hid (R0.out.below hb)
  have z1 : w.heap.size ≤ w1.heap.size := hb.size
  have BB := Lib.hid hb
  clear hb
  go_wp2_with fail
  refine (specInverseFree_any O1.out.reads hm0 HS1.out HM.out).mono ?_
  rintro e w2 ⟨b2, m2, d2, rfl, hl2, ho, hb⟩
  have P2 : Hid (OwnIn (w1.heap.size) w2.heap.size w2 b2 m2 d2 fxs) := Lib.hid (by simpa using ho.within); clear ho
  replace R0 := Lib.hid (R0.out.below hb)
  replace O1 := Lib.hid (O1.out.below hb)
  have z2 : w1.heap.size ≤ w2.heap.size := hb.size
  replace BB := Lib.hid (below_go BB.out hb (by omega))
  clear hb
  clear O1
  go_wp2_with fail
  refine (toInt64S_any _ _ _ xs0 _ R0.out.reads hm0).mono ?_
  rintro e w3 ⟨aw3, cw3, rfl, ho, hb⟩
  have O3 : Hid (OwnIn (w2.heap.size) w3.heap.size w3 aw3 n0 cw3 xs0) := Lib.hid (by simpa using ho.within); clear ho
  replace R0 := Lib.hid (R0.out.below hb)
  replace P2 := Lib.hid (P2.out.below hb)
  have z3 : w2.heap.size ≤ w3.heap.size := hb.size
  replace BB := Lib.hid (below_go BB.out hb (by omega))
  clear hb
  go_wp2_with fail
  refine (implInverseFree_any O3.out.reads hm0 HS1.out HM.out).mono ?_
  rintro e w4 ⟨b4, m4, d4, rfl, hl4, ho, hb⟩
  have P4 : Hid (OwnIn (w3.heap.size) w4.heap.size w4 b4 m4 d4 fxs) := Lib.hid (by simpa using ho.within); clear ho
  replace R0 := Lib.hid (R0.out.below hb)
  replace P2 := Lib.hid (P2.out.below hb)
  replace O3 := Lib.hid (O3.out.below hb)
  have z4 : w3.heap.size ≤ w4.heap.size := hb.size
  replace BB := Lib.hid (below_go BB.out hb (by omega))
  clear hb
  go_wp2_with fail
  refine (eqInt64S_yes _ _ _ _ _ _ fxs _ P4.out.reads P2.out.reads hl4).mono ?_
  rintro e w5 ⟨rfl, hb⟩
  replace R0 := Lib.hid (R0.out.below hb)
  replace P2 := Lib.hid (P2.out.below hb)
  replace O3 := Lib.hid (O3.out.below hb)
  replace P4 := Lib.hid (P4.out.below hb)
  have z5 : w4.heap.size ≤ w5.heap.size := hb.size
  replace BB := Lib.hid (below_go BB.out hb (by omega))
  clear hb
  go_wp2_with fail
  refine (toInt64S_any _ _ _ xs0 _ R0.out.reads hm0).mono ?_
  rintro e w6 ⟨aw6, cw6, rfl, ho, hb⟩
  have O6 : Hid (OwnIn (w5.heap.size) w6.heap.size w6 aw6 n0 cw6 xs0) := Lib.hid (by simpa using ho.within); clear ho
  replace R0 := Lib.hid (R0.out.below hb)
  replace P2 := Lib.hid (P2.out.below hb)
  replace O3 := Lib.hid (O3.out.below hb)
  replace P4 := Lib.hid (P4.out.below hb)
  have z6 : w5.heap.size ≤ w6.heap.size := hb.size
  replace BB := Lib.hid (below_go BB.out hb (by omega))
  clear hb
  go_wp2_with fail
  refine (eqInt64S_yes _ _ _ _ _ _ xs0 _ O3.out.reads O6.out.reads hm0).mono ?_
  rintro e w7 ⟨rfl, hb⟩
  replace R0 := Lib.hid (R0.out.below hb)
  replace P2 := Lib.hid (P2.out.below hb)
  replace O3 := Lib.hid (O3.out.below hb)
  replace P4 := Lib.hid (P4.out.below hb)
  replace O6 := Lib.hid (O6.out.below hb)
  have z7 : w6.heap.size ≤ w7.heap.size := hb.size
  replace BB := Lib.hid (below_go BB.out hb (by omega))
  clear hb
  clear O6
  go_wp2_with fail
  refine (markInt64S_in _ _ _ _ _ xs0 _ _ O3.out hm0 (by omega) (by omega)).mono ?_
  rintro e w8 ⟨rfl, ho, hb⟩
  clear ho
  clear O3
  replace R0 := Lib.hid (R0.out.wrote hb (by omega))
  replace P2 := Lib.hid (P2.out.wrote hb (by omega))
  replace P4 := Lib.hid (P4.out.wrote hb (by omega))
  have z8 : w7.heap.size ≤ w8.heap.size := hb.size
  replace BB := Lib.hid (below_write BB.out hb (by omega) (by omega))
  clear hb
  go_wp2_with fail
  refine (eqInt64S_yes _ _ _ _ _ _ fxs _ P4.out.reads P2.out.reads hl4).mono ?_
  rintro e w9 ⟨rfl, hb⟩
  replace R0 := Lib.hid (R0.out.below hb)
  replace P2 := Lib.hid (P2.out.below hb)
  replace P4 := Lib.hid (P4.out.below hb)
  have z9 : w8.heap.size ≤ w9.heap.size := hb.size
  replace BB := Lib.hid (below_go BB.out hb (by omega))
  clear hb
  go_wp2_with fail
  refine (markInt64S_in _ _ _ _ _ fxs _ _ P4.out hl4 (by omega) (by omega)).mono ?_
  rintro e w10 ⟨rfl, ho, hb⟩
  replace R0 := Lib.hid (R0.out.wrote hb (by omega))
  replace P2 := Lib.hid (P2.out.wrote hb (by omega))
  have z10 : w9.heap.size ≤ w10.heap.size := hb.size
  replace BB := Lib.hid (below_write BB.out hb (by omega) (by omega))
  clear hb
  replace P4 := Lib.hid ho; clear ho
  have t3 : ((1 + (m4 : Int)) != (1 + (m4 : Int))) = false := by simp
  go_wp2_with fail
  refine (heldInt64S_be _ _ _ _ _ P4.out.reads hl4 (by omega) (by omega)).mono ?_
  rintro e w11 ⟨rfl, hb⟩
  replace R0 := Lib.hid (R0.out.below hb)
  replace P2 := Lib.hid (P2.out.below hb)
  replace P4 := Lib.hid (P4.out.below hb)
  have z11 : w10.heap.size ≤ w11.heap.size := hb.size
  replace BB := Lib.hid (below_go BB.out hb (by omega))
  clear hb
  go_wp2_with fail
  refine (toInt64S_any _ _ _ xs0 _ R0.out.reads hm0).mono ?_
  rintro e w12 ⟨aw12, cw12, rfl, ho, hb⟩
  have O12 : Hid (OwnIn (w11.heap.size) w12.heap.size w12 aw12 n0 cw12 xs0) := Lib.hid (by simpa using ho.within); clear ho
  replace R0 := Lib.hid (R0.out.below hb)
  replace P2 := Lib.hid (P2.out.below hb)
  replace P4 := Lib.hid (P4.out.below hb)
  have z12 : w11.heap.size ≤ w12.heap.size := hb.size
  replace BB := Lib.hid (below_go BB.out hb (by omega))
  clear hb
  go_wp2_with fail
  refine (implInverseFree_any O12.out.reads hm0 HS1.out HM.out).mono ?_
  rintro e w13 ⟨b13, m13, d13, rfl, hl13, ho, hb⟩
  have P13 : Hid (OwnIn (w12.heap.size) w13.heap.size w13 b13 m13 d13 fxs) := Lib.hid (by simpa using ho.within); clear ho
  replace R0 := Lib.hid (R0.out.below hb)
  replace P2 := Lib.hid (P2.out.below hb)
  replace P4 := Lib.hid (P4.out.below hb)
  replace O12 := Lib.hid (O12.out.below hb)
  have z13 : w12.heap.size ≤ w13.heap.size := hb.size
  replace BB := Lib.hid (below_go BB.out hb (by omega))
  clear hb
  go_wp2_with fail
  refine (eqInt64S_yes _ _ _ _ _ _ fxs _ P13.out.reads P2.out.reads hl13).mono ?_
  rintro e w14 ⟨rfl, hb⟩
  replace R0 := Lib.hid (R0.out.below hb)
  replace P2 := Lib.hid (P2.out.below hb)
  replace P4 := Lib.hid (P4.out.below hb)
  replace O12 := Lib.hid (O12.out.below hb)
  replace P13 := Lib.hid (P13.out.below hb)
  have z14 : w13.heap.size ≤ w14.heap.size := hb.size
  replace BB := Lib.hid (below_go BB.out hb (by omega))
  clear hb
  go_wp2_with fail
  refine (heldInt64S_be _ _ _ _ _ P4.out.reads hl4 (by omega) (by omega)).mono ?_
  rintro e w15 ⟨rfl, hb⟩
  replace R0 := Lib.hid (R0.out.below hb)
  replace P2 := Lib.hid (P2.out.below hb)
  replace P4 := Lib.hid (P4.out.below hb)
  replace O12 := Lib.hid (O12.out.below hb)
  replace P13 := Lib.hid (P13.out.below hb)
  have z15 : w14.heap.size ≤ w15.heap.size := hb.size
  replace BB := Lib.hid (below_go BB.out hb (by omega))
  clear hb
  go_wp2
  go_ret
  exact ⟨rfl, BB.out⟩

end Go.Proofs.Ytoibcoaohmjfbaa
