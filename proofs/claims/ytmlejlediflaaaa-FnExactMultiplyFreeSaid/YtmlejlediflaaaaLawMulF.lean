/- The walk of the law of impl.MultiplyFree: the model's answer and the program's are compared, marks are written into what came back and looked for. -/
import Derived.Test.YtmlejlediflaaaaMulF
import Derived.Test.YtmlejlediflaaaaQA
import Derived.Deep.RegionHeld3
namespace Go.Proofs.Ytmlejlediflaaaa
open Go.RowKit Go.ChangeShapes

set_option maxRecDepth 100000 in
set_option maxHeartbeats 4000000 in
theorem fnExactMultiplyFree_walk {a0 : Option Addr} {n0 cap0 : Nat} {xs0 : List Int} {a1 : Option Addr} {n1 cap1 : Nat} {xs1 : List Int} {s2 : Int} {w : World} (hr0 : Reads w a0 n0 xs0) (hn0 : n0 ≤ maxLen) (hr1 : Reads w a1 n1 xs1) (hn1 : n1 ≤ maxLen) (hs2 : (Lit.int .i64 s2).wf = true) :
    Calls Try.prog 12 #[.slice a0 n0 cap0, .slice a1 n1 cap1, .int .i64 s2] w fun e w' => e = .returned (.bool true) ∧ Below w.heap.size w w' := by
  have R0 := Lib.hid hr0.old; clear hr0
  have R1 := Lib.hid hr1.old; clear hr1
  have HS2 := Lib.hid hs2; clear hs2
  by_cases hm0 : n0 ≤ 1048576
  rotate_left
  · go_enter Try.func12, Try.ntmps12
    unfold maxLen at hn0
    go_wp2
    go_ret
    exact ⟨rfl, Below.refl _ _⟩
  by_cases hm1 : n1 ≤ 1048576
  rotate_left
  · go_enter Try.func12, Try.ntmps12
    unfold maxLen at hn1
    go_wp2
    go_ret
    exact ⟨rfl, Below.refl _ _⟩
  obtain ⟨fxs, fc, hM⟩ : ∃ fxs fc, mMulFree xs0 xs1 s2 = (fxs, fc) := ⟨_, _, rfl⟩
  have HM := Lib.hid hM; clear hM
  have t1 : (fc != fc) = false := by simp
  go_enter Try.func12, Try.ntmps12
  go_wp2_with fail
  refine (toInt64S_any _ _ _ xs0 _ R0.out.reads hm0).mono ?_
  rintro e w1 ⟨aw1, cw1, rfl, ho, hb⟩
  have O1 : Hid (OwnIn (w.heap.size) w1.heap.size w1 aw1 n0 cw1 xs0) := Lib.hid (by simpa using ho.within); clear ho
  replace R0 := Lib.hid (R0.out.below hb)
  replace R1 := Lib.hid (R1.out.below hb)
  have z1 : w.heap.size ≤ w1.heap.size := hb.size
  have BB := Lib.hid hb
  clear hb
  go_wp2_with fail
  refine (toInt64S_any _ _ _ xs1 _ R1.out.reads hm1).mono ?_
  rintro e w2 ⟨aw2, cw2, rfl, ho, hb⟩
  have O2 : Hid (OwnIn (w1.heap.size) w2.heap.size w2 aw2 n1 cw2 xs1) := Lib.hid (by simpa using ho.within); clear ho
  replace R0 := Lib.hid (R0.out.below hb)
  replace R1 := Lib.hid (R1.out.below hb)
  replace O1 := Lib.hid (O1.out.below hb)
  have z2 : w1.heap.size ≤ w2.heap.size := hb.size
  replace BB := Lib.hid (below_go BB.out hb (by omega))
  clear hb
  go_wp2_with fail
  refine (specMultiplyFree_any O1.out.reads hm0 O2.out.reads hm1 HS2.out HM.out).mono ?_
  rintro e w3 ⟨b3, m3, d3, rfl, hl3, ho, hb⟩
  have P3 : Hid (OwnIn (w2.heap.size) w3.heap.size w3 b3 m3 d3 fxs) := Lib.hid (by simpa using ho.within); clear ho
  replace R0 := Lib.hid (R0.out.below hb)
  replace R1 := Lib.hid (R1.out.below hb)
  replace O1 := Lib.hid (O1.out.below hb)
  replace O2 := Lib.hid (O2.out.below hb)
  have z3 : w2.heap.size ≤ w3.heap.size := hb.size
  replace BB := Lib.hid (below_go BB.out hb (by omega))
  clear hb
  clear O1
  clear O2
  go_wp2_with fail
  refine (toInt64S_any _ _ _ xs0 _ R0.out.reads hm0).mono ?_
  rintro e w4 ⟨aw4, cw4, rfl, ho, hb⟩
  have O4 : Hid (OwnIn (w3.heap.size) w4.heap.size w4 aw4 n0 cw4 xs0) := Lib.hid (by simpa using ho.within); clear ho
  replace R0 := Lib.hid (R0.out.below hb)
  replace R1 := Lib.hid (R1.out.below hb)
  replace P3 := Lib.hid (P3.out.below hb)
  have z4 : w3.heap.size ≤ w4.heap.size := hb.size
  replace BB := Lib.hid (below_go BB.out hb (by omega))
  clear hb
  go_wp2_with fail
  refine (toInt64S_any _ _ _ xs1 _ R1.out.reads hm1).mono ?_
  rintro e w5 ⟨aw5, cw5, rfl, ho, hb⟩
  have O5 : Hid (OwnIn (w4.heap.size) w5.heap.size w5 aw5 n1 cw5 xs1) := Lib.hid (by simpa using ho.within); clear ho
  replace R0 := Lib.hid (R0.out.below hb)
  replace R1 := Lib.hid (R1.out.below hb)
  replace P3 := Lib.hid (P3.out.below hb)
  replace O4 := Lib.hid (O4.out.below hb)
  have z5 : w4.heap.size ≤ w5.heap.size := hb.size
  replace BB := Lib.hid (below_go BB.out hb (by omega))
  clear hb
  go_wp2_with fail
  refine (implMultiplyFree_any O4.out.reads hm0 O5.out.reads hm1 HS2.out HM.out).mono ?_
  rintro e w6 ⟨b6, m6, d6, rfl, hl6, ho, hb⟩
  have P6 : Hid (OwnIn (w5.heap.size) w6.heap.size w6 b6 m6 d6 fxs) := Lib.hid (by simpa using ho.within); clear ho
  replace R0 := Lib.hid (R0.out.below hb)
  replace R1 := Lib.hid (R1.out.below hb)
  replace P3 := Lib.hid (P3.out.below hb)
  replace O4 := Lib.hid (O4.out.below hb)
  replace O5 := Lib.hid (O5.out.below hb)
  have z6 : w5.heap.size ≤ w6.heap.size := hb.size
  replace BB := Lib.hid (below_go BB.out hb (by omega))
  clear hb
  go_wp2_with fail
  refine (eqInt64S_yes _ _ _ _ _ _ fxs _ P6.out.reads P3.out.reads hl6).mono ?_
  rintro e w7 ⟨rfl, hb⟩
  replace R0 := Lib.hid (R0.out.below hb)
  replace R1 := Lib.hid (R1.out.below hb)
  replace P3 := Lib.hid (P3.out.below hb)
  replace O4 := Lib.hid (O4.out.below hb)
  replace O5 := Lib.hid (O5.out.below hb)
  replace P6 := Lib.hid (P6.out.below hb)
  have z7 : w6.heap.size ≤ w7.heap.size := hb.size
  replace BB := Lib.hid (below_go BB.out hb (by omega))
  clear hb
  go_wp2_with fail
  refine (toInt64S_any _ _ _ xs0 _ R0.out.reads hm0).mono ?_
  rintro e w8 ⟨aw8, cw8, rfl, ho, hb⟩
  have O8 : Hid (OwnIn (w7.heap.size) w8.heap.size w8 aw8 n0 cw8 xs0) := Lib.hid (by simpa using ho.within); clear ho
  replace R0 := Lib.hid (R0.out.below hb)
  replace R1 := Lib.hid (R1.out.below hb)
  replace P3 := Lib.hid (P3.out.below hb)
  replace O4 := Lib.hid (O4.out.below hb)
  replace O5 := Lib.hid (O5.out.below hb)
  replace P6 := Lib.hid (P6.out.below hb)
  have z8 : w7.heap.size ≤ w8.heap.size := hb.size
  replace BB := Lib.hid (below_go BB.out hb (by omega))
  clear hb
  go_wp2_with fail
  refine (eqInt64S_yes _ _ _ _ _ _ xs0 _ O4.out.reads O8.out.reads hm0).mono ?_
  rintro e w9 ⟨rfl, hb⟩
  replace R0 := Lib.hid (R0.out.below hb)
  replace R1 := Lib.hid (R1.out.below hb)
  replace P3 := Lib.hid (P3.out.below hb)
  replace O4 := Lib.hid (O4.out.below hb)
  replace O5 := Lib.hid (O5.out.below hb)
  replace P6 := Lib.hid (P6.out.below hb)
  replace O8 := Lib.hid (O8.out.below hb)
  have z9 : w8.heap.size ≤ w9.heap.size := hb.size
  replace BB := Lib.hid (below_go BB.out hb (by omega))
  clear hb
  clear O8
  go_wp2_with fail
  refine (toInt64S_any _ _ _ xs1 _ R1.out.reads hm1).mono ?_
  rintro e w10 ⟨aw10, cw10, rfl, ho, hb⟩
  have O10 : Hid (OwnIn (w9.heap.size) w10.heap.size w10 aw10 n1 cw10 xs1) := Lib.hid (by simpa using ho.within); clear ho
  replace R0 := Lib.hid (R0.out.below hb)
  replace R1 := Lib.hid (R1.out.below hb)
  replace P3 := Lib.hid (P3.out.below hb)
  replace O4 := Lib.hid (O4.out.below hb)
  replace O5 := Lib.hid (O5.out.below hb)
  replace P6 := Lib.hid (P6.out.below hb)
  have z10 : w9.heap.size ≤ w10.heap.size := hb.size
  replace BB := Lib.hid (below_go BB.out hb (by omega))
  clear hb
  go_wp2_with fail
  refine (eqInt64S_yes _ _ _ _ _ _ xs1 _ O5.out.reads O10.out.reads hm1).mono ?_
  rintro e w11 ⟨rfl, hb⟩
  replace R0 := Lib.hid (R0.out.below hb)
  replace R1 := Lib.hid (R1.out.below hb)
  replace P3 := Lib.hid (P3.out.below hb)
  replace O4 := Lib.hid (O4.out.below hb)
  replace O5 := Lib.hid (O5.out.below hb)
  replace P6 := Lib.hid (P6.out.below hb)
  replace O10 := Lib.hid (O10.out.below hb)
  have z11 : w10.heap.size ≤ w11.heap.size := hb.size
  replace BB := Lib.hid (below_go BB.out hb (by omega))
  clear hb
  clear O10
  go_wp2_with fail
  refine (markInt64S_in _ _ _ _ _ xs0 _ _ O4.out hm0 (by omega) (by omega)).mono ?_
  rintro e w12 ⟨rfl, ho, hb⟩
  clear ho
  clear O4
  replace R0 := Lib.hid (R0.out.wrote hb (by omega))
  replace R1 := Lib.hid (R1.out.wrote hb (by omega))
  replace P3 := Lib.hid (P3.out.wrote hb (by omega))
  replace O5 := Lib.hid (O5.out.wrote hb (by omega))
  replace P6 := Lib.hid (P6.out.wrote hb (by omega))
  have z12 : w11.heap.size ≤ w12.heap.size := hb.size
  replace BB := Lib.hid (below_write BB.out hb (by omega) (by omega))
  clear hb
  go_wp2_with fail
  refine (markInt64S_in _ _ _ _ _ xs1 _ _ O5.out hm1 (by omega) (by omega)).mono ?_
  rintro e w13 ⟨rfl, ho, hb⟩
  clear ho
  clear O5
  replace R0 := Lib.hid (R0.out.wrote hb (by omega))
  replace R1 := Lib.hid (R1.out.wrote hb (by omega))
  replace P3 := Lib.hid (P3.out.wrote hb (by omega))
  replace P6 := Lib.hid (P6.out.wrote hb (by omega))
  have z13 : w12.heap.size ≤ w13.heap.size := hb.size
  replace BB := Lib.hid (below_write BB.out hb (by omega) (by omega))
  clear hb
  go_wp2_with fail
  refine (eqInt64S_yes _ _ _ _ _ _ fxs _ P6.out.reads P3.out.reads hl6).mono ?_
  rintro e w14 ⟨rfl, hb⟩
  replace R0 := Lib.hid (R0.out.below hb)
  replace R1 := Lib.hid (R1.out.below hb)
  replace P3 := Lib.hid (P3.out.below hb)
  replace P6 := Lib.hid (P6.out.below hb)
  have z14 : w13.heap.size ≤ w14.heap.size := hb.size
  replace BB := Lib.hid (below_go BB.out hb (by omega))
  clear hb
  go_wp2_with fail
  refine (markInt64S_in _ _ _ _ _ fxs _ _ P6.out hl6 (by omega) (by omega)).mono ?_
  rintro e w15 ⟨rfl, ho, hb⟩
  replace R0 := Lib.hid (R0.out.wrote hb (by omega))
  replace R1 := Lib.hid (R1.out.wrote hb (by omega))
  replace P3 := Lib.hid (P3.out.wrote hb (by omega))
  have z15 : w14.heap.size ≤ w15.heap.size := hb.size
  replace BB := Lib.hid (below_write BB.out hb (by omega) (by omega))
  clear hb
  replace P6 := Lib.hid ho; clear ho
  have t3 : ((1 + (m6 : Int)) != (1 + (m6 : Int))) = false := by simp
  go_wp2_with fail
  refine (heldInt64S_be _ _ _ _ _ P6.out.reads hl6 (by omega) (by omega)).mono ?_
  rintro e w16 ⟨rfl, hb⟩
  replace R0 := Lib.hid (R0.out.below hb)
  replace R1 := Lib.hid (R1.out.below hb)
  replace P3 := Lib.hid (P3.out.below hb)
  replace P6 := Lib.hid (P6.out.below hb)
  have z16 : w15.heap.size ≤ w16.heap.size := hb.size
  replace BB := Lib.hid (below_go BB.out hb (by omega))
  clear hb
  go_wp2_with fail
  refine (toInt64S_any _ _ _ xs0 _ R0.out.reads hm0).mono ?_
  rintro e w17 ⟨aw17, cw17, rfl, ho, hb⟩
  have O17 : Hid (OwnIn (w16.heap.size) w17.heap.size w17 aw17 n0 cw17 xs0) := Lib.hid (by simpa using ho.within); clear ho
  replace R0 := Lib.hid (R0.out.below hb)
  replace R1 := Lib.hid (R1.out.below hb)
  replace P3 := Lib.hid (P3.out.below hb)
  replace P6 := Lib.hid (P6.out.below hb)
  have z17 : w16.heap.size ≤ w17.heap.size := hb.size
  replace BB := Lib.hid (below_go BB.out hb (by omega))
  clear hb
  go_wp2_with fail
  refine (toInt64S_any _ _ _ xs1 _ R1.out.reads hm1).mono ?_
  rintro e w18 ⟨aw18, cw18, rfl, ho, hb⟩
  have O18 : Hid (OwnIn (w17.heap.size) w18.heap.size w18 aw18 n1 cw18 xs1) := Lib.hid (by simpa using ho.within); clear ho
  replace R0 := Lib.hid (R0.out.below hb)
  replace R1 := Lib.hid (R1.out.below hb)
  replace P3 := Lib.hid (P3.out.below hb)
  replace P6 := Lib.hid (P6.out.below hb)
  replace O17 := Lib.hid (O17.out.below hb)
  have z18 : w17.heap.size ≤ w18.heap.size := hb.size
  replace BB := Lib.hid (below_go BB.out hb (by omega))
  clear hb
  go_wp2_with fail
  refine (implMultiplyFree_any O17.out.reads hm0 O18.out.reads hm1 HS2.out HM.out).mono ?_
  rintro e w19 ⟨b19, m19, d19, rfl, hl19, ho, hb⟩
  have P19 : Hid (OwnIn (w18.heap.size) w19.heap.size w19 b19 m19 d19 fxs) := Lib.hid (by simpa using ho.within); clear ho
  replace R0 := Lib.hid (R0.out.below hb)
  replace R1 := Lib.hid (R1.out.below hb)
  replace P3 := Lib.hid (P3.out.below hb)
  replace P6 := Lib.hid (P6.out.below hb)
  replace O17 := Lib.hid (O17.out.below hb)
  replace O18 := Lib.hid (O18.out.below hb)
  have z19 : w18.heap.size ≤ w19.heap.size := hb.size
  replace BB := Lib.hid (below_go BB.out hb (by omega))
  clear hb
  go_wp2_with fail
  refine (eqInt64S_yes _ _ _ _ _ _ fxs _ P19.out.reads P3.out.reads hl19).mono ?_
  rintro e w20 ⟨rfl, hb⟩
  replace R0 := Lib.hid (R0.out.below hb)
  replace R1 := Lib.hid (R1.out.below hb)
  replace P3 := Lib.hid (P3.out.below hb)
  replace P6 := Lib.hid (P6.out.below hb)
  replace O17 := Lib.hid (O17.out.below hb)
  replace O18 := Lib.hid (O18.out.below hb)
  replace P19 := Lib.hid (P19.out.below hb)
  have z20 : w19.heap.size ≤ w20.heap.size := hb.size
  replace BB := Lib.hid (below_go BB.out hb (by omega))
  clear hb
  go_wp2_with fail
  refine (heldInt64S_be _ _ _ _ _ P6.out.reads hl6 (by omega) (by omega)).mono ?_
  rintro e w21 ⟨rfl, hb⟩
  replace R0 := Lib.hid (R0.out.below hb)
  replace R1 := Lib.hid (R1.out.below hb)
  replace P3 := Lib.hid (P3.out.below hb)
  replace P6 := Lib.hid (P6.out.below hb)
  replace O17 := Lib.hid (O17.out.below hb)
  replace O18 := Lib.hid (O18.out.below hb)
  replace P19 := Lib.hid (P19.out.below hb)
  have z21 : w20.heap.size ≤ w21.heap.size := hb.size
  replace BB := Lib.hid (below_go BB.out hb (by omega))
  clear hb
  go_wp2
  go_ret
  exact ⟨rfl, BB.out⟩

end Go.Proofs.Ytmlejlediflaaaa
