/- The walk of the law of impl.MultiplyMatrices. -/
import Derived.Test.YtelmdfkcclhhjaaXMul
import Derived.Test.YtelmdfkcclhhjaaLawSO
import Derived.Test.YtelmdfkcclhhjaaSSe
import Derived.Test.YtelmdfkcclhhjaaKitR
import Derived.Deep.RegionHeld3
import Derived.Deep.DeepCutAuto
namespace Go.Proofs.Ytelmdfkcclhhjaa
open Go.RowKit Go.ChangeShapes

set_option maxRecDepth 100000 in
set_option maxHeartbeats 4000000 in
theorem fnExactMultiplyMatrices_walk {a0 : Option Addr} {m0 cap0 : Nat} {rs0 : List RowV} {a1 : Option Addr} {m1 cap1 : Nat} {rs1 : List RowV} {w : World} (hr0 : ReadsLL w a0 m0 rs0) (hn0 : m0 ≤ maxLen) (hr1 : ReadsLL w a1 m1 rs1) (hn1 : m1 ≤ maxLen) :
    Calls Try.prog 5 #[.slice a0 m0 cap0, .slice a1 m1 cap1] w fun e w' => e = .returned (.bool true) ∧ Below w.heap.size w w' := by
  have HR0 := Lib.hid hr0; clear hr0
  have HR1 := Lib.hid hr1; clear hr1
  by_cases hfit0 : (m0 : Int) + totS rs0 ≤ 1048576
  rotate_left
  · have HE0 : Hid (leftS m0 rs0 1048576 = -1) := Lib.hid (by unfold leftS; rw [if_neg hfit0])
    clear hfit0
    go_enter Try.func5, Try.ntmps5
    go_wp2_with fail
    refine (szInt64SS_any a0 m0 cap0 rs0 1048576 _ HR0.out hn0 (by omega) (by omega)).mono ?_
    rw [HE0.out]
    rintro e w1 ⟨rfl, rfl⟩
    go_wp2
    go_ret
    exact ⟨rfl, Below.refl _ _⟩
  have hm0 : m0 ≤ 1048576 := by omega
  have ht0 : totS rs0 ≤ 1048576 := by omega
  obtain ⟨l0, hl0⟩ : ∃ l : Nat, leftS m0 rs0 1048576 = l := ⟨((1048576 : Int) - m0 - totS rs0).toNat, by unfold leftS; rw [if_pos hfit0]; omega⟩
  have hll0 : (l0 : Int) ≤ 1048576 := by rw [← hl0]; unfold leftS; rw [if_pos hfit0]; omega
  have hl00 : ¬ ((l0 : Int) < 0) := by omega
  have HE0 := Lib.hid hl0
  have HS0 := Lib.hid (HR0.out.short (by omega))
  obtain ⟨X0, hX0⟩ : ∃ X, X = rs0.map RowV.xs := ⟨_, rfl⟩
  have HX0 := Lib.hid hX0
  have HT0 := Lib.hid ht0
  clear hfit0 hl0 hX0 ht0
  by_cases hfit1 : (m1 : Int) + totS rs1 ≤ l0
  rotate_left
  · have HE1 : Hid (leftS m1 rs1 l0 = -1) := Lib.hid (by unfold leftS; rw [if_neg hfit1])
    clear hfit1
    go_enter Try.func5, Try.ntmps5
    go_wp2_with fail
    refine (szInt64SS_any a0 m0 cap0 rs0 1048576 _ HR0.out hn0 (by omega) (by omega)).mono ?_
    rw [HE0.out]
    rintro e w1 ⟨rfl, rfl⟩
    go_wp2_with fail
    refine (szInt64SS_any a1 m1 cap1 rs1 l0 _ HR1.out hn1 (by omega) (by omega)).mono ?_
    rw [HE1.out]
    rintro e w1 ⟨rfl, rfl⟩
    go_wp2
    go_ret
    exact ⟨rfl, Below.refl _ _⟩
  have hm1 : m1 ≤ 1048576 := by omega
  have ht1 : totS rs1 ≤ 1048576 := by omega
  obtain ⟨l1, hl1⟩ : ∃ l : Nat, leftS m1 rs1 l0 = l := ⟨((l0 : Int) - m1 - totS rs1).toNat, by unfold leftS; rw [if_pos hfit1]; omega⟩
  have hll1 : (l1 : Int) ≤ 1048576 := by rw [← hl1]; unfold leftS; rw [if_pos hfit1]; omega
  have hl10 : ¬ ((l1 : Int) < 0) := by omega
  have HE1 := Lib.hid hl1
  have HS1 := Lib.hid (HR1.out.short (by omega))
  obtain ⟨X1, hX1⟩ : ∃ X, X = rs1.map RowV.xs := ⟨_, rfl⟩
  have HX1 := Lib.hid hX1
  have HT1 := Lib.hid ht1
  clear hfit1 hl1 hX1 ht1
  obtain ⟨fxs, fc, hM⟩ : ∃ fxs fc, mMul X0 X1 = (fxs, fc) := ⟨_, _, rfl⟩
  have HM := Lib.hid hM; clear hM
  have t1 : (fc != fc) = false := by simp
  go_enter Try.func5, Try.ntmps5
  go_wp2_with fail
  refine (szInt64SS_any a0 m0 cap0 rs0 1048576 _ HR0.out hn0 (by omega) (by omega)).mono ?_
  rw [HE0.out]
  rintro e w1 ⟨rfl, rfl⟩
  go_wp2_with fail
  refine (szInt64SS_any a1 m1 cap1 rs1 l0 _ HR1.out hn1 (by omega) (by omega)).mono ?_
  rw [HE1.out]
  rintro e w1 ⟨rfl, rfl⟩
  obtain ⟨mm, hmm⟩ : ∃ q, q = fxs.length := ⟨_, rfl⟩
  have hm8 : mm ≤ 28 := by rw [hmm]; have := mMul_len X0 X1; rw [HM.out] at this; exact this
  have HMM := Lib.hid hmm; clear hmm
  go_wp2_with fail
  refine (toInt64SS_own a0 m0 cap0 rs0 _ HS0.out hm0).mono ?_
  rintro e w1 ⟨b1, ts1, rfl, ho, he, hb⟩
  have ho2 := ho.ownSS; have HC1 : Hid (X0 = ts1.map RowV.xs) := Lib.hid (by rw [HX0.out, he])
  have HT01 : Hid (totS ts1 = totS rs0) := Lib.hid (by rw [tot_of ho2.reads, tot_of HS0.out, he])
  clear he ho
  have z1 := hb.size
  have BB := Lib.hid hb
  clear hb
  have P1 := Lib.hid ho2; clear ho2
  go_wp2_with fail
  refine (toInt64SS_own a1 m1 cap1 rs1 _ (HS1.out.below BB.out) hm1).mono ?_
  rintro e w2 ⟨b2, ts2, rfl, ho, he, hb⟩
  have ho2 := ho.ownSS; have HC2 : Hid (X1 = ts2.map RowV.xs) := Lib.hid (by rw [HX1.out, he])
  have HT12 : Hid (totS ts2 = totS rs1) := Lib.hid (by rw [tot_of ho2.reads, tot_of HS1.out, he])
  clear he ho
  replace P1 := Lib.hid (P1.out.below hb)
  have z2 := hb.size
  replace BB := Lib.hid (below_go BB.out hb (by omega))
  clear hb
  have P2 := Lib.hid ho2; clear ho2
  go_wp2_with fail
  refine (specMul_law P1.out.reads hm0 HC1.out P2.out.reads hm1 HC2.out HM.out).mono ?_
  rintro e w3 ⟨b3, c3, r3, rfl, hr3, ho, hb⟩
  have ho2 := ho.ownSS; have HC3 : Hid (r3.map RowV.xs = fxs) := Lib.hid hr3
  have hrl3 : r3.length = mm := by rw [HMM.out, ← hr3, List.length_map]
  rw [hrl3] at ho2 ⊢
  clear ho hr3
  replace P1 := Lib.hid (P1.out.below hb)
  replace P2 := Lib.hid (P2.out.below hb)
  have z3 := hb.size
  replace BB := Lib.hid (below_go BB.out hb (by omega))
  clear hb
  have P3 := Lib.hid ho2; clear ho2
  clear P1
  clear P2
  go_wp2_with fail
  refine (toInt64SS_own a0 m0 cap0 rs0 _ (HS0.out.below BB.out) hm0).mono ?_
  rintro e w4 ⟨b4, ts4, rfl, ho, he, hb⟩
  have ho2 := ho.ownSS; have HC4 : Hid (X0 = ts4.map RowV.xs) := Lib.hid (by rw [HX0.out, he])
  have HT04 : Hid (totS ts4 = totS rs0) := Lib.hid (by rw [tot_of ho2.reads, tot_of HS0.out, he])
  clear he ho
  replace P3 := Lib.hid (P3.out.below hb)
  have z4 := hb.size
  replace BB := Lib.hid (below_go BB.out hb (by omega))
  clear hb
  have P4 := Lib.hid ho2; clear ho2
  go_wp2_with fail
  refine (toInt64SS_own a1 m1 cap1 rs1 _ (HS1.out.below BB.out) hm1).mono ?_
  rintro e w5 ⟨b5, ts5, rfl, ho, he, hb⟩
  have ho2 := ho.ownSS; have HC5 : Hid (X1 = ts5.map RowV.xs) := Lib.hid (by rw [HX1.out, he])
  have HT15 : Hid (totS ts5 = totS rs1) := Lib.hid (by rw [tot_of ho2.reads, tot_of HS1.out, he])
  clear he ho
  replace P3 := Lib.hid (P3.out.below hb)
  replace P4 := Lib.hid (P4.out.below hb)
  have z5 := hb.size
  replace BB := Lib.hid (below_go BB.out hb (by omega))
  clear hb
  have P5 := Lib.hid ho2; clear ho2
  go_wp2_with fail
  refine (implMul_law P4.out.reads hm0 HC4.out P5.out.reads hm1 HC5.out HM.out).mono ?_
  rintro e w6 ⟨b6, c6, r6, rfl, hr6, ho, hb⟩
  have ho2 := ho.ownSS; have HC6 : Hid (r6.map RowV.xs = fxs) := Lib.hid hr6
  have hrl6 : r6.length = mm := by rw [HMM.out, ← hr6, List.length_map]
  rw [hrl6] at ho2 ⊢
  clear ho hr6
  replace P3 := Lib.hid (P3.out.below hb)
  replace P4 := Lib.hid (P4.out.below hb)
  replace P5 := Lib.hid (P5.out.below hb)
  have z6 := hb.size
  replace BB := Lib.hid (below_go BB.out hb (by omega))
  clear hb
  have P6 := Lib.hid ho2; clear ho2
  go_wp2_with fail
  refine (eqInt64SS_yes _ _ mm _ _ r6 r3 _ P6.out.reads P3.out.reads (HC6.out.trans HC3.out.symm) (by omega)).mono ?_
  rintro e w7 ⟨rfl, hb⟩
  replace P3 := Lib.hid (P3.out.below hb)
  replace P4 := Lib.hid (P4.out.below hb)
  replace P5 := Lib.hid (P5.out.below hb)
  replace P6 := Lib.hid (P6.out.below hb)
  have z7 := hb.size
  replace BB := Lib.hid (below_go BB.out hb (by omega))
  clear hb
  go_wp2_with fail
  refine (toInt64SS_own a0 m0 cap0 rs0 _ (HS0.out.below BB.out) hm0).mono ?_
  rintro e w8 ⟨b8, ts8, rfl, ho, he, hb⟩
  have ho2 := ho.ownSS; have HC8 : Hid (X0 = ts8.map RowV.xs) := Lib.hid (by rw [HX0.out, he])
  have HT08 : Hid (totS ts8 = totS rs0) := Lib.hid (by rw [tot_of ho2.reads, tot_of HS0.out, he])
  clear he ho
  replace P3 := Lib.hid (P3.out.below hb)
  replace P4 := Lib.hid (P4.out.below hb)
  replace P5 := Lib.hid (P5.out.below hb)
  replace P6 := Lib.hid (P6.out.below hb)
  have z8 := hb.size
  replace BB := Lib.hid (below_go BB.out hb (by omega))
  clear hb
  have P8 := Lib.hid ho2; clear ho2
  go_wp2_with fail
  refine (eqInt64SS_yes _ _ m0 _ _ ts4 ts8 _ P4.out.reads P8.out.reads (HC4.out.symm.trans HC8.out) hm0).mono ?_
  rintro e w9 ⟨rfl, hb⟩
  replace P3 := Lib.hid (P3.out.below hb)
  replace P4 := Lib.hid (P4.out.below hb)
  replace P5 := Lib.hid (P5.out.below hb)
  replace P6 := Lib.hid (P6.out.below hb)
  replace P8 := Lib.hid (P8.out.below hb)
  have z9 := hb.size
  replace BB := Lib.hid (below_go BB.out hb (by omega))
  clear hb
  clear P8
  go_wp2_with fail
  refine (toInt64SS_own a1 m1 cap1 rs1 _ (HS1.out.below BB.out) hm1).mono ?_
  rintro e w10 ⟨b10, ts10, rfl, ho, he, hb⟩
  have ho2 := ho.ownSS; have HC10 : Hid (X1 = ts10.map RowV.xs) := Lib.hid (by rw [HX1.out, he])
  have HT110 : Hid (totS ts10 = totS rs1) := Lib.hid (by rw [tot_of ho2.reads, tot_of HS1.out, he])
  clear he ho
  replace P3 := Lib.hid (P3.out.below hb)
  replace P4 := Lib.hid (P4.out.below hb)
  replace P5 := Lib.hid (P5.out.below hb)
  replace P6 := Lib.hid (P6.out.below hb)
  have z10 := hb.size
  replace BB := Lib.hid (below_go BB.out hb (by omega))
  clear hb
  have P10 := Lib.hid ho2; clear ho2
  go_wp2_with fail
  refine (eqInt64SS_yes _ _ m1 _ _ ts5 ts10 _ P5.out.reads P10.out.reads (HC5.out.symm.trans HC10.out) hm1).mono ?_
  rintro e w11 ⟨rfl, hb⟩
  replace P3 := Lib.hid (P3.out.below hb)
  replace P4 := Lib.hid (P4.out.below hb)
  replace P5 := Lib.hid (P5.out.below hb)
  replace P6 := Lib.hid (P6.out.below hb)
  replace P10 := Lib.hid (P10.out.below hb)
  have z11 := hb.size
  replace BB := Lib.hid (below_go BB.out hb (by omega))
  clear hb
  clear P10
  have hs4 : totS ts4 ≤ 1048576 := by have := HT04.out; have := HT0.out; omega
  go_wp2_with fail
  refine (markInt64SS_any _ _ _ m0 _ ts4 1 _ P4.out hm0 (by omega) (by omega)).mono ?_
  rintro e w12 ⟨rfl, _, hb⟩
  clear P4
  replace P3 := Lib.hid (P3.out.wrote hb (by omega))
  replace P5 := Lib.hid (P5.out.wrote hb (by omega))
  replace P6 := Lib.hid (P6.out.wrote hb (by omega))
  have z12 := hb.size
  replace BB := Lib.hid (below_write BB.out hb (by omega) (by omega))
  clear hb
  obtain ⟨kk0, hkk0⟩ : ∃ m : Int, m = 1 + (totS ts4 : Int) := ⟨_, rfl⟩
  have hkp0 : 0 ≤ kk0 ∧ kk0 ≤ 4194304 := by omega
  rw [← hkk0]; clear hkk0
  have hs5 : totS ts5 ≤ 1048576 := by have := HT15.out; have := HT1.out; omega
  go_wp2_with fail
  refine (markInt64SS_any _ _ _ m1 _ ts5 kk0 _ P5.out hm1 (by omega) (by omega)).mono ?_
  rintro e w13 ⟨rfl, _, hb⟩
  clear P5
  replace P3 := Lib.hid (P3.out.wrote hb (by omega))
  replace P6 := Lib.hid (P6.out.wrote hb (by omega))
  have z13 := hb.size
  replace BB := Lib.hid (below_write BB.out hb (by omega) (by omega))
  clear hb
  obtain ⟨kk1, hkk1⟩ : ∃ m : Int, m = kk0 + (totS ts5 : Int) := ⟨_, rfl⟩
  have hkp1 : 0 ≤ kk1 ∧ kk1 ≤ 8388608 := by omega
  rw [← hkk1]; clear hkk1
  have t4 : decide (kk1 < 0) = false := decide_eq_false (by omega)
  go_wp2_with fail
  refine (eqInt64SS_yes _ _ mm _ _ r6 r3 _ P6.out.reads P3.out.reads (HC6.out.trans HC3.out.symm) (by omega)).mono ?_
  rintro e w14 ⟨rfl, hb⟩
  replace P3 := Lib.hid (P3.out.below hb)
  replace P6 := Lib.hid (P6.out.below hb)
  have z14 := hb.size
  replace BB := Lib.hid (below_go BB.out hb (by omega))
  clear hb
  have htot := totS_bd r6 (fun x hx => (P6.out.reads.2.2 x hx).2)
  rw [hrl6] at htot
  have htb : 1 + (totS r6 : Int) ≤ 4294967296 := by omega
  go_wp2_with fail
  refine (markInt64SS_any _ _ _ mm _ r6 1 _ P6.out (by omega) (by omega) (by omega)).mono ?_
  rintro e w15 ⟨rfl, ho2, hb⟩
  replace P3 := Lib.hid (P3.out.wrote hb (by omega))
  have z15 := hb.size
  replace BB := Lib.hid (below_write BB.out hb (by omega) (by omega))
  clear hb
  replace P6 := Lib.hid ho2; clear ho2
  obtain ⟨mk, hmk⟩ : ∃ m : Int, m = 1 + (totS r6 : Int) := ⟨_, rfl⟩
  have HMK := Lib.hid hmk
  have hmk0 : 0 ≤ mk := by omega
  rw [← hmk]
  clear hmk htot
  have t3 : (mk != mk) = false := by simp
  have t5 : decide (mk < 0) = false := decide_eq_false (by omega)
  go_wp2_with fail
  refine (heldInt64SS_any _ mm _ r6 1 _ P6.out.reads (by omega) (by omega) (by have := HMK.out; omega)).mono ?_
  rw [← HMK.out]
  rintro e wh ⟨rfl, rfl⟩
  go_wp2_with fail
  refine (toInt64SS_own a0 m0 cap0 rs0 _ (HS0.out.below BB.out) hm0).mono ?_
  rintro e w16 ⟨b16, ts16, rfl, ho, he, hb⟩
  have ho2 := ho.ownSS; have HC16 : Hid (X0 = ts16.map RowV.xs) := Lib.hid (by rw [HX0.out, he])
  have HT016 : Hid (totS ts16 = totS rs0) := Lib.hid (by rw [tot_of ho2.reads, tot_of HS0.out, he])
  clear he ho
  replace P3 := Lib.hid (P3.out.below hb)
  replace P6 := Lib.hid (P6.out.below hb)
  have z16 := hb.size
  replace BB := Lib.hid (below_go BB.out hb (by omega))
  clear hb
  have P16 := Lib.hid ho2; clear ho2
  go_wp2_with fail
  refine (toInt64SS_own a1 m1 cap1 rs1 _ (HS1.out.below BB.out) hm1).mono ?_
  rintro e w17 ⟨b17, ts17, rfl, ho, he, hb⟩
  have ho2 := ho.ownSS; have HC17 : Hid (X1 = ts17.map RowV.xs) := Lib.hid (by rw [HX1.out, he])
  have HT117 : Hid (totS ts17 = totS rs1) := Lib.hid (by rw [tot_of ho2.reads, tot_of HS1.out, he])
  clear he ho
  replace P3 := Lib.hid (P3.out.below hb)
  replace P6 := Lib.hid (P6.out.below hb)
  replace P16 := Lib.hid (P16.out.below hb)
  have z17 := hb.size
  replace BB := Lib.hid (below_go BB.out hb (by omega))
  clear hb
  have P17 := Lib.hid ho2; clear ho2
  go_wp2_with fail
  refine (implMul_law P16.out.reads hm0 HC16.out P17.out.reads hm1 HC17.out HM.out).mono ?_
  rintro e w18 ⟨b18, c18, r18, rfl, hr18, ho, hb⟩
  have ho2 := ho.ownSS; have HC18 : Hid (r18.map RowV.xs = fxs) := Lib.hid hr18
  have hrl18 : r18.length = mm := by rw [HMM.out, ← hr18, List.length_map]
  rw [hrl18] at ho2 ⊢
  clear ho hr18
  replace P3 := Lib.hid (P3.out.below hb)
  replace P6 := Lib.hid (P6.out.below hb)
  replace P16 := Lib.hid (P16.out.below hb)
  replace P17 := Lib.hid (P17.out.below hb)
  have z18 := hb.size
  replace BB := Lib.hid (below_go BB.out hb (by omega))
  clear hb
  have P18 := Lib.hid ho2; clear ho2
  clear P16
  clear P17
  go_wp2_with fail
  refine (eqInt64SS_yes _ _ mm _ _ r18 r3 _ P18.out.reads P3.out.reads (HC18.out.trans HC3.out.symm) (by omega)).mono ?_
  rintro e w19 ⟨rfl, hb⟩
  replace P3 := Lib.hid (P3.out.below hb)
  replace P6 := Lib.hid (P6.out.below hb)
  replace P18 := Lib.hid (P18.out.below hb)
  have z19 := hb.size
  replace BB := Lib.hid (below_go BB.out hb (by omega))
  clear hb
  go_wp2_with fail
  refine (heldInt64SS_any _ mm _ r6 1 _ P6.out.reads (by omega) (by omega) (by have := HMK.out; omega)).mono ?_
  rw [← HMK.out]
  rintro e wh ⟨rfl, rfl⟩
  go_wp2
  go_ret
  exact ⟨rfl, BB.out⟩

end Go.Proofs.Ytelmdfkcclhhjaa
