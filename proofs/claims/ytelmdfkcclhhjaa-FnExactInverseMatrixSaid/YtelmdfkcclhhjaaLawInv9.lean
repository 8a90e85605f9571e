/- The walk of the law of impl.InverseMatrix. -/
import Derived.Test.YtelmdfkcclhhjaaXInv
import Derived.Test.YtelmdfkcclhhjaaLawSO
import Derived.Test.YtelmdfkcclhhjaaSSe
import Derived.Test.YtelmdfkcclhhjaaKitR
import Derived.Deep.RegionHeld3
import Derived.Deep.DeepCutAuto
namespace Go.Proofs.Ytelmdfkcclhhjaa
open Go.RowKit Go.ChangeShapes

set_option maxRecDepth 100000 in
set_option maxHeartbeats 4000000 in
theorem fnExactInverseMatrix_walk {a0 : Option Addr} {m0 cap0 : Nat} {rs0 : List RowV} {w : World} (hr0 : ReadsLL w a0 m0 rs0) (hn0 : m0 ≤ maxLen) :
    Calls Try.prog 6 #[.slice a0 m0 cap0] w fun e w' => e = .returned (.bool true) ∧ Below w.heap.size w w' := by
  have HR0 := Lib.hid hr0; clear hr0
  by_cases hfit0 : (m0 : Int) + totS rs0 ≤ 1048576
  rotate_left
  · have HE0 : Hid (leftS m0 rs0 1048576 = -1) := Lib.hid (by unfold leftS; rw [if_neg hfit0])
    clear hfit0
    go_enter Try.func6, Try.ntmps6
    go_wp2_with fail
    refine (szInt64SS_any a0 m0 cap0 rs0 1048576 _ HR0.out hn0 (by omega) (by omega)).mono ?_
    rw [HE0.out]
    rintro e w1 ⟨rfl, rfl⟩
    go_wp2
    go_ret
    exact ⟨rfl, Below.refl _ _⟩
  have hm0 : m0 ≤ 1048576 := by omega
  have ht0 : totS rs0 ≤ 1048576 := by omega
  obtain ⟨l0, hl0⟩ : ∃ l : Nat, leftS m0 rs0 1048576 = l := ⟨((1048576 : Int) - m0 - totS rs0).toNat, by unfold leftS; rw [if_pos hfit0]; omega⟩
  have hll0 : (l0 : Int) ≤ 1048576 := by rw [← hl0]; unfold leftS; rw [if_pos hfit0]; omega
  have hl00 : ¬ ((l0 : Int) < 0) := by omega
  have HE0 := Lib.hid hl0
  have HS0 := Lib.hid (HR0.out.short (by omega))
  obtain ⟨X0, hX0⟩ : ∃ X, X = rs0.map RowV.xs := ⟨_, rfl⟩
  have HX0 := Lib.hid hX0
  have HT0 := Lib.hid ht0
  clear hfit0 hl0 hX0 ht0
  obtain ⟨fxs, fc, hM⟩ : ∃ fxs fc, mInv X0 = (fxs, fc) := ⟨_, _, rfl⟩
  have HM := Lib.hid hM; clear hM
  have t1 : (fc != fc) = false := by simp
  go_enter Try.func6, Try.ntmps6
  go_wp2_with fail
  refine (szInt64SS_any a0 m0 cap0 rs0 1048576 _ HR0.out hn0 (by omega) (by omega)).mono ?_
  rw [HE0.out]
  rintro e w1 ⟨rfl, rfl⟩
  obtain ⟨mm, hmm⟩ : ∃ q, q = fxs.length := ⟨_, rfl⟩
  have hm8 : mm ≤ 28 := by rw [hmm]; have := mInv_len X0; rw [HM.out] at this; exact this
  have HMM := Lib.hid hmm; clear hmm
  go_wp2_with fail
  refine (toInt64SS_own a0 m0 cap0 rs0 _ HS0.out hm0).mono ?_
  rintro e w1 ⟨b1, ts1, rfl, ho, he, hb⟩
  have ho2 := ho.ownSS; have HC1 : Hid (X0 = ts1.map RowV.xs) := Lib.hid (by rw [HX0.out, he])
  have HT01 : Hid (totS ts1 = totS rs0) := Lib.hid (by rw [tot_of ho2.reads, tot_of HS0.out, he])
  clear he ho
  have z1 := hb.size
  have BB := Lib.hid hb
  clear hb
  have P1 := Lib.hid ho2; clear ho2
  go_wp2_with fail
  refine (specInv_law P1.out.reads hm0 HC1.out HM.out).mono ?_
  rintro e w2 ⟨b2, c2, r2, rfl, hr2, ho, hb⟩
  have ho2 := ho.ownSS; have HC2 : Hid (r2.map RowV.xs = fxs) := Lib.hid hr2
  have hrl2 : r2.length = mm := by rw [HMM.out, ← hr2, List.length_map]
  rw [hrl2] at ho2 ⊢
  clear ho hr2
  replace P1 := Lib.hid (P1.out.below hb)
  have z2 := hb.size
  replace BB := Lib.hid (below_go BB.out hb (by omega))
  clear hb
  have P2 := Lib.hid ho2; clear ho2
  clear P1
  go_wp2_with fail
  refine (toInt64SS_own a0 m0 cap0 rs0 _ (HS0.out.below BB.out) hm0).mono ?_
  rintro e w3 ⟨b3, ts3, rfl, ho, he, hb⟩
  have ho2 := ho.ownSS; have HC3 : Hid (X0 = ts3.map RowV.xs) := Lib.hid (by rw [HX0.out, he])
  have HT03 : Hid (totS ts3 = totS rs0) := Lib.hid (by rw [tot_of ho2.reads, tot_of HS0.out, he])
  clear he ho
  replace P2 := Lib.hid (P2.out.below hb)
  have z3 := hb.size
  replace BB := Lib.hid (below_go BB.out hb (by omega))
  clear hb
  have P3 := Lib.hid ho2; clear ho2
  go_wp2_with fail
  refine (implInv_law P3.out.reads hm0 HC3.out HM.out).mono ?_
  rintro e w4 ⟨b4, c4, r4, rfl, hr4, ho, hb⟩
  have ho2 := ho.ownSS; have HC4 : Hid (r4.map RowV.xs = fxs) := Lib.hid hr4
  have hrl4 : r4.length = mm := by rw [HMM.out, ← hr4, List.length_map]
  rw [hrl4] at ho2 ⊢
  clear ho hr4
  replace P2 := Lib.hid (P2.out.below hb)
  replace P3 := Lib.hid (P3.out.below hb)
  have z4 := hb.size
  replace BB := Lib.hid (below_go BB.out hb (by omega))
  clear hb
  have P4 := Lib.hid ho2; clear ho2
  go_wp2_with fail
  refine (eqInt64SS_yes _ _ mm _ _ r4 r2 _ P4.out.reads P2.out.reads (HC4.out.trans HC2.out.symm) (by omega)).mono ?_
  rintro e w5 ⟨rfl, hb⟩
  replace P2 := Lib.hid (P2.out.below hb)
  replace P3 := Lib.hid (P3.out.below hb)
  replace P4 := Lib.hid (P4.out.below hb)
  have z5 := hb.size
  replace BB := Lib.hid (below_go BB.out hb (by omega))
  clear hb
  go_wp2_with fail
  refine (toInt64SS_own a0 m0 cap0 rs0 _ (HS0.out.below BB.out) hm0).mono ?_
  rintro e w6 ⟨b6, ts6, rfl, ho, he, hb⟩
  have ho2 := ho.ownSS; have HC6 : Hid (X0 = ts6.map RowV.xs) := Lib.hid (by rw [HX0.out, he])
  have HT06 : Hid (totS ts6 = totS rs0) := Lib.hid (by rw [tot_of ho2.reads, tot_of HS0.out, he])
  clear he ho
  replace P2 := Lib.hid (P2.out.below hb)
  replace P3 := Lib.hid (P3.out.below hb)
  replace P4 := Lib.hid (P4.out.below hb)
  have z6 := hb.size
  replace BB := Lib.hid (below_go BB.out hb (by omega))
  clear hb
  have P6 := Lib.hid ho2; clear ho2
  go_wp2_with fail
  refine (eqInt64SS_yes _ _ m0 _ _ ts3 ts6 _ P3.out.reads P6.out.reads (HC3.out.symm.trans HC6.out) hm0).mono ?_
  rintro e w7 ⟨rfl, hb⟩
  replace P2 := Lib.hid (P2.out.below hb)
  replace P3 := Lib.hid (P3.out.below hb)
  replace P4 := Lib.hid (P4.out.below hb)
  replace P6 := Lib.hid (P6.out.below hb)
  have z7 := hb.size
  replace BB := Lib.hid (below_go BB.out hb (by omega))
  clear hb
  clear P6
  have hs3 : totS ts3 ≤ 1048576 := by have := HT03.out; have := HT0.out; omega
  go_wp2_with fail
  refine (markInt64SS_any _ _ _ m0 _ ts3 1 _ P3.out hm0 (by omega) (by omega)).mono ?_
  rintro e w8 ⟨rfl, _, hb⟩
  clear P3
  replace P2 := Lib.hid (P2.out.wrote hb (by omega))
  replace P4 := Lib.hid (P4.out.wrote hb (by omega))
  have z8 := hb.size
  replace BB := Lib.hid (below_write BB.out hb (by omega) (by omega))
  clear hb
  obtain ⟨kk0, hkk0⟩ : ∃ m : Int, m = 1 + (totS ts3 : Int) := ⟨_, rfl⟩
  have hkp0 : 0 ≤ kk0 ∧ kk0 ≤ 4194304 := by omega
  rw [← hkk0]; clear hkk0
  have t4 : decide (kk0 < 0) = false := decide_eq_false (by omega)
  go_wp2_with fail
  refine (eqInt64SS_yes _ _ mm _ _ r4 r2 _ P4.out.reads P2.out.reads (HC4.out.trans HC2.out.symm) (by omega)).mono ?_
  rintro e w9 ⟨rfl, hb⟩
  replace P2 := Lib.hid (P2.out.below hb)
  replace P4 := Lib.hid (P4.out.below hb)
  have z9 := hb.size
  replace BB := Lib.hid (below_go BB.out hb (by omega))
  clear hb
  have htot := totS_bd r4 (fun x hx => (P4.out.reads.2.2 x hx).2)
  rw [hrl4] at htot
  have htb : 1 + (totS r4 : Int) ≤ 4294967296 := by omega
  go_wp2_with fail
  refine (markInt64SS_any _ _ _ mm _ r4 1 _ P4.out (by omega) (by omega) (by omega)).mono ?_
  rintro e w10 ⟨rfl, ho2, hb⟩
  replace P2 := Lib.hid (P2.out.wrote hb (by omega))
  have z10 := hb.size
  replace BB := Lib.hid (below_write BB.out hb (by omega) (by omega))
  clear hb
  replace P4 := Lib.hid ho2; clear ho2
  obtain ⟨mk, hmk⟩ : ∃ m : Int, m = 1 + (totS r4 : Int) := ⟨_, rfl⟩
  have HMK := Lib.hid hmk
  have hmk0 : 0 ≤ mk := by omega
  rw [← hmk]
  clear hmk htot
  have t3 : (mk != mk) = false := by simp
  have t5 : decide (mk < 0) = false := decide_eq_false (by omega)
  go_wp2_with fail
  refine (heldInt64SS_any _ mm _ r4 1 _ P4.out.reads (by omega) (by omega) (by have := HMK.out; omega)).mono ?_
  rw [← HMK.out]
  rintro e wh ⟨rfl, rfl⟩
  go_wp2_with fail
  refine (toInt64SS_own a0 m0 cap0 rs0 _ (HS0.out.below BB.out) hm0).mono ?_
  rintro e w11 ⟨b11, ts11, rfl, ho, he, hb⟩
  have ho2 := ho.ownSS; have HC11 : Hid (X0 = ts11.map RowV.xs) := Lib.hid (by rw [HX0.out, he])
  have HT011 : Hid (totS ts11 = totS rs0) := Lib.hid (by rw [tot_of ho2.reads, tot_of HS0.out, he])
  clear he ho
  replace P2 := Lib.hid (P2.out.below hb)
  replace P4 := Lib.hid (P4.out.below hb)
  have z11 := hb.size
  replace BB := Lib.hid (below_go BB.out hb (by omega))
  clear hb
  have P11 := Lib.hid ho2; clear ho2
  go_wp2_with fail
  refine (implInv_law P11.out.reads hm0 HC11.out HM.out).mono ?_
  rintro e w12 ⟨b12, c12, r12, rfl, hr12, ho, hb⟩
  have ho2 := ho.ownSS; have HC12 : Hid (r12.map RowV.xs = fxs) := Lib.hid hr12
  have hrl12 : r12.length = mm := by rw [HMM.out, ← hr12, List.length_map]
  rw [hrl12] at ho2 ⊢
  clear ho hr12
  replace P2 := Lib.hid (P2.out.below hb)
  replace P4 := Lib.hid (P4.out.below hb)
  replace P11 := Lib.hid (P11.out.below hb)
  have z12 := hb.size
  replace BB := Lib.hid (below_go BB.out hb (by omega))
  clear hb
  have P12 := Lib.hid ho2; clear ho2
  clear P11
  go_wp2_with fail
  refine (eqInt64SS_yes _ _ mm _ _ r12 r2 _ P12.out.reads P2.out.reads (HC12.out.trans HC2.out.symm) (by omega)).mono ?_
  rintro e w13 ⟨rfl, hb⟩
  replace P2 := Lib.hid (P2.out.below hb)
  replace P4 := Lib.hid (P4.out.below hb)
  replace P12 := Lib.hid (P12.out.below hb)
  have z13 := hb.size
  replace BB := Lib.hid (below_go BB.out hb (by omega))
  clear hb
  go_wp2_with fail
  refine (heldInt64SS_any _ mm _ r4 1 _ P4.out.reads (by omega) (by omega) (by have := HMK.out; omega)).mono ?_
  rw [← HMK.out]
  rintro e wh ⟨rfl, rfl⟩
  go_wp2
  go_ret
  exact ⟨rfl, BB.out⟩

end Go.Proofs.Ytelmdfkcclhhjaa
