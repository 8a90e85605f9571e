/- The walk of the law of impl.IsComb. -/
import Derived.Test.YtmlejlediflaaaaIsC
import Derived.Test.YtmlejlediflaaaaLawSO
import Derived.Test.YtmlejlediflaaaaSSe
import Derived.Test.YtmlejlediflaaaaKitR
import Derived.Deep.RegionHeld3
import Derived.Deep.DeepCutAuto
namespace Go.Proofs.Ytmlejlediflaaaa
open Go.RowKit Go.ChangeShapes

set_option maxRecDepth 100000 in
set_option maxHeartbeats 4000000 in
theorem fnExactIsComb_walk {a0 : Option Addr} {m0 cap0 : Nat} {rs0 : List RowV} {s : Int} {w : World} (_hs : (Lit.int .i64 s).wf = true) (hr0 : ReadsLL w a0 m0 rs0) (hn0 : m0 ≤ maxLen) (hy0 : ∀ x ∈ rs0, Fits x.xs) :
    Calls Try.prog 4 #[.int .i64 s, .slice a0 m0 cap0] w fun e w' => e = .returned (.bool true) ∧ Below w.heap.size w w' := by
  have HR0 := Lib.hid hr0; have HY0 := Lib.hid hy0; clear hr0 hy0
  by_cases hfit0 : (m0 : Int) + totS rs0 ≤ 1048576
  rotate_left
  · have HE0 : Hid (leftS m0 rs0 1048576 = -1) := Lib.hid (by unfold leftS; rw [if_neg hfit0])
    clear hfit0
    go_enter Try.func4, Try.ntmps4
    go_wp2_with fail
    refine (szInt64SS_any a0 m0 cap0 rs0 1048576 _ HR0.out hn0 (by omega) (by omega)).mono ?_
    rw [HE0.out]
    rintro e w1 ⟨rfl, rfl⟩
    go_wp2
    go_ret
    exact ⟨rfl, Below.refl _ _⟩
  have hm0 : m0 ≤ 1048576 := by omega
  have ht0 : totS rs0 ≤ 1048576 := by omega
  obtain ⟨l0, hl0⟩ : ∃ l : Nat, leftS m0 rs0 1048576 = l := ⟨((1048576 : Int) - m0 - totS rs0).toNat, by unfold leftS; rw [if_pos hfit0]; omega⟩
  have hll0 : (l0 : Int) ≤ 1048576 := by rw [← hl0]; unfold leftS; rw [if_pos hfit0]; omega
  have hl00 : ¬ ((l0 : Int) < 0) := by omega
  have HE0 := Lib.hid hl0
  have HS0 := Lib.hid (HR0.out.short (by omega))
  obtain ⟨X0, hX0⟩ : ∃ X, X = rs0.map RowV.xs := ⟨_, rfl⟩
  have HX0 := Lib.hid hX0
  have HFX : Hid (∀ r ∈ X0, Fits r) := Lib.hid (fun r hr => by
    rw [hX0] at hr
    obtain ⟨x, hx, rfl⟩ := List.mem_map.1 hr
    exact HY0.out x hx)
  have HT0 := Lib.hid ht0
  clear hfit0 hl0 hX0 ht0
  obtain ⟨fb, hM⟩ : ∃ fb, isComb s X0 = fb := ⟨_, rfl⟩
  have HM := Lib.hid hM; clear hM
  have t2 : (fb != fb) = false := by simp
  go_enter Try.func4, Try.ntmps4
  go_wp2_with fail
  refine (szInt64SS_any a0 m0 cap0 rs0 1048576 _ HR0.out hn0 (by omega) (by omega)).mono ?_
  rw [HE0.out]
  rintro e w1 ⟨rfl, rfl⟩
  go_wp2_with fail
  refine (toInt64SS_own a0 m0 cap0 rs0 _ HS0.out hm0).mono ?_
  rintro e w1 ⟨b1, ts1, rfl, ho, he, hb⟩
  have ho2 := ho.ownSS; have HC1 : Hid (X0 = ts1.map RowV.xs) := Lib.hid (by rw [HX0.out, he])
  have HT01 : Hid (totS ts1 = totS rs0) := Lib.hid (by rw [tot_of ho2.reads, tot_of HS0.out, he])
  clear he ho
  have z1 := hb.size
  have BB := Lib.hid hb
  clear hb
  have P1 := Lib.hid ho2; clear ho2
  go_wp2_with fail
  refine (specIsComb_law HFX.out P1.out.reads hm0 HC1.out HM.out).mono ?_
  rintro e w2 ⟨rfl, hb⟩
  replace P1 := Lib.hid (P1.out.below hb)
  have z2 := hb.size
  replace BB := Lib.hid (below_go BB.out hb (by omega))
  clear hb
  clear P1
  go_wp2_with fail
  refine (toInt64SS_own a0 m0 cap0 rs0 _ (HS0.out.below BB.out) hm0).mono ?_
  rintro e w3 ⟨b3, ts3, rfl, ho, he, hb⟩
  have ho2 := ho.ownSS; have HC3 : Hid (X0 = ts3.map RowV.xs) := Lib.hid (by rw [HX0.out, he])
  have HT03 : Hid (totS ts3 = totS rs0) := Lib.hid (by rw [tot_of ho2.reads, tot_of HS0.out, he])
  clear he ho
  have z3 := hb.size
  replace BB := Lib.hid (below_go BB.out hb (by omega))
  clear hb
  have P3 := Lib.hid ho2; clear ho2
  go_wp2_with fail
  refine (implIsComb_law P3.out.reads hm0 HC3.out HM.out).mono ?_
  rintro e w4 ⟨rfl, hb⟩
  replace P3 := Lib.hid (P3.out.below hb)
  have z4 := hb.size
  replace BB := Lib.hid (below_go BB.out hb (by omega))
  clear hb
  go_wp2_with fail
  refine (toInt64SS_own a0 m0 cap0 rs0 _ (HS0.out.below BB.out) hm0).mono ?_
  rintro e w5 ⟨b5, ts5, rfl, ho, he, hb⟩
  have ho2 := ho.ownSS; have HC5 : Hid (X0 = ts5.map RowV.xs) := Lib.hid (by rw [HX0.out, he])
  have HT05 : Hid (totS ts5 = totS rs0) := Lib.hid (by rw [tot_of ho2.reads, tot_of HS0.out, he])
  clear he ho
  replace P3 := Lib.hid (P3.out.below hb)
  have z5 := hb.size
  replace BB := Lib.hid (below_go BB.out hb (by omega))
  clear hb
  have P5 := Lib.hid ho2; clear ho2
  go_wp2_with fail
  refine (eqInt64SS_yes _ _ m0 _ _ ts3 ts5 _ P3.out.reads P5.out.reads (HC3.out.symm.trans HC5.out) hm0).mono ?_
  rintro e w6 ⟨rfl, hb⟩
  replace P3 := Lib.hid (P3.out.below hb)
  replace P5 := Lib.hid (P5.out.below hb)
  have z6 := hb.size
  replace BB := Lib.hid (below_go BB.out hb (by omega))
  clear hb
  clear P5
  go_wp2
  go_ret
  exact ⟨rfl, BB.out⟩

end Go.Proofs.Ytmlejlediflaaaa
