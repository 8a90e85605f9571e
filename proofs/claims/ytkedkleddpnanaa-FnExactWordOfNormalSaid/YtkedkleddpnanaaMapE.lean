/- A letter is taken from all rows of a map: the program. -/
import Derived.Test.YtkedkleddpnanaaMapD
import Derived.Test.YtkedkleddpnanaaIRows
import Derived.Deep.RegionHeld3
import Derived.Deep.DeepCutAuto
namespace Go.Proofs.Ytkedkleddpnanaa
open Go.RowKit Go.ChangeShapes
open Go.ChangeMaps (setBlock)

set_option maxRecDepth 100000 in
set_option maxHeartbeats 1000000 in
theorem take_any (n k : Nat) (h8 : n ≤ 8) (hk : k + 1 < n) (b : Nat) (L : List (List Int × List Int)) (hkeys : Keys8 L) (hap : KeysApart L) (hv : ∀ x ∈ L, x.2.length = 8) (w : World) (hm : MapA w b L) :
    Calls Try.prog 136 #[.map (some b), .int .i64 ((k : Int) + 1), .int .i64 n] w fun e w' => e = .returned (.tuple #[]) ∧ MapA w' b (L.map fun x => (x.1, thenR n (exR n k) x.2)) ∧ Wrote b (b + 1) w w' := by
  have HK := Lib.hid hkeys
  have HA := Lib.hid hap
  have HV := Lib.hid hv
  have HM := Lib.hid hm
  have zb0 := hm.lt
  clear hkeys hap hv hm
  go_enter Try.func136, Try.ntmps136
  have BB := Lib.hid (Below.refl w.heap.size w)
  go_wp2_with fail
  refine (exchange_any n k h8 hk _).mono ?_
  rintro e w2 ⟨rfl, hb⟩
  replace BB := Lib.hid (below_go BB.out hb BB.out.size)
  clear hb
  have zt0 := BB.out.size
  have RT := Lib.hid (Row8.place w2 .u8 (exR n k) 26 w2.heap.size rfl (exR_len n k h8))
  replace BB := Lib.hid (BB.out.alloc BB.out.size (.cells #[.int .u8 (at8 (exR n k) 0), .int .u8 (at8 (exR n k) 1), .int .u8 (at8 (exR n k) 2), .int .u8 (at8 (exR n k) 3), .int .u8 (at8 (exR n k) 4), .int .u8 (at8 (exR n k) 5), .int .u8 (at8 (exR n k) 6), .int .u8 (at8 (exR n k) 7)] 26))
  replace HM := Lib.hid (HM.out.heap (BB.out.block b zb0))
  have zz := BB.out.size
  go_upto_region 1 with fail
  obtain ⟨W, hW⟩ : ∃ W, W = w2.alloc (.cells #[.int .u8 (at8 (exR n k) 0), .int .u8 (at8 (exR n k) 1), .int .u8 (at8 (exR n k) 2), .int .u8 (at8 (exR n k) 3), .int .u8 (at8 (exR n k) 4), .int .u8 (at8 (exR n k) 5), .int .u8 (at8 (exR n k) 6), .int .u8 (at8 (exR n k) 7)] 26) := ⟨_, rfl⟩
  rw [← hW] at RT BB HM zz ⊢
  clear hW
  obtain ⟨gt, hgt⟩ : ∃ gt, gt = w2.heap.size := ⟨_, rfl⟩
  rw [← hgt] at RT ⊢
  have zt : w.heap.size ≤ gt := by rw [hgt]; exact zt0
  clear hgt
  go_wp2_with (at_range; refine wpList_range_a rfl _ rfl b L rfl HM.out ?_; intro hit)
  have IT := Lib.hid hit
  clear hit
  have ztw := RT.out.lt
  obtain ⟨r, hr⟩ : ∃ r, r = W.heap.size := ⟨_, rfl⟩
  replace HM := Lib.hid (HM.out.alloc (.mapIter (some b) L.length #[] L.length))
  replace RT := Lib.hid (RT.out.alloc (.mapIter (some b) L.length #[] L.length))
  replace BB := Lib.hid (BB.out.alloc zz (.mapIter (some b) L.length #[] L.length))
  have zr : w.heap.size ≤ r ∧ gt < r ∧ b < r := by omega
  obtain ⟨W1, hW1⟩ : ∃ W1, W1 = W.alloc (.mapIter (some b) L.length #[] L.length) := ⟨_, rfl⟩
  rw [← hW1] at IT HM RT BB ⊢
  rw [← hr] at IT ⊢
  clear hW1 hr zz ztw
  go_frame
  go_loopw [] (fun wr => ∃ seen : Array Nat, IterA wr r b (updL n k L seen) seen ∧ MapA wr b (updL n k L seen) ∧ Row8 wr gt .u8 (exR n k) ∧ Wrote b (b + 1) w wr) (fun wr => wr.rangeLeft b r)
  case atStart => exact ⟨#[], by rw [updL_none]; exact IT.out, by rw [updL_none]; exact HM.out, RT.out, below_wrote BB.out⟩
  case round =>
    obtain ⟨seen, hi, hm, hrt, hbb⟩ := hrel
    clear IT HM RT BB
    have IT := Lib.hid hi
    have MW := Lib.hid hm
    have RT := Lib.hid hrt
    have BB := Lib.hid hbb
    clear hi hm hrt hbb
    have zz := BB.out.size
    go_wp2_with (at_next; refine wpList_next_a rfl _ rfl r b (updL n k L seen) seen rfl MW.out IT.out (by omega) ?_ ?_)
    · intro hall
      have HE := Lib.hid (updL_all n k L seen (fun i hi => hall i (by rw [updL_len]; exact hi)))
      clear hall
      go_wp2
      go_end0
      exact ⟨rfl, by rw [← HE.out]; exact MW.out, BB.out⟩
    · intro i x1 x2 w' hx hns hi' hm' hwr hlt' hen
      have hen2 : (Instr.entry (.pointer (some ⟨r, 0, none⟩))).run Try.prog w' = .ok (.tuple #[arr8 .u8 x1, arr8 .u8 x2]) w' := hen
      obtain ⟨y, hy1, hy2⟩ := updL_keys n k L seen i (x1, x2) hx
      have l1 : x1.length = 8 := by rw [show x1 = y.1 from hy2]; exact HK.out y (List.mem_of_getElem? hy1)
      have l2 : x2.length = 8 := by
        have hx' := hx
        unfold EntAt at hx'
        rw [updL_get, hy1] at hx'
        simp only [Option.map_some, Option.some.injEq] at hx'
        have hyl := HV.out y (List.mem_of_getElem? hy1)
        split at hx'
        · rw [← (Prod.mk.inj hx').2]; exact mapR_len _ _ h8
        · rw [hx'] at hyl; exact hyl
      have hap2 : KeysApart (updL n k L seen) := fun i j x z hx hz e => by
        obtain ⟨p, hp1, hp2⟩ := updL_keys n k L seen i x hx
        obtain ⟨q, hq1, hq2⟩ := updL_keys n k L seen j z hz
        exact HA.out i j p q hp1 hq1 (by rw [← hp2, ← hq2]; exact e)
      have hks2 : Keys8 (updL n k L seen) := fun x hx => by
        obtain ⟨i, hi⟩ := List.getElem?_of_mem hx
        obtain ⟨p, hp1, hp2⟩ := updL_keys n k L seen i x hi
        rw [hp2]
        exact HK.out p (List.mem_of_getElem? hp1)
      have HF : Hid (findL x1 (updL n k L seen) 0 = some (i, arr8 .u8 x2)) := Lib.hid (by simpa using findL_at (updL n k L seen) i x1 x2 hx hap2 0)
      have HPU := Lib.hid (updL_push n k L seen i x1 x2 hx hns)
      have HKS := Lib.hid hks2
      have L1 := Lib.hid l1
      have L2 := Lib.hid l2
      have HLT : Hid (w'.rangeLeft b r < wr.rangeLeft b r) := Lib.hid hlt'
      have IT2 := Lib.hid hi'
      have MW2 := Lib.hid hm'
      have RT2 := Lib.hid (RT.out.heap hwr.size (hwr.block gt RT.out.lt (by omega)))
      have HWR := Lib.hid hwr
      clear hx hns hi' hm' hwr hlt' hen hy1 hy2 l1 l2 hap2 hks2
      go_wp2
      have zw := HWR.out.size
      have zw2 := IT2.out.lt
      have RK := Lib.hid ((Row8.place w' .u8 x1 26 w'.heap.size rfl L1.out).alloc (.cells #[.int .u8 (at8 x2 0), .int .u8 (at8 x2 1), .int .u8 (at8 x2 2), .int .u8 (at8 x2 3), .int .u8 (at8 x2 4), .int .u8 (at8 x2 5), .int .u8 (at8 x2 6), .int .u8 (at8 x2 7)] 26))
      have RL := Lib.hid (Row8.place (w'.alloc (.cells #[.int .u8 (at8 x1 0), .int .u8 (at8 x1 1), .int .u8 (at8 x1 2), .int .u8 (at8 x1 3), .int .u8 (at8 x1 4), .int .u8 (at8 x1 5), .int .u8 (at8 x1 6), .int .u8 (at8 x1 7)] 26)) .u8 x2 26 (w'.heap.size + 1) (by simp) L2.out)
      have RT3 := Lib.hid ((RT2.out.alloc (.cells #[.int .u8 (at8 x1 0), .int .u8 (at8 x1 1), .int .u8 (at8 x1 2), .int .u8 (at8 x1 3), .int .u8 (at8 x1 4), .int .u8 (at8 x1 5), .int .u8 (at8 x1 6), .int .u8 (at8 x1 7)] 26)).alloc (.cells #[.int .u8 (at8 x2 0), .int .u8 (at8 x2 1), .int .u8 (at8 x2 2), .int .u8 (at8 x2 3), .int .u8 (at8 x2 4), .int .u8 (at8 x2 5), .int .u8 (at8 x2 6), .int .u8 (at8 x2 7)] 26))
      have MX := Lib.hid ((MW2.out.alloc (.cells #[.int .u8 (at8 x1 0), .int .u8 (at8 x1 1), .int .u8 (at8 x1 2), .int .u8 (at8 x1 3), .int .u8 (at8 x1 4), .int .u8 (at8 x1 5), .int .u8 (at8 x1 6), .int .u8 (at8 x1 7)] 26)).alloc (.cells #[.int .u8 (at8 x2 0), .int .u8 (at8 x2 1), .int .u8 (at8 x2 2), .int .u8 (at8 x2 3), .int .u8 (at8 x2 4), .int .u8 (at8 x2 5), .int .u8 (at8 x2 6), .int .u8 (at8 x2 7)] 26))
      have IX := Lib.hid ((IT2.out.alloc (.cells #[.int .u8 (at8 x1 0), .int .u8 (at8 x1 1), .int .u8 (at8 x1 2), .int .u8 (at8 x1 3), .int .u8 (at8 x1 4), .int .u8 (at8 x1 5), .int .u8 (at8 x1 6), .int .u8 (at8 x1 7)] 26)).alloc (.cells #[.int .u8 (at8 x2 0), .int .u8 (at8 x2 1), .int .u8 (at8 x2 2), .int .u8 (at8 x2 3), .int .u8 (at8 x2 4), .int .u8 (at8 x2 5), .int .u8 (at8 x2 6), .int .u8 (at8 x2 7)] 26))
      have WX := Lib.hid (below2 w' (.cells #[.int .u8 (at8 x1 0), .int .u8 (at8 x1 1), .int .u8 (at8 x1 2), .int .u8 (at8 x1 3), .int .u8 (at8 x1 4), .int .u8 (at8 x1 5), .int .u8 (at8 x1 6), .int .u8 (at8 x1 7)] 26) (.cells #[.int .u8 (at8 x2 0), .int .u8 (at8 x2 1), .int .u8 (at8 x2 2), .int .u8 (at8 x2 3), .int .u8 (at8 x2 4), .int .u8 (at8 x2 5), .int .u8 (at8 x2 6), .int .u8 (at8 x2 7)] 26))
      obtain ⟨X, hX⟩ : ∃ X, X = ((w'.alloc (.cells #[.int .u8 (at8 x1 0), .int .u8 (at8 x1 1), .int .u8 (at8 x1 2), .int .u8 (at8 x1 3), .int .u8 (at8 x1 4), .int .u8 (at8 x1 5), .int .u8 (at8 x1 6), .int .u8 (at8 x1 7)] 26)).alloc (.cells #[.int .u8 (at8 x2 0), .int .u8 (at8 x2 1), .int .u8 (at8 x2 2), .int .u8 (at8 x2 3), .int .u8 (at8 x2 4), .int .u8 (at8 x2 5), .int .u8 (at8 x2 6), .int .u8 (at8 x2 7)] 26)) := ⟨_, rfl⟩
      rw [← hX] at RK RL RT3 MX IX WX ⊢
      clear hX
      clear hen2
      have zx := WX.out.size
      go_region_held3 (fun u' => (u'.cell? ⟨w'.heap.size, 0, none⟩ = some (.int .u8 (at8 x1 0)) ∧ u'.cell? ⟨w'.heap.size, 1, none⟩ = some (.int .u8 (at8 x1 1)) ∧ u'.cell? ⟨w'.heap.size, 2, none⟩ = some (.int .u8 (at8 x1 2)) ∧ u'.cell? ⟨w'.heap.size, 3, none⟩ = some (.int .u8 (at8 x1 3)) ∧ u'.cell? ⟨w'.heap.size, 4, none⟩ = some (.int .u8 (at8 x1 4)) ∧ u'.cell? ⟨w'.heap.size, 5, none⟩ = some (.int .u8 (at8 x1 5)) ∧ u'.cell? ⟨w'.heap.size, 6, none⟩ = some (.int .u8 (at8 x1 6)) ∧ u'.cell? ⟨w'.heap.size, 7, none⟩ = some (.int .u8 (at8 x1 7))) ∧ (u'.cell? ⟨gt, 0, none⟩ = some (.int .u8 (at8 (exR n k) 0)) ∧ u'.cell? ⟨gt, 1, none⟩ = some (.int .u8 (at8 (exR n k) 1)) ∧ u'.cell? ⟨gt, 2, none⟩ = some (.int .u8 (at8 (exR n k) 2)) ∧ u'.cell? ⟨gt, 3, none⟩ = some (.int .u8 (at8 (exR n k) 3)) ∧ u'.cell? ⟨gt, 4, none⟩ = some (.int .u8 (at8 (exR n k) 4)) ∧ u'.cell? ⟨gt, 5, none⟩ = some (.int .u8 (at8 (exR n k) 5)) ∧ u'.cell? ⟨gt, 6, none⟩ = some (.int .u8 (at8 (exR n k) 6)) ∧ u'.cell? ⟨gt, 7, none⟩ = some (.int .u8 (at8 (exR n k) 7))) ∧ (u'.cell? ⟨w'.heap.size + 1, 0, none⟩ = some (.int .u8 (at8 x2 0)) ∧ u'.cell? ⟨w'.heap.size + 1, 1, none⟩ = some (.int .u8 (at8 x2 1)) ∧ u'.cell? ⟨w'.heap.size + 1, 2, none⟩ = some (.int .u8 (at8 x2 2)) ∧ u'.cell? ⟨w'.heap.size + 1, 3, none⟩ = some (.int .u8 (at8 x2 3)) ∧ u'.cell? ⟨w'.heap.size + 1, 4, none⟩ = some (.int .u8 (at8 x2 4)) ∧ u'.cell? ⟨w'.heap.size + 1, 5, none⟩ = some (.int .u8 (at8 x2 5)) ∧ u'.cell? ⟨w'.heap.size + 1, 6, none⟩ = some (.int .u8 (at8 x2 6)) ∧ u'.cell? ⟨w'.heap.size + 1, 7, none⟩ = some (.int .u8 (at8 x2 7)))) (first | with_reducible exact ⟨(RK.out.drew).flat, (RT3.out.drew).flat, (RL.out.drew).flat⟩ | with_reducible exact ⟨(RK.out.drew.below hb4).flat, (RT3.out.drew.below hb4).flat, (RL.out.drew.below hb4).flat⟩ | with_reducible exact ⟨((RK.out.drew.below hb4).setB (by omega)).flat, ((RT3.out.drew.below hb4).setB (by omega)).flat, ((RL.out.drew.below hb4).setB (by omega)).flat⟩)
        (first
          | (go_at_call 138; refine (then_any n h8 (exR n k) x2 (exR_len n k h8) L2.out (exR_sim n k h8 hk).wide _).mono ?_; rintro e w4 ⟨rfl, hb4⟩; have hup := run_update_old (MX.out.drew.below hb4) HKS.out x1 (thenR n (exR n k) x2) L1.out i _ HF.out))
      clear hup
      have W4 := Lib.hid ((((BB.out.far HWR.out (by omega)).drawn WX.out).trans (below_wrote (Below.refl X.heap.size X).drew)).trans (below_wrote hb4))
      have M4 := Lib.hid (MX.out.drew.below hb4)
      have I4 := Lib.hid (IterA.below (w := X.drew) IX.out hb4)
      have T4 := Lib.hid (RT3.out.drew.below hb4)
      clear hb4
      have M5 : Hid (MapA (setBlock w4 b (.map (entsF 0 ((updL n k L seen).set i (x1, thenR n (exR n k) x2))).toArray (updL n k L seen).length)) b (updL n k L (seen.push i))) := Lib.hid (by
        unfold MapA
        rw [setBlock_same _ M4.out.lt, ← HPU.out, List.length_set])
      have I5 : Hid (IterA (setBlock w4 b (.map (entsF 0 ((updL n k L seen).set i (x1, thenR n (exR n k) x2))).toArray (updL n k L seen).length)) r b (updL n k L (seen.push i)) (seen.push i)) := Lib.hid ((I4.out.setB (by omega)).len (by rw [updL_len, updL_len]))
      go_roundw
      case rel =>
        have zg : gt ≠ b := by omega
        exact ⟨_, _, _, _, _, _, _, _, _, _, _, _, _, ⟨seen.push i, I5.out, M5.out, T4.out.setB zg, W4.out.trans (setBlock_wrote _ _ _)⟩, rfl⟩
      case measure =>
        rw [rangeLeft_eq M5.out I5.out]
        have e := HLT.out
        rw [rangeLeft_eq MW2.out IT2.out, left_same (updL n k L seen) (updL n k L (seen.push i)) _ (by rw [updL_len, updL_len])] at e
        exact e

end Go.Proofs.Ytkedkleddpnanaa
