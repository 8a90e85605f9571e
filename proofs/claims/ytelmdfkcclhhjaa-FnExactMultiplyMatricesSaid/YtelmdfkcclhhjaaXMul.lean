/- Products of matrices: the exported functions of the model and of the program. -/
import Derived.Test.YtelmdfkcclhhjaaSTm
namespace Go.Proofs.Ytelmdfkcclhhjaa
open Go.RowKit Go.ChangeShapes

theorem mMul_no {X Y : List (List Int)} (h : ¬ (isFm X = true ∧ isFm Y = true)) : mMul X Y = ([], 1) := by unfold mMul; rw [if_neg h]
theorem mMul_range {X Y : List (List Int)} (h : isFm X = true ∧ isFm Y = true) (h2 : X.length ≠ Y.length) : mMul X Y = ([], 2) := by unfold mMul; rw [if_pos h, if_neg h2]
theorem mMul_yes {X Y : List (List Int)} (h : isFm X = true ∧ isFm Y = true) (h2 : X.length = Y.length) : mMul X Y = (mkM X.length X.length (mulF X.length (eL X) (eL Y)), 0) := by unfold mMul; rw [if_pos h, if_pos h2]

theorem mMul_len (X Y : List (List Int)) : (mMul X Y).1.length ≤ 28 := by
  unfold mMul
  split
  · rename_i h
    split
    · rw [mkM_len]; exact (isFm_iff.1 h.1).1.2
    · simp
  · simp

theorem ret_none (w w' : World) (c : Int) (hb : Below w.heap.size w w') : RetSSN w [] c (.returned (.tuple #[.slice none 0 0, .int .i64 c])) w' := ⟨none, 0, [], rfl, rfl, GrowSS.nil _ _, hb⟩

set_option maxRecDepth 100000 in
set_option maxHeartbeats 1000000 in
theorem specMul_law {a0 a1 : Option Addr} {m0 m1 c0 c1 : Nat} {rs0 rs1 : List RowV} {w : World} {X0 X1 : List (List Int)} (h0 : ReadsSS w a0 m0 rs0) (hm0 : m0 ≤ 1048576) (hX0 : X0 = rs0.map RowV.xs) (h1 : ReadsSS w a1 m1 rs1) (hm1 : m1 ≤ 1048576) (hX1 : X1 = rs1.map RowV.xs) {ls : List (List Int)} {c : Int} (hM : mMul X0 X1 = (ls, c)) :
    Calls Try.prog 23 #[.slice a0 m0 c0, .slice a1 m1 c1] w (RetSSN w ls c) := by
  have HL0 : Hid (X0.length = m0) := Lib.hid (by rw [hX0, List.length_map]; exact h0.1)
  have HL1 : Hid (X1.length = m1) := Lib.hid (by rw [hX1, List.length_map]; exact h1.1)
  have HM := Lib.hid hM; have HX0 := Lib.hid hX0; have HX1 := Lib.hid hX1; have R0 := Lib.hid h0; have R1 := Lib.hid h1; clear h0 h1 hX0 hX1 hM
  cases hf0 : isFm X0 with
  | false =>
    have hM := HM.out
    rw [mMul_no (by rw [hf0]; simp)] at hM
    injection hM with e1 e2
    subst e1; subst e2
    have HF0 := Lib.hid hf0; clear hf0
    go_enter Try.func23, Try.ntmps23
    go_wp2_with fail
    refine (l09Is_any a0 m0 c0 rs0 w R0.out hm0 X0 HX0.out).mono ?_
    rw [HF0.out]
    rintro e w1 ⟨rfl, rfl⟩
    go_wp2
    go_ret2
    exact ret_none _ _ _ (Below.refl _ _)
  | true =>
    cases hf1 : isFm X1 with
    | false =>
      have hM := HM.out
      rw [mMul_no (by rw [hf1]; simp)] at hM
      injection hM with e1 e2
      subst e1; subst e2
      have HF0 := Lib.hid hf0; have HF1 := Lib.hid hf1; clear hf0 hf1
      go_enter Try.func23, Try.ntmps23
      go_wp2_with fail
      refine (l09Is_any a0 m0 c0 rs0 w R0.out hm0 X0 HX0.out).mono ?_
      rw [HF0.out]
      rintro e w1 ⟨rfl, rfl⟩
      go_wp2_with fail
      refine (l09Is_any a1 m1 c1 rs1 w R1.out hm1 X1 HX1.out).mono ?_
      rw [HF1.out]
      rintro e w1 ⟨rfl, rfl⟩
      go_wp2
      go_ret2
      exact ret_none _ _ _ (Below.refl _ _)
    | true =>
      have I0 := Lib.hid (isFm_iff.1 hf0); have I1 := Lib.hid (isFm_iff.1 hf1)
      have hb0 : m0 ≤ 28 := by have := I0.out.1.2; rw [HL0.out] at this; exact this
      by_cases hl : m0 = m1
      rotate_left
      · have hM := HM.out
        rw [mMul_range ⟨hf0, hf1⟩ (by rw [HL0.out, HL1.out]; exact hl)] at hM
        injection hM with e1 e2
        subst e1; subst e2
        have t1 : ((m0 : Int) != (m1 : Int)) = true := by simp; omega
        have HF0 := Lib.hid hf0; have HF1 := Lib.hid hf1; clear hf0 hf1
        go_enter Try.func23, Try.ntmps23
        go_wp2_with fail
        refine (l09Is_any a0 m0 c0 rs0 w R0.out hm0 X0 HX0.out).mono ?_
        rw [HF0.out]
        rintro e w1 ⟨rfl, rfl⟩
        go_wp2_with fail
        refine (l09Is_any a1 m1 c1 rs1 w R1.out hm1 X1 HX1.out).mono ?_
        rw [HF1.out]
        rintro e w1 ⟨rfl, rfl⟩
        go_wp2
        go_ret2
        exact ret_none _ _ _ (Below.refl _ _)
      subst hl
      have hM := HM.out
      rw [mMul_yes ⟨hf0, hf1⟩ (by rw [HL0.out, HL1.out]), HL0.out] at hM
      injection hM with e1 e2
      subst e2
      have HLS := Lib.hid e1
      have t1 : ((m0 : Int) != (m0 : Int)) = false := by simp
      have F0 : Hid (Rem m0 m0 (eL X0)) := Lib.hid (by have := I0.out.rem; rw [HL0.out] at this; exact this)
      have F1 : Hid (Rem m0 m0 (eL X1)) := Lib.hid (by have := I1.out.rem; rw [HL1.out] at this; exact this)
      have K0 : Hid (rs0.map RowV.xs = mkM m0 m0 (eL X0)) := Lib.hid (by have := mkM_of I0.out; rw [HL0.out] at this; rw [this, ← HX0.out])
      have K1 : Hid (rs1.map RowV.xs = mkM m0 m0 (eL X1)) := Lib.hid (by have := mkM_of I1.out; rw [HL1.out] at this; rw [this, ← HX1.out])
      have HF0 := Lib.hid hf0; have HF1 := Lib.hid hf1; clear hf0 hf1 e1
      go_enter Try.func23, Try.ntmps23
      go_wp2_with fail
      refine (l09Is_any a0 m0 c0 rs0 w R0.out hm0 X0 HX0.out).mono ?_
      rw [HF0.out]
      rintro e w1 ⟨rfl, rfl⟩
      go_wp2_with fail
      refine (l09Is_any a1 m0 c1 rs1 w R1.out hm1 X1 HX1.out).mono ?_
      rw [HF1.out]
      rintro e w1 ⟨rfl, rfl⟩
      go_wp2_with fail
      refine (l09Times_any a0 a1 m0 c0 c1 rs0 rs1 (eL X0) (eL X1) w R0.out K0.out R1.out K1.out hb0 F0.out F1.out).mono ?_
      rintro e w2 ⟨a, cd, os, rfl, hos, hG, hb⟩
      have GG := Lib.hid hG; have BB := Lib.hid hb; have HO : Hid (os.map RowV.xs = ls) := Lib.hid (hos.trans HLS.out); clear hG hb hos
      have HOL := Lib.hid GG.out.len
      go_wp2
      go_ret2
      exact ⟨a, cd, os, by rw [HOL.out]; rfl, HO.out, by rw [HOL.out]; exact GG.out, BB.out⟩

set_option maxRecDepth 100000 in
set_option maxHeartbeats 1000000 in
theorem implMul_law {a0 a1 : Option Addr} {m0 m1 c0 c1 : Nat} {rs0 rs1 : List RowV} {w : World} {X0 X1 : List (List Int)} (h0 : ReadsSS w a0 m0 rs0) (hm0 : m0 ≤ 1048576) (hX0 : X0 = rs0.map RowV.xs) (h1 : ReadsSS w a1 m1 rs1) (hm1 : m1 ≤ 1048576) (hX1 : X1 = rs1.map RowV.xs) {ls : List (List Int)} {c : Int} (hM : mMul X0 X1 = (ls, c)) :
    Calls Try.prog 24 #[.slice a0 m0 c0, .slice a1 m1 c1] w (RetSSN w ls c) := by
  have HL0 : Hid (X0.length = m0) := Lib.hid (by rw [hX0, List.length_map]; exact h0.1)
  have HL1 : Hid (X1.length = m1) := Lib.hid (by rw [hX1, List.length_map]; exact h1.1)
  have HM := Lib.hid hM; have HX0 := Lib.hid hX0; have HX1 := Lib.hid hX1; have R0 := Lib.hid h0; have R1 := Lib.hid h1; clear h0 h1 hX0 hX1 hM
  cases hf0 : isFm X0 with
  | false =>
    have hM := HM.out
    rw [mMul_no (by rw [hf0]; simp)] at hM
    injection hM with e1 e2
    subst e1; subst e2
    have HF0 := Lib.hid hf0; clear hf0
    go_enter Try.func24, Try.ntmps24
    go_wp2_with fail
    refine (implIsFm_any a0 m0 c0 rs0 w R0.out hm0 X0 HX0.out).mono ?_
    rw [HF0.out]
    rintro e w1 ⟨rfl, rfl⟩
    go_wp2
    go_ret2
    exact ret_none _ _ _ (Below.refl _ _)
  | true =>
    cases hf1 : isFm X1 with
    | false =>
      have hM := HM.out
      rw [mMul_no (by rw [hf1]; simp)] at hM
      injection hM with e1 e2
      subst e1; subst e2
      have HF0 := Lib.hid hf0; have HF1 := Lib.hid hf1; clear hf0 hf1
      go_enter Try.func24, Try.ntmps24
      go_wp2_with fail
      refine (implIsFm_any a0 m0 c0 rs0 w R0.out hm0 X0 HX0.out).mono ?_
      rw [HF0.out]
      rintro e w1 ⟨rfl, rfl⟩
      go_wp2_with fail
      refine (implIsFm_any a1 m1 c1 rs1 w R1.out hm1 X1 HX1.out).mono ?_
      rw [HF1.out]
      rintro e w1 ⟨rfl, rfl⟩
      go_wp2
      go_ret2
      exact ret_none _ _ _ (Below.refl _ _)
    | true =>
      have I0 := Lib.hid (isFm_iff.1 hf0); have I1 := Lib.hid (isFm_iff.1 hf1)
      have hb0 : m0 ≤ 28 := by have := I0.out.1.2; rw [HL0.out] at this; exact this
      by_cases hl : m0 = m1
      rotate_left
      · have hM := HM.out
        rw [mMul_range ⟨hf0, hf1⟩ (by rw [HL0.out, HL1.out]; exact hl)] at hM
        injection hM with e1 e2
        subst e1; subst e2
        have t1 : ((m0 : Int) != (m1 : Int)) = true := by simp; omega
        have HF0 := Lib.hid hf0; have HF1 := Lib.hid hf1; clear hf0 hf1
        go_enter Try.func24, Try.ntmps24
        go_wp2_with fail
        refine (implIsFm_any a0 m0 c0 rs0 w R0.out hm0 X0 HX0.out).mono ?_
        rw [HF0.out]
        rintro e w1 ⟨rfl, rfl⟩
        go_wp2_with fail
        refine (implIsFm_any a1 m1 c1 rs1 w R1.out hm1 X1 HX1.out).mono ?_
        rw [HF1.out]
        rintro e w1 ⟨rfl, rfl⟩
        go_wp2
        go_ret2
        exact ret_none _ _ _ (Below.refl _ _)
      subst hl
      have hM := HM.out
      rw [mMul_yes ⟨hf0, hf1⟩ (by rw [HL0.out, HL1.out]), HL0.out] at hM
      injection hM with e1 e2
      subst e2
      have HLS := Lib.hid e1
      have t1 : ((m0 : Int) != (m0 : Int)) = false := by simp
      have F0 : Hid (Rem m0 m0 (eL X0)) := Lib.hid (by have := I0.out.rem; rw [HL0.out] at this; exact this)
      have F1 : Hid (Rem m0 m0 (eL X1)) := Lib.hid (by have := I1.out.rem; rw [HL1.out] at this; exact this)
      have K0 : Hid (rs0.map RowV.xs = mkM m0 m0 (eL X0)) := Lib.hid (by have := mkM_of I0.out; rw [HL0.out] at this; rw [this, ← HX0.out])
      have K1 : Hid (rs1.map RowV.xs = mkM m0 m0 (eL X1)) := Lib.hid (by have := mkM_of I1.out; rw [HL1.out] at this; rw [this, ← HX1.out])
      have HF0 := Lib.hid hf0; have HF1 := Lib.hid hf1; clear hf0 hf1 e1
      go_enter Try.func24, Try.ntmps24
      go_wp2_with fail
      refine (implIsFm_any a0 m0 c0 rs0 w R0.out hm0 X0 HX0.out).mono ?_
      rw [HF0.out]
      rintro e w1 ⟨rfl, rfl⟩
      go_wp2_with fail
      refine (implIsFm_any a1 m0 c1 rs1 w R1.out hm1 X1 HX1.out).mono ?_
      rw [HF1.out]
      rintro e w1 ⟨rfl, rfl⟩
      go_wp2_with fail
      refine (fieldMatrixOf_any a0 m0 c0 rs0 w R0.out X0 HX0.out I0.out).mono ?_
      rintro e w2 ⟨g0, b0, s0, k0, p0, rfl, hO, hb⟩
      have A0 := Lib.hid hO.toRMx; have BB := Lib.hid hb; clear hO hb
      go_wp2_with fail
      refine (fieldMatrixOf_any a1 m0 c1 rs1 w2 (R1.out.below BB.out) X1 HX1.out I1.out).mono ?_
      rintro e w3 ⟨g1, b1, s1, k1, p1, rfl, hO, hb⟩
      have A1 := Lib.hid hO.toRMx; replace A0 := Lib.hid (A0.out.below hb); replace BB := Lib.hid (below_go BB.out hb BB.out.size); clear hO hb
      go_wp2_with fail
      refine (mxTimes_any g0 g1 m0 p0 p1 b0 s0 k0 b1 s1 k1 (eL X0) (eL X1) w3 A0.out A1.out hb0 F0.out F1.out).mono ?_
      rintro e w4 ⟨g2, b2, s2, k2, p2, rfl, hO, hb⟩
      have A2 := Lib.hid hO.toRMx; replace BB := Lib.hid (below_go BB.out hb BB.out.size); clear hO hb
      have z4 := BB.out.size
      go_wp2_with fail
      refine (numbers_any g2 m0 m0 p2 b2 s2 k2 (mulF m0 (eL X0) (eL X1)) w4 A2.out hb0 hb0 (mulF_rem _ _ _)).mono ?_
      rintro e w5 ⟨a, cd, os, rfl, hos, hG, hb⟩
      replace BB := Lib.hid (below_go BB.out hb BB.out.size)
      have GG := Lib.hid (hG.low z4); have HO : Hid (os.map RowV.xs = ls) := Lib.hid (hos.trans HLS.out); clear hG hb hos
      have HOL := Lib.hid GG.out.len
      go_wp2
      go_ret2
      exact ⟨a, cd, os, by rw [HOL.out]; rfl, HO.out, by rw [HOL.out]; exact GG.out, BB.out⟩

end Go.Proofs.Ytelmdfkcclhhjaa
