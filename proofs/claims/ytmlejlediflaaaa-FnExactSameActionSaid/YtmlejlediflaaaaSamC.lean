/- Braids that act alike: the exported function of the model. -/
import Derived.Test.YtmlejlediflaaaaSamB
namespace Go.Proofs.Ytmlejlediflaaaa
open Go.RowKit Go.ChangeShapes

set_option maxRecDepth 100000 in
set_option maxHeartbeats 2000000 in
theorem specSameAction_any (s : Int) (a : Option Addr) (n ca : Nat) (xs : List Int) (t : Int) (b : Option Addr) (k cb : Nat) (ys : List Int) (w : World) (hr : Reads w a n xs) (hf : Fits xs) (hn : n ≤ 1048576) (hr2 : Reads w b k ys) (hf2 : Fits ys) (hk : k ≤ 1048576) (fb : Bool) (fc : Int) (hM : mSameAct s xs t ys = (fb, fc)) :
    Calls Try.prog 55 #[.agg #[.int .i64 s, .slice a n ca], .agg #[.int .i64 t, .slice b k cb]] w fun e w' => e = .returned (.tuple #[.bool fb, .int .i64 fc]) ∧ Below w.heap.size w w' := by
  have R := Lib.hid ((hr.alloc (.cells #[.int .i64 s, .slice a n ca] 24)).alloc (.cells #[.int .i64 t, .slice b k cb] 24))
  have Q := Lib.hid ((hr2.alloc (.cells #[.int .i64 s, .slice a n ca] 24)).alloc (.cells #[.int .i64 t, .slice b k cb] 24))
  have A := Lib.hid ((At2.new w (.int .i64 s) (.slice a n ca) 24).alloc (.cells #[.int .i64 t, .slice b k cb] 24))
  have C := Lib.hid (At2.place (w.alloc (.cells #[.int .i64 s, .slice a n ca] 24)) (.int .i64 t) (.slice b k cb) 24 (w.heap.size + 1) (by simp))
  have BB := Lib.hid (below2 w (.cells #[.int .i64 s, .slice a n ca] 24) (.cells #[.int .i64 t, .slice b k cb] 24))
  have HF := Lib.hid hf; have HF2 := Lib.hid hf2
  clear hr hr2 hf hf2
  obtain ⟨qA1, qA2, qA3, qA4, qA5⟩ := A.out
  obtain ⟨qC1, qC2, qC3, qC4, qC5⟩ := C.out
  cases hb1 : isBraid s xs with
  | false =>
    rw [mSameAct, if_neg (fun h => by rw [hb1] at h; cases h.1)] at hM
    obtain ⟨rfl, rfl⟩ := Prod.mk.injEq .. ▸ hM
    clear hM
    go_enter Try.func55, Try.ntmps55
    go_wp2_with fail
    refine (l01Is_any s a n ca xs _ R.out HF.out hn).mono ?_
    rintro e w1 ⟨rfl, hb⟩
    rw [hb1]
    replace BB := Lib.hid (below_go BB.out hb BB.out.size); clear hb
    clear qA1 qA2 qA3 qA4 qA5 qC1 qC2 qC3 qC4 qC5
    go_wp2
    go_ret2
    exact ⟨rfl, BB.out⟩
  | true =>
    cases hb2 : isBraid t ys with
    | false =>
      rw [mSameAct, if_neg (fun h => by rw [hb2] at h; cases h.2)] at hM
      obtain ⟨rfl, rfl⟩ := Prod.mk.injEq .. ▸ hM
      clear hM
      go_enter Try.func55, Try.ntmps55
      go_wp2_with fail
      refine (l01Is_any s a n ca xs _ R.out HF.out hn).mono ?_
      rintro e w1 ⟨rfl, hb⟩
      rw [hb1]
      clear qA1 qA2 qA3 qA4 qA5 qC1 qC2 qC3 qC4 qC5
      replace Q := Lib.hid (Q.out.below hb); replace A := Lib.hid (A.out.below hb); replace C := Lib.hid (C.out.below hb)
      replace BB := Lib.hid (below_go BB.out hb BB.out.size); clear hb
      obtain ⟨qA1, qA2, qA3, qA4, qA5⟩ := A.out
      obtain ⟨qC1, qC2, qC3, qC4, qC5⟩ := C.out
      go_wp2_with fail
      refine (l01Is_any t b k cb ys _ Q.out HF2.out hk).mono ?_
      rintro e w2 ⟨rfl, hb⟩
      rw [hb2]
      clear qA1 qA2 qA3 qA4 qA5 qC1 qC2 qC3 qC4 qC5
      replace BB := Lib.hid (below_go BB.out hb BB.out.size); clear hb
      go_wp2
      go_ret2
      exact ⟨rfl, BB.out⟩
    | true =>
      rw [mSameAct, if_pos ⟨hb1, hb2⟩] at hM
      obtain ⟨i1, i2, _, _⟩ := (isBraid_iff s xs).1 hb1
      have HXL := Lib.hid (letters_bd0 hb1); have HYL := Lib.hid (letters_bd0 hb2)
      have hst0 : (s != t) = decide (s ≠ t) := by simp [bne, BEq.beq]
      go_enter Try.func55, Try.ntmps55
      go_wp2_with fail
      refine (l01Is_any s a n ca xs _ R.out HF.out hn).mono ?_
      rintro e w1 ⟨rfl, hb⟩
      rw [hb1]
      clear qA1 qA2 qA3 qA4 qA5 qC1 qC2 qC3 qC4 qC5
      replace R := Lib.hid (R.out.below hb); replace Q := Lib.hid (Q.out.below hb); replace A := Lib.hid (A.out.below hb); replace C := Lib.hid (C.out.below hb)
      replace BB := Lib.hid (below_go BB.out hb BB.out.size); clear hb
      obtain ⟨qA1, qA2, qA3, qA4, qA5⟩ := A.out
      obtain ⟨qC1, qC2, qC3, qC4, qC5⟩ := C.out
      go_wp2_with fail
      refine (l01Is_any t b k cb ys _ Q.out HF2.out hk).mono ?_
      rintro e w2 ⟨rfl, hb⟩
      rw [hb2]
      clear qA1 qA2 qA3 qA4 qA5 qC1 qC2 qC3 qC4 qC5
      replace R := Lib.hid (R.out.below hb); replace Q := Lib.hid (Q.out.below hb); replace A := Lib.hid (A.out.below hb); replace C := Lib.hid (C.out.below hb)
      replace BB := Lib.hid (below_go BB.out hb BB.out.size); clear hb
      obtain ⟨qA1, qA2, qA3, qA4, qA5⟩ := A.out
      obtain ⟨qC1, qC2, qC3, qC4, qC5⟩ := C.out
      clear hst0
      by_cases hst : s = t
      · rw [if_pos hst] at hM
        subst hst
        have t0 : (s != s) = false := by simp
        obtain ⟨q, rfl⟩ : ∃ q : Nat, s = (q : Int) := ⟨s.toNat, by omega⟩
        rw [Int.toNat_natCast] at hM
        have hq8 : q ≤ 8 := by omega
        have HM := Lib.hid hM
        clear hM i1 i2 hb1 hb2
        obtain ⟨⟨l1, c1⟩, hm1⟩ : ∃ x, mImgs q xs = x := ⟨_, rfl⟩
        obtain ⟨⟨l2, c2⟩, hm2⟩ : ∃ x, mImgs q ys = x := ⟨_, rfl⟩
        have HM1 := Lib.hid hm1; have HM2 := Lib.hid hm2; clear hm1 hm2
        go_wp2_with fail
        refine (l08Images_any q a n ca xs _ hq8 R.out hn HXL.out HM1.out).mono ?_
        rintro e w3 ⟨ad, d1, rs, rfl, hrs, hg, hb⟩
        clear qA1 qA2 qA3 qA4 qA5 qC1 qC2 qC3 qC4 qC5
        replace Q := Lib.hid (Q.out.below hb); replace A := Lib.hid (A.out.below hb); replace C := Lib.hid (C.out.below hb)
        replace BB := Lib.hid (below_go BB.out hb BB.out.size)
        have G1 := Lib.hid hg.ownSS.reads; have HRS := Lib.hid hrs; clear hg hrs hb
        obtain ⟨qA1, qA2, qA3, qA4, qA5⟩ := A.out
        obtain ⟨qC1, qC2, qC3, qC4, qC5⟩ := C.out
        go_wp2_with fail
        refine (l08Images_any q b k cb ys _ hq8 Q.out hk HYL.out HM2.out).mono ?_
        rintro e w4 ⟨bd, d2, ts, rfl, hts, hg, hb⟩
        clear qA1 qA2 qA3 qA4 qA5 qC1 qC2 qC3 qC4 qC5
        replace G1 := Lib.hid (G1.out.below hb)
        replace BB := Lib.hid (below_go BB.out hb BB.out.size)
        have G2 := Lib.hid hg.ownSS.reads; have HTS := Lib.hid hts; clear hg hts hb
        rcases mImgs_cases q xs with ⟨l1', hi1, hm1⟩ | ⟨hi1, hm1⟩
        · obtain ⟨rfl, rfl⟩ := Prod.mk.injEq .. ▸ (HM1.out.symm.trans hm1)
          have t1 : ((0 : Int) == 0) = true := by simp
          rcases mImgs_cases q ys with ⟨l2', hi2, hm2⟩ | ⟨hi2, hm2⟩
          · obtain ⟨rfl, rfl⟩ := Prod.mk.injEq .. ▸ (HM2.out.symm.trans hm2)
            have hfin := HM.out
            rw [mSA_both hi1 hi2, ← HRS.out, ← HTS.out] at hfin
            obtain ⟨rfl, rfl⟩ := Prod.mk.injEq .. ▸ hfin
            have hrl : rs.length = q := by have := imgs_len xs q _ hi1; rw [← HRS.out, List.length_map] at this; exact this
            have htl : ts.length = rs.length := by have := imgs_len ys q _ hi2; rw [← HTS.out, List.length_map] at this; rw [hrl]; exact this
            rw [htl] at G2 ⊢
            have HTL := Lib.hid htl; have HRL := Lib.hid hrl
            obtain ⟨M, hM0⟩ : ∃ M, M = rs.length := ⟨_, rfl⟩
            have HMe := Lib.hid hM0
            rw [← hM0] at G1 G2 ⊢
            have hM8 : M ≤ 8 := by omega
            clear hfin hi1 hi2 hm1 hm2 htl hrl hM0
            go_wp2
            go_loopw [10] (fun i wr => ∃ k : Nat, k ≤ M ∧ i = .int .i64 k ∧ Hid (∀ j (h1 : j < rs.length) (h2 : j < ts.length), j < k → rs[j].xs = ts[j].xs) ∧ Below w4.heap.size w4 wr) (fun i _ => M - (intOf i).toNat)
            case atStart => exact ⟨0, Nat.zero_le _, rfl, Lib.hid (fun j _ _ h => by omega), Below.refl _ _⟩
            case round =>
              obtain ⟨k, hk, rfl, HS, hb⟩ := hrel
              have HB := Lib.hid hb; clear hb
              obtain ⟨wo, rfl⟩ : ∃ x, x = wr := ⟨_, rfl⟩
              by_cases hlt : k < M
              · have kr : k < rs.length := by have := HMe.out; omega
                have kt : k < ts.length := by have := HMe.out; have := HTL.out; omega
                obtain ⟨g1, o1, rfl, hc1⟩ := G1.out.2.1.resolve_left (by omega)
                obtain ⟨g2, o2, rfl, hc2⟩ := G2.out.2.1.resolve_left (by omega)
                have x1 := hc1 k kr
                have x2 := hc2 k kt
                have c1 := (HB.out.cell (p := ⟨g1, o1 + k, none⟩) (World.block_lt_of_cell? _ _ x1)).trans x1
                have c2 := (HB.out.cell (p := ⟨g2, o2 + k, none⟩) (World.block_lt_of_cell? _ _ x2)).trans x2
                have R1 := Lib.hid ((G1.out.2.2 rs[k] (List.getElem_mem kr)).1.below HB.out)
                have R2 := Lib.hid ((G2.out.2.2 ts[k] (List.getElem_mem kt)).1.below HB.out)
                have hb1 := (G1.out.2.2 rs[k] (List.getElem_mem kr)).2
                obtain ⟨r1, hr1⟩ : ∃ r, r = rs[k] := ⟨_, rfl⟩
                obtain ⟨r2, hr2⟩ : ∃ r, r = ts[k] := ⟨_, rfl⟩
                rw [← hr1] at c1 R1 hb1
                rw [← hr2] at c2 R2
                have HR1 := Lib.hid hr1; have HR2 := Lib.hid hr2; clear hr1 hr2 x1 x2 hc1 hc2
                have k0 : 0 ≤ (k : Int) := by omega
                have k1 : (k : Int) < (M : Int) := by omega
                have d1' : wo.drew.cell? ⟨g1, o1 + k, none⟩ = some (.slice r1.a r1.n r1.cap) := c1
                have d2' : wo.drew.cell? ⟨g2, o2 + k, none⟩ = some (.slice r2.a r2.n r2.cap) := c2
                have RD1 : Hid (Reads wo.drew r1.a r1.n r1.xs) := Lib.hid R1.out
                have RD2 : Hid (Reads wo.drew r2.a r2.n r2.xs) := Lib.hid R2.out
                cases hq : decide (r1.xs = r2.xs) with
                | true =>
                  go_wp2
                  go_region_held3 (fun w' => w'.cell? ⟨g1, o1 + k, none⟩ = some (.slice r1.a r1.n r1.cap) ∧ w'.cell? ⟨g2, o2 + k, none⟩ = some (.slice r2.a r2.n r2.cap)) (first | with_reducible exact ⟨d1', d2'⟩ | with_reducible exact ⟨f1', f2'⟩)
                    (first
                      | (go_at_call 91; refine (l08Same_any r1.a r2.a r1.n r2.n r1.cap r2.cap r1.xs r2.xs _ RD1.out RD2.out (by unfold maxLen; omega)).mono ?_; rintro e w5 ⟨rfl, hb⟩; rw [hq]; have f1' := (hb.cell (p := ⟨g1, o1 + k, none⟩) (World.block_lt_of_cell? _ _ d1')).trans d1'; have f2' := (hb.cell (p := ⟨g2, o2 + k, none⟩) (World.block_lt_of_cell? _ _ d2')).trans d2'))
                  have B1 : Hid (Below w4.heap.size w4 w5) := Lib.hid (below_go HB.out.drew hb (by show _ ≤ wo.heap.size; exact HB.out.size)); clear hb
                  have HE := Lib.hid (of_decide_eq_true hq)
                  clear hq
                  go_wp2
                  go_roundw
                  case rel =>
                    refine ⟨k + 1, by omega, by go_num, Lib.hid fun j h1 h2 hj => ?_, B1.out⟩
                    by_cases hjk : j = k
                    · subst hjk; rw [← HR1.out, ← HR2.out]; exact HE.out
                    · exact HS.out j h1 h2 (by omega)
                  case measure => simp [intOf]; omega
                | false =>
                  have hne := rows_ne rs ts k kr kt (by rw [← HR1.out, ← HR2.out]; exact of_decide_eq_false hq)
                  have HN := Lib.hid (decide_eq_false hne); clear hne
                  go_wp2
                  go_region_held3 (fun w' => w'.cell? ⟨g1, o1 + k, none⟩ = some (.slice r1.a r1.n r1.cap) ∧ w'.cell? ⟨g2, o2 + k, none⟩ = some (.slice r2.a r2.n r2.cap)) (first | with_reducible exact ⟨d1', d2'⟩ | with_reducible exact ⟨f1', f2'⟩)
                    (first
                      | (go_at_call 91; refine (l08Same_any r1.a r2.a r1.n r2.n r1.cap r2.cap r1.xs r2.xs _ RD1.out RD2.out (by unfold maxLen; omega)).mono ?_; rintro e w5 ⟨rfl, hb⟩; rw [hq]; have f1' := (hb.cell (p := ⟨g1, o1 + k, none⟩) (World.block_lt_of_cell? _ _ d1')).trans d1'; have f2' := (hb.cell (p := ⟨g2, o2 + k, none⟩) (World.block_lt_of_cell? _ _ d2')).trans d2'))
                  have B1 : Hid (Below w4.heap.size w4 w5) := Lib.hid (below_go HB.out.drew hb (by show _ ≤ wo.heap.size; exact HB.out.size)); clear hb
                  clear hq
                  go_wp2
                  go_ret2
                  exact ⟨by rw [HN.out]; rfl, BB.out.trans (B1.out.mono BB.out.size)⟩
              · have hkm : k = M := by omega
                have he := rows_eq rs ts HTL.out.symm (fun j h1 h2 => HS.out j h1 h2 (by have := HMe.out; omega))
                have HE := Lib.hid (decide_eq_true he); clear he hkm
                go_wp2
                go_ret2
                exact ⟨by rw [HE.out]; rfl, BB.out.trans (HB.out.mono BB.out.size)⟩
          · obtain ⟨rfl, rfl⟩ := Prod.mk.injEq .. ▸ (HM2.out.symm.trans hm2)
            have hfin := HM.out
            rw [mSA_second hi2] at hfin
            obtain ⟨rfl, rfl⟩ := Prod.mk.injEq .. ▸ hfin
            have t2 : ((3 : Int) == 0) = false := by simp
            clear hfin hi1 hi2 hm1 hm2
            go_wp2
            go_ret2
            exact ⟨rfl, BB.out⟩
        · obtain ⟨rfl, rfl⟩ := Prod.mk.injEq .. ▸ (HM1.out.symm.trans hm1)
          have hfin := HM.out
          rw [mSA_first hi1] at hfin
          obtain ⟨rfl, rfl⟩ := Prod.mk.injEq .. ▸ hfin
          have t2 : ((3 : Int) == 0) = false := by simp
          clear hfin hi1 hm1
          go_wp2
          go_ret2
          exact ⟨rfl, BB.out⟩
      · have t0 : (s != t) = true := by simp [hst]
        rw [if_neg hst] at hM
        obtain ⟨rfl, rfl⟩ := Prod.mk.injEq .. ▸ hM
        clear hM hst
        go_wp2
        go_ret2
        exact ⟨rfl, BB.out⟩

end Go.Proofs.Ytmlejlediflaaaa
