/- The number of colourings: the model. -/
import Derived.Test.YtelmdfkcclhhjaaCnt
namespace Go.Proofs.Ytelmdfkcclhhjaa
open Go.RowKit Go.ChangeShapes

set_option maxRecDepth 100000 in
set_option maxHeartbeats 4000000 in
theorem specCount_any {s : Int} {a : Option Addr} {n cap : Nat} {ls : List Int} {p : Int} {w : World} {fv fc : Int} (hr : Reads w a n ls) (hf : Fits ls) (hn : n ≤ 1048576) (_hp : (Lit.int .i64 p).wf = true) (hM : mCount s ls p = (fv, fc)) :
    Calls Try.prog 14 #[.agg #[.int .i64 s, .slice a n cap], .int .i64 p] w fun e w' => e = .returned (.tuple #[.int .i64 fv, .int .i64 fc]) ∧ Below w.heap.size w w' := by
  obtain ⟨i1, hj, hs0, hs1, hs2⟩ := info_parts infoSlice
  obtain ⟨i0, hi, hz0, hz1, hz2⟩ := info_parts infoInt
  have R := Lib.hid (hr.alloc (.cells #[.int .i64 s, .slice a n cap] 28)); clear hr
  have HF := Lib.hid hf; clear hf
  have A := Lib.hid (At2.new w (.int .i64 s) (.slice a n cap) 28)
  have BB := Lib.hid (below1 w (.cells #[.int .i64 s, .slice a n cap] 28))
  obtain ⟨qA1, qA2, qA3, qA4, qA5⟩ := A.out
  rcases prmCode_cases s ls p with ⟨hc, g1, g2⟩ | ⟨hc, g1⟩ | ⟨hc, g1, g2⟩
  · obtain ⟨b1, b2⟩ := isPrm_bd g2
    obtain ⟨i1', i2, _, _⟩ := (isBraid_iff s ls).1 g1
    obtain ⟨q, rfl⟩ : ∃ q : Nat, s = (q : Int) := ⟨s.toNat, by omega⟩
    have hq8 : q ≤ 8 := by omega
    have hq0 : 0 < q := by omega
    obtain ⟨pn, rfl⟩ : ∃ q : Nat, p = (q : Int) := ⟨p.toNat, by omega⟩
    have hlets := lets_of (cs := List.replicate q 0) g1 (by simp) q (by simp)
    rw [mCount_yes hc] at hM
    injection hM with hM1 hM2
    subst hM2
    have HL := Lib.hid hlets; have HFV := Lib.hid hM1; have HPZ := Lib.hid (isPrm_primeZ g2); have HPN := Lib.hid (isPrm_prmN g2); have HG1 := Lib.hid g1; have HG2 := Lib.hid g2
    have HOK := Lib.hid (chgS_ok (p := (pn : Int)) b1 hlets q)
    have hrk := rk_le (pn : Int) (chgS (pn : Int) ls q q) q
    clear hc g1 g2 hlets i1' i2 hM1
    go_enter Try.func14, Try.ntmps14
    go_wp2_with fail
    refine (l01Is_any (q : Int) a n cap ls _ R.out HF.out hn).mono ?_
    rw [HG1.out]
    rintro e w1 ⟨rfl, hb⟩
    clear qA1 qA2 qA3 qA4 qA5
    replace R := Lib.hid (R.out.below hb); replace A := Lib.hid (A.out.below hb)
    replace BB := Lib.hid (below_go BB.out hb (by simp)); clear hb
    go_wp2_with fail
    refine (l08Prime_any (pn : Int) _).mono ?_
    rw [HG2.out]
    rintro e w2 ⟨rfl, rfl⟩
    have zA := A.out.1
    go_wp2
    have G0 : Hid (GrowSS w1.heap.size (w1.alloc (.cells #[] 22)) (.slice (some ⟨w1.heap.size, 0, none⟩) 0 0) 0 []) := Lib.hid (GrowSS.empty w1)
    have B0 := Lib.hid (below1 w1 (.cells #[] 22))
    go_loopw [6, 7] (fun ov iv wr => ∃ i : Nat, i ≤ q ∧ iv = .int .i64 i ∧ (∃ x cd os, ov = .slice x i cd ∧ os.map RowV.xs = chgS (pn : Int) ls q i ∧ GrowSS w1.heap.size wr (.slice x i cd) i os) ∧ Below w1.heap.size w1 wr) (fun _ iv _ => q - (intOf iv).toNat)
    case atStart => exact ⟨0, Nat.zero_le _, rfl, ⟨_, _, [], rfl, rfl, G0.out⟩, B0.out⟩
    case round =>
      obtain ⟨i, hi2, rfl, ⟨x, cd, os, rfl, hos, hG⟩, hb⟩ := hrel
      clear G0 B0
      have GG := Lib.hid hG; have HOS := Lib.hid hos; have B1 := Lib.hid hb
      clear hG hos hb
      obtain ⟨W, hW⟩ : ∃ x, x = wr := ⟨_, rfl⟩
      subst hW
      have A1 := A.out.below B1.out
      obtain ⟨qA1, qA2, qA3, qA4, qA5⟩ := A1
      by_cases hlt : i < q
      · have zw := B1.out.size
        have i1' : (i : Int) < (q : Int) := by omega
        have i0' : 0 ≤ (i : Int) := by omega
        go_wp2_with (at_make; refine wpList_make_full W rfl _ _ 22 rfl W.heap.size 2 i0 (.int .i64 0) 1 Try.underlying22 hi hz0 hz1 .i64 .i64 _ _ q rfl rfl (by omega) (by omega) (by rw [hz2]; omega) (by unfold maxLen; omega) (Nat.le_refl _) ?_)
        intro w4 hown hgrow
        clear qA1 qA2 qA3 qA4 qA5
        have hb4 := Below.ofGrown hgrow
        have R0 := (own_madeR hown).1.1
        have c0 := R0.cellAt i hlt
        have f0 := R0.frozenAt i
        have z4 := (World.ownsRow.lt R0 W.heap.size rfl).2
        have hst := (R0.store i 1).1
        rw [show (List.replicate q (0 : Int)).set i 1 = unitL q i from rfl] at hst
        have RU := Lib.hid hst.reads
        have B4 := Lib.hid (hb4.setCell (p := ⟨W.heap.size, i, none⟩) (Nat.le_refl _) (.int .i64 1))
        clear hown hgrow hb4 R0 hst
        go_upto_region 11 with fail
        obtain ⟨V, hV⟩ : ∃ V, V = w4.setCell ⟨W.heap.size, i, none⟩ (.int .i64 1) := ⟨_, rfl⟩
        rw [← hV] at RU B4 ⊢
        clear hV c0 f0 z4
        have A2 := (A.out.below B1.out).below B4.out
        have RV := Lib.hid ((R.out.below B1.out).below B4.out)
        obtain ⟨qA1, qA2, qA3, qA4, qA5⟩ := A2
        go_wp2_with fail
        refine (l08Step_any a n cap ls (pn : Int) (some ⟨W.heap.size, 0, none⟩) q q (unitL q i) V RV.out hn HL.out RU.out (by omega) (by omega) b2 (unit_cols b1 q i)).mono ?_
        rintro e w5 ⟨a2, c2, rfl, ho, hb⟩
        clear qA1 qA2 qA3 qA4 qA5
        obtain ⟨g2, rfl, hg1, hg2⟩ := ho.block hq0
        have zV := B4.out.size
        have B5 := Lib.hid (below_go B4.out hb zV)
        have hct := (tint_cols (p := (pn : Int)) b1 HL.out i).at i (by rw [tint_len]; exact hlt)
        have HCR := Lib.hid (chgR_mod (pn : Int) ls q i)
        have HSS := Lib.hid (chgS_succ (pn : Int) ls q i)
        obtain ⟨t, ht⟩ : ∃ t, t = tintF (pn : Int) ls (unitL q i) := ⟨_, rfl⟩
        rw [← ht] at ho hct HCR
        have cx : w5.cell? ⟨g2, i, none⟩ = some (.int .i64 (ent t i)) := ho.cellAt i hlt
        have fx := ho.frozenAt i
        have hst := (ho.store i ((ent t i + pn - 1) % (pn : Int))).1
        rw [← HCR.out] at hst
        have OT := Lib.hid (hst.mono zV)
        have hct' : 0 ≤ ent t i ∧ ent t i < (pn : Int) := hct
        obtain ⟨u, hu⟩ : ∃ u, u = ent t i := ⟨_, rfl⟩
        rw [← hu] at cx hct' OT
        have e4 : (u + (pn : Int) - 1).tmod (pn : Int) = (u + (pn : Int) - 1) % (pn : Int) := Int.tmod_eq_emod_of_nonneg (by omega)
        have bz : 0 ≤ (u + (pn : Int) - 1) % (pn : Int) ∧ (u + (pn : Int) - 1) % (pn : Int) < (pn : Int) := ⟨Int.emod_nonneg _ (by omega), Int.emod_lt_of_pos _ (by omega)⟩
        have w1' : IntKind.i64.wrap (u + (pn : Int)) = u + (pn : Int) := IntWalk.i64_in _ (by omega)
        have w2' : IntKind.i64.wrap (u + (pn : Int) - 1) = u + (pn : Int) - 1 := IntWalk.i64_in _ (by omega)
        obtain ⟨z, hz⟩ : ∃ z, z = (u + (pn : Int) - 1) % (pn : Int) := ⟨_, rfl⟩
        rw [← hz] at e4 bz OT
        have w3' : IntKind.i64.wrap z = z := IntWalk.i64_in _ (by omega)
        have pne : ¬ (pn : Int) = 0 := by omega
        have B6 := Lib.hid (B5.out.setCell (p := ⟨g2, i, none⟩) (by show W.heap.size ≤ g2; omega) (.int .i64 z))
        clear ht hst hct hu hz bz ho hb hct'
        go_upto_region 13 with fail
        obtain ⟨Y, hY⟩ : ∃ Y, Y = w5.setCell ⟨g2, i, none⟩ (.int .i64 z) := ⟨_, rfl⟩
        rw [← hY] at OT B6 ⊢
        clear hY cx fx e4 w1' w2' w3'
        have G2 := Lib.hid (GG.out.below B6.out)
        have B7 := Lib.hid (B1.out.trans (B6.out.mono zw))
        have hgl := GG.out.lt
        have zY := B6.out.size
        go_wp2_with (at_builtin; refine wpList_append_own_at _ rfl _ _ 32 rfl w1.heap.size 22 i1 (.slice none 0 0) 1 24 Try.underlying32 hj hs0 hs1 hs2 rfl (by decide) _ _ _ rfl (World.ownsRow.alloc G2.out.own _) ⟨Y.heap.size, 0, none⟩ 1 1 [.slice (some ⟨g2, 0, none⟩) q c2] rfl rfl (cell_one_new Y _ _) (fun u hu => by simp at hu; subst hu; rfl) (by unfold maxLen; omega) (by omega) (by simp; omega) ?_)
        intro v' w6 hown hgrow _ hat
        have hgx := G2.out.append (OT.out.mono zw) (by omega) (fun y hy => by have := hgl.1 y hy; omega) (fun j hj => by have := hgl.2 j hj; omega) hown hgrow (by simpa using hat)
        have hbx := G2.out.appBelow B7.out.size hgrow
        obtain ⟨a2, c2, rfl⟩ := hgx.form
        have GX := Lib.hid hgx
        have BX := Lib.hid (B7.out.trans hbx)
        have wi : IntKind.i64.wrap ((i : Int) + 1) = (i : Int) + 1 := IntWalk.i64_in _ (by omega)
        clear hgx hbx hown hgrow hat
        go_wp2
        go_roundw
        case rel => exact ⟨i + 1, by omega, by go_num, ⟨a2, c2, _, rfl, by rw [List.map_append, HOS.out, HSS.out]; rfl, GX.out⟩, BX.out⟩
        case measure => simp [intOf]; omega
      · have hiq : i = q := by omega
        subst hiq
        obtain ⟨rr, hrr⟩ : ∃ r, r = rk (pn : Int) (chgS (pn : Int) ls i i) i := ⟨_, rfl⟩
        rw [← hrr] at hrk
        have ws : IntKind.i64.wrap ((i : Int) - (rr : Nat)) = fv := (IntWalk.i64_in _ (by omega)).trans (by rw [hrr]; exact HFV.out)
        have hme := mkM_eq (A := chgS (pn : Int) ls i i) (q := i) (fun r hr => (HOK.out r hr).1)
        rw [chgS_len] at hme
        have hos := HOS.out
        rw [← hme] at hos
        obtain ⟨g, b, s', c, rfl, hH, hgB, hbB⟩ := GG.out.hmx hos hq0 hq0
        have hfz : ∀ u v, u < i → v < i → 0 ≤ eL (chgS (pn : Int) ls i i) u v ∧ eL (chgS (pn : Int) ls i i) u v < (pn : Int) := fun u v hu hv => by
          have hl : u < (chgS (pn : Int) ls i i).length := by rw [chgS_len]; exact hu
          have := (HOK.out _ (List.getElem_mem hl)).2 v
          unfold eL
          rw [show (chgS (pn : Int) ls i i).getD u [] = (chgS (pn : Int) ls i i)[u] by simp [List.getD, hl]]
          exact this
        have HH := Lib.hid hH; have HFZ := Lib.hid hfz; have HBB := Lib.hid (fun u (hu : u < i) => (hbB u hu).1); have HRR := Lib.hid (show rk (pn : Int) (mkM i i (eL (chgS (pn : Int) ls i i))) i = rr by rw [hme, hrr])
        have zw := B1.out.size
        clear hrr hme hos hH hfz hbB hrk
        clear qA1 qA2 qA3 qA4 qA5
        have A3 := A.out.below B1.out
        have hk0 : W.drew.cell? ⟨w.heap.size, 0, none⟩ = some (.int .i64 i) := A3.2.1
        have hk9 : W.cell? ⟨w.heap.size, 0, none⟩ = some (.int .i64 i) := A3.2.1
        have t9 : ¬ ((i : Int) < (i : Int)) := by omega
        have H2 := Lib.hid (HH.out.below (Below.refl _ _).drew)
        go_upto_region 14 with fail
        clear hk9
        go_region_held3 (fun w' => w'.cell? ⟨w.heap.size, 0, none⟩ = some (.int .i64 i)) (first | exact hk0 | exact hk1)
          (first
            | (go_at_call 49; refine (l08Rank_any w1.heap.size g i cd b s' c (eL (chgS (pn : Int) ls i i)) pn _ H2.out hgB HBB.out HFZ.out hq0 hq8 HPZ.out HPN.out (by omega) (by omega)).mono ?_; rw [HRR.out]; rintro e w3 ⟨rfl, hb3⟩; have hk1 := (hb3.cell (p := ⟨w.heap.size, 0, none⟩) zA).trans hk0))
        all_goals go_wp2
        all_goals go_ret2
        all_goals exact ⟨rfl, (below_go BB.out B1.out BB.out.size).drew.trans (hb3.mono (by have := BB.out.size; omega))⟩
  · rw [mCount_no hc (by decide)] at hM
    injection hM with hM1 hM2
    subst hM1; subst hM2
    have HG1 := Lib.hid g1
    clear hc g1
    go_enter Try.func14, Try.ntmps14
    go_wp2_with fail
    refine (l01Is_any s a n cap ls _ R.out HF.out hn).mono ?_
    rw [HG1.out]
    rintro e w1 ⟨rfl, hb⟩
    clear qA1 qA2 qA3 qA4 qA5
    replace BB := Lib.hid (below_go BB.out hb (by simp)); clear hb
    go_wp2
    go_ret2
    exact ⟨rfl, BB.out⟩
  · rw [mCount_no hc (by decide)] at hM
    injection hM with hM1 hM2
    subst hM1; subst hM2
    have HG1 := Lib.hid g1; have HG2 := Lib.hid g2
    clear hc g1 g2
    go_enter Try.func14, Try.ntmps14
    go_wp2_with fail
    refine (l01Is_any s a n cap ls _ R.out HF.out hn).mono ?_
    rw [HG1.out]
    rintro e w1 ⟨rfl, hb⟩
    clear qA1 qA2 qA3 qA4 qA5
    replace BB := Lib.hid (below_go BB.out hb (by simp)); clear hb
    go_wp2_with fail
    refine (l08Prime_any p _).mono ?_
    rw [HG2.out]
    rintro e w2 ⟨rfl, rfl⟩
    go_wp2
    go_ret2
    exact ⟨rfl, BB.out⟩

end Go.Proofs.Ytelmdfkcclhhjaa
