/- The model's characteristic polynomials: the walk. -/
import Derived.Test.YtelmdfkcclhhjaaSChr
import Derived.OwnWalk
namespace Go.Proofs.Ytelmdfkcclhhjaa
open Go.RowKit Go.ChangeShapes

set_option maxRecDepth 100000 in
set_option maxHeartbeats 4000000 in
theorem l09Char_any (ad : Option Addr) (m ca : Nat) (rs : List RowV) (f : Nat → Nat → Int) (w : World) (hr : ReadsSS w ad m rs) (hX : rs.map RowV.xs = mkM m m f) (h1 : 1 ≤ m) (hm : m ≤ 28) (hf : Rem m m f) :
    Calls Try.prog 65 #[.slice ad m ca] w fun e w' => ∃ g, e = .returned (.slice (some ⟨g, 0, none⟩) (m + 1) (m + 1)) ∧ w.heap.size ≤ g ∧ Own g w' (some ⟨g, 0, none⟩) (m + 1) (m + 1) (coL m f m) ∧ Below w.heap.size w w' := by
  obtain ⟨i0, hi, hz0, hz1, hz2⟩ := info_parts infoInt
  have HR := Lib.hid hr; have HX := Lib.hid hX; have HF := Lib.hid hf
  clear hr hX hf
  have w0 : IntKind.i64.wrap ((m : Int) + 1) = (m : Int) + 1 := IntWalk.i64_in _ (by omega)
  go_enter Try.func65, Try.ntmps65
  go_upto_region 2 with fail
  go_cut [4, 5] (fun s4 s5 wx => ∃ go gn b s c cn, s4 = .slice (some ⟨go, 0, none⟩) (m + 1) (m + 1) ∧ w.heap.size ≤ go ∧ Own go wx (some ⟨go, 0, none⟩) (m + 1) (m + 1) (List.replicate (m + 1) 0) ∧ s5 = .slice (some ⟨gn, 0, none⟩) m cn ∧ RMx wx gn m (fun _ => m) b s c (chN m f 0) ∧ gn ≠ go ∧ (∀ i, i < m → b i ≠ go) ∧ Below w.heap.size w wx)
  case first =>
    have hmm : ((m + 1 : Nat) : Int) = (m : Int) + 1 := by push_cast; rfl
    obtain ⟨wm, hrun, hown, hgrow⟩ := run_make_full (P := Try.prog) w.drew w.drew.heap.size 22 2 i0 (.int .i64 0) 1 Try.underlying22 hi hz0 hz1 .i64 .i64 (m + 1) (by rw [hz2]; omega) (by unfold maxLen; omega) (Nat.le_refl _)
    rw [hmm] at hrun
    go_region_law (first
      | (go_simp; go_at_call 96; refine (l09Unit_any m 0 _ hm).mono ?_; rintro e wu ⟨a, cd, os, rfl, hos, hG, hb⟩; obtain ⟨wn, hrun2, hown2, hgrow2⟩ := run_make_full (P := Try.prog) wu wu.heap.size 22 2 i0 (.int .i64 0) 1 Try.underlying22 hi hz0 hz1 .i64 .i64 (m + 1) (by rw [hz2]; omega) (by unfold maxLen; omega) (Nat.le_refl _); rw [hmm] at hrun2))
    all_goals go_wp2_with fail
    all_goals go_meet
    · have hbm := Below.ofGrown hgrow
      have hz := (World.ownsRow.lt hown w.drew.heap.size rfl).2
      have ho := (own_madeR (n := m + 1) (by rw [Nat.mul_one] at hown; exact hown)).1.1
      obtain ⟨gn, b, s, c, rfl, hH, hB, hbb⟩ := hG.hmx hos (by omega) (by omega)
      have hb2 : Below w.heap.size w wm := (Below.refl w.heap.size w).drew.trans hbm
      refine ⟨_, gn, b, s, c, cd, rfl, Nat.le_refl _, ho.below hb, rfl, (hH.toRMx.congr fun i j _ _ => by simp [diaF, chN, chS]), ?_, fun i hi => ?_, below_go hb2 hb hb2.size⟩
      · have : w.heap.size < wm.heap.size := hz
        omega
      · have : w.heap.size < wm.heap.size := hz
        have := (hbb i hi).1
        omega
    · have hbm := Below.ofGrown hgrow2
      have ho := (own_madeR (n := m + 1) (by rw [Nat.mul_one] at hown2; exact hown2)).1.1
      obtain ⟨gn, b, s, c, rfl, hH, hB, hbb⟩ := hG.hmx hos (by omega) (by omega)
      have hzz : w.heap.size ≤ wu.heap.size := hb.size
      refine ⟨_, gn, b, s, c, cd, rfl, hzz, ho, rfl, ((hH.toRMx.below hbm).congr fun i j _ _ => by simp [diaF, chN, chS]), ?_, fun i hi => ?_, below_go (((Below.refl w.heap.size w).drew).trans hb) hbm hzz⟩
      · have := hH.lt
        omega
      · have := (hbb i hi).2
        omega
  case rest =>
    obtain ⟨go, gn, b, s, c, cn, rfl, hgo, hO, rfl, hN, hne1, hne2, hb⟩ := hcut
    clear w0
    obtain ⟨w1, hw1⟩ : ∃ x, x = wc := ⟨_, rfl⟩
    subst hw1
    have c1 := hO.cellAt m (Nat.lt_succ_self m)
    have f1 := hO.frozenAt m
    have z1 := (World.ownsRow.lt hO go rfl).2
    have hst := (hO.store m 1).1
    rw [coL_start m f] at hst
    have c1' : w1.cell? ⟨go, m, none⟩ = some (.int .i64 0) := by rw [c1]; congr 2; simp [List.getD]
    have O1 := Lib.hid hst
    have N1 := Lib.hid (hN.far (p := ⟨go, m, none⟩) (Ne.symm hne1) (fun i hi => Ne.symm (hne2 i hi)) (.int .i64 1))
    have B1 := Lib.hid (hb.setCell (p := ⟨go, m, none⟩) hgo (.int .i64 1))
    have HN2 := Lib.hid hne2
    have m1' : (m : Int) < (m : Int) + 1 := by omega
    have m2' : ((m + 1 : Nat) : Int) = (m : Int) + 1 := by push_cast; rfl
    clear c1 hst hO hN hb hne2
    go_upto_region 4 with fail
    obtain ⟨V, hV⟩ : ∃ V, V = w1.setCell ⟨go, m, none⟩ (.int .i64 1) := ⟨_, rfl⟩
    rw [← hV] at O1 N1 B1 ⊢
    clear hV c1' f1 m1' m2' z1
    go_wp2
    go_loopw [5, 6] (fun pv kv wr => ∃ k : Nat, k ≤ m ∧ kv = .int .i64 ((k : Int) + 1) ∧ (∃ gn b s c cn, pv = .slice (some ⟨gn, 0, none⟩) m cn ∧ RMx wr gn m (fun _ => m) b s c (chN m f k) ∧ gn ≠ go ∧ ∀ i, i < m → b i ≠ go) ∧ Own go wr (some ⟨go, 0, none⟩) (m + 1) (m + 1) (coL m f k) ∧ Below w.heap.size w wr) (fun _ kv _ => m + 1 - (intOf kv).toNat)
    case atStart => exact ⟨0, Nat.zero_le _, rfl, ⟨gn, b, s, c, cn, rfl, N1.out, hne1, HN2.out⟩, O1.out, B1.out⟩
    case round =>
      obtain ⟨k, hk, rfl, ⟨gn, b, s, c, cn, rfl, hN, hn1, hn2⟩, hO, hb⟩ := hrel
      clear O1 N1 B1 HN2 hne1
      have NN := Lib.hid hN; have OO := Lib.hid hO; have BB := Lib.hid hb; have HNE := Lib.hid hn2; clear hN hO hb hn2
      obtain ⟨W, hW⟩ : ∃ x, x = wr := ⟨_, rfl⟩
      subst hW
      by_cases hlt : k < m
      · obtain ⟨d, hd⟩ : ∃ d : Nat, d = m - (k + 1) := ⟨_, rfl⟩
        have hle : (k : Int) + 1 ≤ (m : Int) := by omega
        obtain ⟨ts, hts, htx⟩ := NN.out.reads (by omega)
        have HTS := Lib.hid hts; have HTX := Lib.hid htx
        have HNR := Lib.hid (chN_rem m f k)
        clear hts htx
        go_wp2_with fail
        refine (l09Times_any ad (some ⟨gn, 0, none⟩) m ca cn rs ts f (chN m f k) W (HR.out.below BB.out) HX.out HTS.out HTX.out hm HF.out HNR.out).mono ?_
        rintro e w5 ⟨an, cd, os, rfl, hos, hG, hb⟩
        obtain ⟨gx, b2, s2, c2, rfl, hH, hgB, hbB⟩ := hG.hmx hos (by omega) (by omega)
        have zo := (World.ownsRow.lt OO.out go rfl).2
        have zW := BB.out.size
        have O2 := Lib.hid (OO.out.below hb)
        have B2 := Lib.hid (below_go BB.out hb zW)
        have z5 := hb.size
        have HCO : Hid (∀ W2, Own go W2 (some ⟨go, 0, none⟩) (m + 1) (m + 1) (coL m f k) → W2.cell? ⟨go, d + 1, none⟩ = some (.int .i64 (chC m f k))) := Lib.hid fun W2 h => by
          rw [h.cellAt (d + 1) (by omega), coL_at (d + 1) (by omega), show d + 1 = m - k by omega, coA_at hk]
        have bc := chC_rem m f k
        have HN : Hid (∀ i j, i < m → j < m → addTo (chC m f k) (mulF m f (chN m f k)) m i j = chN m f (k + 1) i j) := Lib.hid fun i j hi _ => by rw [chN_succ]; exact addTo_end hi j
        have HCS := Lib.hid (chC_succ m f k)
        have HG := Lib.hid (mulF_rem m f (chN m f k))
        obtain ⟨q, hq⟩ : ∃ q, q = chC m f k := ⟨_, rfl⟩
        rw [← hq] at HCO HN bc
        obtain ⟨h, hh⟩ : ∃ h, h = mulF m f (chN m f k) := ⟨_, rfl⟩
        rw [← hh] at HG HN hH
        have P0 : Hid (HMx w5 gx m (fun _ => m) b2 s2 c2 (addTo q h 0)) := Lib.hid { hH with el := (hH.toRMx.congr fun i j _ _ => (addTo_zero q h i j).symm).el }
        have HB0 : Hid (∀ i, i < m → W.heap.size ≤ b2 i) := Lib.hid fun i hi => (hbB i hi).1
        clear hq hh hos hG hb hH hbB HTS HTX NN OO BB HNR HNE
        go_wp2
        go_loopw [7] (fun tv wr => ∃ t : Nat, t ≤ m ∧ tv = .int .i64 t ∧ (∃ b s c, HMx wr gx m (fun _ => m) b s c (addTo q h t) ∧ ∀ i, i < m → W.heap.size ≤ b i) ∧ Own go wr (some ⟨go, 0, none⟩) (m + 1) (m + 1) (coL m f k) ∧ W.heap.size ≤ wr.heap.size ∧ Below w.heap.size w wr) (fun tv _ => m - (intOf tv).toNat)
        case atStart => exact ⟨0, Nat.zero_le _, rfl, ⟨b2, s2, c2, P0.out, HB0.out⟩, O2.out, z5, B2.out⟩
        case round =>
          obtain ⟨t, ht, rfl, ⟨b, s, c, hP, hbB⟩, hO, hzr, hb⟩ := hrel
          clear P0 HB0 O2 B2 z5
          have PP := Lib.hid hP; have OO := Lib.hid hO; have BB := Lib.hid hb; have HBB := Lib.hid hbB; clear hP hO hb hbB
          obtain ⟨W2, hW2⟩ : ∃ x, x = wr := ⟨_, rfl⟩
          subst hW2
          by_cases hlm : t < m
          · have c0 : W2.cell? ⟨gx, t, none⟩ = some (.slice (some ⟨b t, s t, none⟩) m (c t)) := PP.out.hd t hlm
            have HRD : Hid (Reads W2 (some ⟨b t, s t, none⟩) m ((List.range m).map (addTo q h t t))) := Lib.hid ⟨by simp, .inr ⟨b t, s t, rfl, fun j hj => by rw [range_getD m j _ hj]; exact PP.out.el t j hlm hj⟩⟩
            obtain ⟨bt, hbt⟩ : ∃ x, x = b t := ⟨_, rfl⟩
            obtain ⟨st, hst⟩ : ∃ x, x = s t := ⟨_, rfl⟩
            obtain ⟨ct, hct⟩ : ∃ x, x = c t := ⟨_, rfl⟩
            rw [← hbt, ← hst] at c0 HRD
            rw [← hct] at c0
            clear hbt hst hct
            have t1' : (t : Int) < (m : Int) := by omega
            go_wp2_with fail
            refine (l01Own_any (some ⟨bt, st, none⟩) m ct ((List.range m).map (addTo q h t t)) W2 HRD.out (by omega)).mono ?_
            rintro e w6 ⟨ax, cx, rfl, ho, hb⟩
            obtain ⟨gr, rfl, hg1, hg2⟩ := ho.block (by omega)
            have P2 := Lib.hid (PP.out.below hb)
            have O2 := Lib.hid (OO.out.below hb)
            have zO := (World.ownsRow.lt OO.out go rfl).2
            have zb := BB.out.size
            have B2 := Lib.hid (below_go BB.out hb zb)
            have zP := PP.out.lt
            have HBL : Hid (∀ i, i < m → b i < W2.heap.size) := Lib.hid fun i hi => World.block_lt_of_cell? _ _ (PP.out.el i 0 hi (by omega))
            have cr := ho.cellAt t hlm
            rw [range_getD m t _ hlm, addTo_at] at cr
            have fr := ho.frozenAt t
            have bu := HG.out t t hlm hlm
            have c2' := HCO.out _ O2.out
            have hst2 := (ho.store t ((h t t + q) % 10007)).1
            have hse : ((List.range m).map (addTo q h t t)).set t ((h t t + q) % 10007) = (List.range m).map (addTo q h (t + 1) t) := by
              refine List.ext_getElem (by simp) fun j h1 h2 => ?_
              rw [List.getElem_set]
              simp only [List.getElem_map, List.getElem_range]
              rw [← addTo_upd q h t t j]
              unfold updF
              by_cases e : t = j
              · subst e; rw [if_pos rfl, if_pos ⟨rfl, rfl⟩]
              · rw [if_neg e, if_neg (by omega)]
            rw [hse] at hst2
            have RX := Lib.hid hst2
            obtain ⟨u, hu⟩ : ∃ x, x = h t t := ⟨_, rfl⟩
            have HSM := Lib.hid (show (h t t + q) % 10007 = (u + q) % 10007 by rw [hu])
            rw [← hu] at cr bu
            have w1 : IntKind.i64.wrap ((m : Int) - ((k : Int) + 1)) = (d : Int) := (IntWalk.i64_in _ (by omega)).trans (by omega)
            have w2 : IntKind.i64.wrap ((d : Int) + 1) = (d : Int) + 1 := IntWalk.i64_in _ (by omega)
            have w3 : IntKind.i64.wrap (u + q) = u + q := IntWalk.i64_in _ (by omega)
            have e4 : (u + q).tmod 10007 = (u + q) % 10007 := Int.tmod_eq_emod_of_nonneg (by omega)
            have b5 := mod_rem (u + q)
            obtain ⟨z, hz⟩ : ∃ z, z = (u + q) % 10007 := ⟨_, rfl⟩
            rw [← hz] at e4 b5 HSM
            have w5' : IntKind.i64.wrap z = z := IntWalk.i64_in _ (by omega)
            rw [HSM.out] at RX
            have d0 : 0 ≤ (d : Int) + 1 := by omega
            have d1 : (d : Int) + 1 < (m : Int) + 1 := by omega
            have d3 : ((m + 1 : Nat) : Int) = (m : Int) + 1 := by push_cast; rfl
            have d2 : ((d : Int) + 1).toNat = d + 1 := by omega
            have hgr : W.heap.size ≤ gr := by omega
            have zgo : go < W2.heap.size := zO
            have hggr : gr ≠ gx := by omega
            clear PP OO BB hb ho hst2 hse hu hz bu b5 hd
            go_wp2
            go_still_tail 16, (by kernel_rfl)
            change wpList _ _ _ _ _ w6.drew
            obtain ⟨U, hU⟩ : ∃ U, U = w6.drew := ⟨_, rfl⟩
            have cU : U.cell? ⟨gr, t, none⟩ = some (.int .i64 u) := by rw [hU]; exact cr
            have fU : U.frozen? ⟨gr, t, none⟩ = false := by rw [hU]; exact fr
            have zU : gr < U.heap.size := by rw [hU]; exact hg2
            have PU := Lib.hid ((P2.out.below (Below.refl _ _).drew).far (p := ⟨gr, t, none⟩) hggr (fun i hi => by have := HBL.out i hi; show gr ≠ b i; omega) (.int .i64 z))
            have RU : Hid (Own W2.heap.size (U.setCell ⟨gr, t, none⟩ (.int .i64 z)) (some ⟨gr, 0, none⟩) m cx ((List.range m).map (addTo q h (t + 1) t))) := Lib.hid (by rw [hU]; exact RX.out)
            have OU : Hid (Own go (U.setCell ⟨gr, t, none⟩ (.int .i64 z)) (some ⟨go, 0, none⟩) (m + 1) (m + 1) (coL m f k)) := Lib.hid (by rw [hU]; exact Own.farSet (O2.out.below (Below.refl _ _).drew) (p := ⟨gr, t, none⟩) (by show gr ≠ go; omega) _)
            have BU : Hid (Below w.heap.size w (U.setCell ⟨gr, t, none⟩ (.int .i64 z))) := Lib.hid (by rw [hU]; exact B2.out.drew.setCell (p := ⟨gr, t, none⟩) (by show w.heap.size ≤ gr; omega) _)
            have zU2 : W.heap.size ≤ U.heap.size := by omega
            rw [← hU] at PU ⊢
            clear hU cr fr c2' w1 w2 w3 e4 w5' d0 d1 d2 d3 RX P2 O2 B2 HSM
            go_upto_region 13 with fail
            obtain ⟨V, hV⟩ : ∃ V, V = U.setCell ⟨gr, t, none⟩ (.int .i64 z) := ⟨_, rfl⟩
            have zV : W.heap.size ≤ V.heap.size := by rw [hV]; simpa [World.setCell] using zU2
            rw [← hV] at PU RU OU BU ⊢
            clear hV cU fU zU zU2
            have cV : V.cell? ⟨gx, t, none⟩ = some (.slice (some ⟨b t, s t, none⟩) m (c t)) := PU.out.hd t hlm
            have fV := PU.out.fg t
            have PX := Lib.hid (PU.out.put (f' := addTo q h (t + 1)) (i := t) (bn := gr) (sn := 0) (cn := cx) hlm hggr (fun j hj => by rw [Nat.zero_add, RU.out.cellAt j hj, range_getD m j _ hj]) (fun x j _ hx _ => by
              rw [← addTo_upd q h t x j]
              unfold updF
              rw [if_neg (by omega)]))
            have OX : Hid (Own go (V.setCell ⟨gx, t, none⟩ (.slice (some ⟨gr, 0, none⟩) m cx)) (some ⟨go, 0, none⟩) (m + 1) (m + 1) (coL m f k)) := Lib.hid (Own.farSet OU.out (p := ⟨gx, t, none⟩) (by show gx ≠ go; omega) _)
            have BX := Lib.hid (BU.out.setCell (p := ⟨gx, t, none⟩) (by show w.heap.size ≤ gx; omega) (.slice (some ⟨gr, 0, none⟩) m cx))
            have zX : W.heap.size ≤ (V.setCell ⟨gx, t, none⟩ (.slice (some ⟨gr, 0, none⟩) m cx)).heap.size := by simpa [World.setCell] using zV
            have HBX : Hid (∀ i, i < m → W.heap.size ≤ (fun x => if x = t then gr else b x) i) := Lib.hid fun i hi => by
              by_cases e : i = t
              · simp only [if_pos e]; exact hgr
              · simp only [if_neg e]; exact HBB.out i hi
            go_wp2
            go_roundw
            case rel => exact ⟨t + 1, by omega, by go_num, ⟨_, _, _, PX.out, HBX.out⟩, OX.out, zX, BX.out⟩
            case measure => simp [intOf]; omega
          · have htm : t = m := by omega
            subst htm
            have P2 := Lib.hid (PP.out.toRMx.congr (f' := chN t f (k + 1)) HN.out)
            obtain ⟨ts, hts, htx⟩ := P2.out.reads (by omega)
            have HTS := Lib.hid hts; have HTX := Lib.hid htx
            have HNR := Lib.hid (chN_rem t f (k + 1))
            have c1' : ((k + 1 : Nat) : Int) = (k : Int) + 1 := by push_cast; rfl
            have hcs := HCS.out
            rw [c1', ← neg_mul_mod] at hcs
            have HMR := Lib.hid (mulF_rem t f (chN t f (k + 1)))
            have bt := mod_rem (sumT (fun i => mulF t f (chN t f (k + 1)) i i) t)
            rw [show sumT (fun i => mulF t f (chN t f (k + 1)) i i) t % 10007 = trF t (mulF t f (chN t f (k + 1))) from rfl] at bt
            have bi := invF_rem ((k : Int) + 1)
            have bo := chC_rem t f (k + 1)
            have hup := coL_upd (f := f) hlt
            obtain ⟨v, hv⟩ : ∃ v, v = chC t f (k + 1) := ⟨_, rfl⟩
            rw [← hv] at hcs bo hup
            rw [← hd] at hup
            obtain ⟨tr, htr⟩ : ∃ x, x = trF t (mulF t f (chN t f (k + 1))) := ⟨_, rfl⟩
            obtain ⟨iv, hiv⟩ : ∃ x, x = invF ((k : Int) + 1) := ⟨_, rfl⟩
            rw [← htr] at bt hcs
            rw [← hiv] at bi hcs
            have m1 := rem_mul bt bi
            have HTR := Lib.hid htr; have HIV := Lib.hid hiv; have HV := Lib.hid hcs; have HUP := Lib.hid hup
            have zb := BB.out.size
            have zg := (World.ownsRow.lt OO.out go rfl).2
            have R2 := Lib.hid (HR.out.below BB.out)
            clear PP hts htx hcs htr hiv hup c1' hv
            have w1 : IntKind.i64.wrap ((t : Int) - ((k : Int) + 1)) = (d : Int) := (IntWalk.i64_in _ (by omega)).trans (by omega)
            have hks := inv_small k (by omega)
            have w2 : IntKind.i64.wrap (-tr) = -tr := IntWalk.i64_in _ (by omega)
            have m2 : -100120036 ≤ -tr * iv ∧ -tr * iv ≤ 0 := by rw [Int.neg_mul]; omega
            have w4 : IntKind.i64.wrap (-tr * iv) = -tr * iv := IntWalk.i64_in _ (by omega)
            have d1 : (d : Int) < (t : Int) + 1 := by omega
            have d3 : ((t + 1 : Nat) : Int) = (t : Int) + 1 := by push_cast; rfl
            have w3 : IntKind.i64.wrap ((k : Int) + 1 + 1) = (k : Int) + 1 + 1 := IntWalk.i64_in _ (by omega)
            clear hd
            go_upto_region 14 with fail
            go_wp2_with fail
            refine (l09Times_any ad (some ⟨gx, 0, none⟩) t ca cd rs ts f (chN t f (k + 1)) W2 R2.out HX.out HTS.out HTX.out hm HF.out HNR.out).mono ?_
            rintro e w6 ⟨an2, cd2, os2, rfl, hos, hG, hb⟩
            have HS2 := Lib.hid hG.ownSS.reads; have HSX := Lib.hid hos
            have P3 := Lib.hid (P2.out.below hb)
            have O3 := Lib.hid (OO.out.below hb)
            have B3 := Lib.hid (below_go BB.out hb zb)
            clear hG hos hb P2 OO BB
            go_wp2_with fail
            refine (l09Trace_any an2 t cd2 os2 (mulF t f (chN t f (k + 1))) w6 HS2.out HSX.out hm HMR.out).mono ?_
            rw [← HTR.out]
            rintro e w7 ⟨rfl, rfl⟩
            go_wp2_with fail
            refine (l09Inverse_any ((k : Int) + 1) _ hks.1 hks.2).mono ?_
            rw [← HIV.out]
            rintro e w7 ⟨rfl, rfl⟩
            go_wp2_with fail
            refine (l09Mod_any (-tr * iv) _).mono ?_
            rw [← HV.out]
            rintro e w7 ⟨rfl, rfl⟩
            have cd0 := O3.out.cellAt d (by omega)
            have fd := O3.out.frozenAt d
            have hst := (O3.out.store d v).1
            rw [HUP.out] at hst
            have O4 := Lib.hid hst
            have P4 := Lib.hid (P3.out.far (p := ⟨go, d, none⟩) (by show go ≠ gx; omega) (fun i hi => by have := HBB.out i hi; show go ≠ b i; omega) (.int .i64 v))
            have B4 := Lib.hid (B3.out.setCell (p := ⟨go, d, none⟩) hgo (.int .i64 v))
            have zz3 := (World.ownsRow.lt O3.out go rfl).2
            have HNE2 : Hid (∀ i, i < t → b i ≠ go) := Lib.hid fun i hi => by have := HBB.out i hi; omega
            have hgx : gx ≠ go := by omega
            clear hst
            go_wp2
            go_roundw
            case rel => exact ⟨k + 1, by omega, by push_cast; rfl, ⟨gx, b, s, c, cd, rfl, P4.out, hgx, HNE2.out⟩, O4.out, B4.out⟩
            case measure => simp [intOf]; omega
      · have hkm : k = m := by omega
        subst hkm
        go_wp2
        go_ret
        exact ⟨go, rfl, hgo, OO.out, BB.out⟩

end Go.Proofs.Ytelmdfkcclhhjaa
