/- The model's elimination: the walk. -/
import Derived.Test.YtelmdfkcclhhjaaMSo1
import Derived.StillTailTactics
import Derived.Deep.RegionLaw
import Derived.Deep.AppendLies
namespace Go.Proofs.Ytelmdfkcclhhjaa
open Go.RowKit Go.ChangeShapes

/-- What the model's elimination gives. -/
def RetSolve (w : World) (m : Nat) (A : Nat → Nat → Int) (e : Ending) (w' : World) : Prop :=
  Below w.heap.size w w' ∧ ((e = .returned (.tuple #[.int .i64 0, .slice none 0 0]) ∧ Stuck m (2 * m) (augF m A)) ∨
    ∃ d g a cd os, e = .returned (.tuple #[.int .i64 d, .slice a m cd]) ∧ (0 < d ∧ d < 10007) ∧ GJ m (2 * m) (augF m A) m g d ∧ os.map RowV.xs = mkM m m (fun i t => g i (m + t)) ∧ GrowSS w.heap.size w' (.slice a m cd) m os)

set_option maxRecDepth 100000 in
set_option maxHeartbeats 8000000 in
theorem l09Solve_any (ad : Option Addr) (m ca : Nat) (rs : List RowV) (A : Nat → Nat → Int) (w : World) (hr : ReadsSS w ad m rs) (hX : rs.map RowV.xs = mkM m m A) (h1 : 1 ≤ m) (hm : m ≤ 28) (hA : Rem m m A) :
    Calls Try.prog 60 #[.slice ad m ca] w (RetSolve w m A) := by
  obtain ⟨i1, hj, hs0, hs1, hs2⟩ := info_parts infoSlice
  obtain ⟨i0, hi, hz0, hz1, hz2⟩ := info_parts infoInt
  have HA : Hid (∀ W, Below w.heap.size w W → ∀ i, i < m → ∃ g o b s c, ad = some ⟨g, o, none⟩ ∧ W.cell? ⟨g, o + i, none⟩ = some (.slice (some ⟨b, s, none⟩) m c) ∧ ∀ j, j < m → W.cell? ⟨b, s + j, none⟩ = some (.int .i64 (A i j))) := Lib.hid fun W h i hi => rowAt (hr.below h) hX hi (by omega)
  have HAR := Lib.hid (augF_rem hA)
  clear hr hX hA
  go_enter Try.func60, Try.ntmps60
  go_wp2
  have G0 : Hid (GrowSS w.heap.size (w.alloc (.cells #[] 22)) (.slice (some ⟨w.heap.size, 0, none⟩) 0 0) 0 []) := Lib.hid (GrowSS.empty w)
  have B0 := Lib.hid (below1 w (.cells #[] 22))
  go_loopw [5, 7] (fun ov iv wr => ∃ i : Nat, i ≤ m ∧ iv = .int .i64 i ∧ (∃ a cd os, ov = .slice a i cd ∧ os.map RowV.xs = mkM i (2 * m) (augF m A) ∧ GrowSS w.heap.size wr (.slice a i cd) i os) ∧ Below w.heap.size w wr) (fun _ iv _ => m - (intOf iv).toNat)
  case atStart => exact ⟨0, Nat.zero_le _, rfl, ⟨_, _, [], rfl, rfl, G0.out⟩, B0.out⟩
  case round =>
    obtain ⟨i, hi2, rfl, ⟨x, cd, os, rfl, hos, hG⟩, hb⟩ := hrel
    clear G0 B0
    have GG := Lib.hid hG; have HOS := Lib.hid hos; have BB := Lib.hid hb
    clear hG hos hb
    obtain ⟨W, hW⟩ : ∃ x, x = wr := ⟨_, rfl⟩
    subst hW
    by_cases hlt : i < m
    · have zw := BB.out.size
      have i1' : (i : Int) < (m : Int) := by omega
      have i0' : 0 ≤ (i : Int) := by omega
      go_wp2_with (at_make; refine wpList_make_full W rfl _ _ 22 rfl W.heap.size 2 i0 (.int .i64 0) 1 Try.underlying22 hi hz0 hz1 .i64 .i64 _ _ m rfl rfl (by omega) (by omega) (by rw [hz2]; omega) (by unfold maxLen; omega) (Nat.le_refl _) ?_)
      intro w4 hown hgrow
      have hb4 := Below.ofGrown hgrow
      have R0 := (own_madeR hown).1.1
      have c0 := R0.cellAt i hlt
      have f0 := R0.frozenAt i
      have z4 := (World.ownsRow.lt R0 W.heap.size rfl).2
      have hst := (R0.store i 1).1
      rw [show (List.replicate m (0 : Int)).set i 1 = unitM m i from rfl] at hst
      have RU := Lib.hid hst.reads
      have B4 := Lib.hid (hb4.setCell (p := ⟨W.heap.size, i, none⟩) (Nat.le_refl _) (.int .i64 1))
      clear hown hgrow hb4 R0 hst
      go_upto_region 8 with fail
      obtain ⟨V, hV⟩ : ∃ V, V = w4.setCell ⟨W.heap.size, i, none⟩ (.int .i64 1) := ⟨_, rfl⟩
      rw [← hV] at RU B4 ⊢
      clear hV c0 f0 z4
      have zV := B4.out.size
      obtain ⟨ga, oa, ba, sa, ka, rfl, ca0, ca1⟩ := HA.out V (BB.out.trans (B4.out.mono zw)) i hlt
      have HRA : Hid (Reads V (some ⟨ba, sa, none⟩) m ((List.range m).map (A i))) := Lib.hid ⟨by simp, .inr ⟨ba, sa, rfl, fun j hj => by rw [range_getD m j _ hj]; exact ca1 j hj⟩⟩
      clear ca1
      go_wp2_with fail
      refine (l01Own_any (some ⟨ba, sa, none⟩) m ka ((List.range m).map (A i)) V HRA.out (by omega)).mono ?_
      rintro e w5 ⟨aw, cw, rfl, ho, hb5⟩
      have z5 := hb5.size
      have RU5 := Lib.hid (RU.out.below hb5)
      have HO := Lib.hid ho
      have B5 := Lib.hid (below_go B4.out hb5 zV)
      clear ho hb5 ca0
      go_wp2_with (at_builtin; refine wpList_append_ints rfl _ _ 22 rfl V.heap.size i0 Try.underlying22 hi hz0 hz1 hz2 (.slice aw m cw) m ((List.range m).map (A i)) rfl HO.out (some ⟨W.heap.size, 0, none⟩) m m (unitM m i) rfl RU5.out (by omega) z5 ?_)
      intro v6 w6 hown6 hgr6
      have hb6 := Below.grownV (B := V.heap.size) z5 HO.out hgr6
      obtain ⟨a6, c6, rfl, ho6⟩ := OwnV.form hown6
      obtain ⟨g6, rfl, hg61, hg62⟩ := ho6.block (by omega)
      rw [augF_row m A i, show m + m = 2 * m by omega] at ho6
      have z6 := hb6.size
      have O6 := Lib.hid ho6
      have B6 := Lib.hid (B5.out.trans (hb6.mono zV))
      clear hown6 hgr6 hb6 ho6
      have G2 := Lib.hid (GG.out.below B6.out)
      have B7 := Lib.hid (BB.out.trans (B6.out.mono zw))
      have hgl := GG.out.lt
      rw [show m + m = 2 * m by omega]
      go_wp2_with (at_builtin; refine wpList_append_own_at _ rfl _ _ 32 rfl w.heap.size 22 i1 (.slice none 0 0) 1 24 Try.underlying32 hj hs0 hs1 hs2 rfl (by decide) _ _ _ rfl (World.ownsRow.alloc G2.out.own _) ⟨w6.heap.size, 0, none⟩ 1 1 [.slice (some ⟨g6, 0, none⟩) (2 * m) c6] rfl rfl (cell_one_new w6 _ _) (fun u hu => by simp at hu; subst hu; rfl) (by unfold maxLen; omega) (by omega) (by simp; omega) ?_)
      intro v' w7 hown hgrow _ hat
      have hgx := G2.out.append (O6.out.mono (by omega)) (by omega) (fun y hy => by have := hgl.1 y hy; omega) (fun j hj => by have := hgl.2 j hj; omega) hown hgrow (by simpa using hat)
      have hbx := G2.out.appBelow B7.out.size hgrow
      obtain ⟨a2, c2, rfl⟩ := hgx.form
      have GX := Lib.hid hgx
      have BX := Lib.hid (B7.out.trans hbx)
      clear hgx hbx hown hgrow hat
      go_wp2
      go_roundw
      case rel => exact ⟨i + 1, by omega, by go_num, ⟨a2, c2, _, rfl, by rw [List.map_append, HOS.out, mkM_succ]; rfl, GX.out⟩, BX.out⟩
      case measure => simp [intOf]; omega
    · have hmi : m = i := by omega
      subst hmi
      obtain ⟨gr, b0, s0, c0, rfl, hH, hgB, hbB⟩ := GG.out.hmxC HOS.out (by omega) (by omega)
      have H0 := Lib.hid hH; have HB0 := Lib.hid (fun u (hu : u < m) => And.intro (hbB u hu).1 (hbB u hu).2.2); have J0 := Lib.hid (GJ.start HAR.out)
      clear hH hbB hi2 GG HOS
      have w2m : IntKind.i64.wrap (2 * (m : Int)) = 2 * (m : Int) := IntWalk.i64_in _ (by omega)
      go_wp2
      go_loopw [6, 9] (fun dv kv wr => ∃ k : Nat, k ≤ m ∧ kv = .int .i64 k ∧ (∃ d b s c g, dv = .int .i64 d ∧ (0 < d ∧ d < 10007) ∧ GJ m (2 * m) (augF m A) k g d ∧ HMx wr gr m (fun _ => 2 * m) b s c g ∧ ∀ x, x < m → w.heap.size ≤ b x ∧ 2 * m ≤ c x) ∧ Below w.heap.size w wr) (fun _ kv _ => m - (intOf kv).toNat)
      case atStart => exact ⟨0, Nat.zero_le _, rfl, ⟨1, b0, s0, c0, augF m A, rfl, by decide, J0.out, H0.out, HB0.out⟩, BB.out⟩
      case round =>
        obtain ⟨k, hk, rfl, ⟨d, b, s, c, g, rfl, hd, hJ, hH, hbB⟩, hb⟩ := hrel
        clear H0 HB0 J0 BB
        have HH := Lib.hid hH; have HBB := Lib.hid hbB; have JJ := Lib.hid hJ; have BB := Lib.hid hb; have HR := Lib.hid hJ.rem
        clear hH hbB hJ hb
        obtain ⟨W, hW⟩ : ∃ x, x = wr := ⟨_, rfl⟩
        subst hW
        by_cases hlt : k < m
        · have k1' : (k : Int) < (m : Int) := by omega
          have zW := BB.out.size
          go_wp2
          go_loop [10] (fun tv => ∃ t : Nat, t ≤ m ∧ k ≤ t ∧ tv = .int .i64 t ∧ ∀ x, k ≤ x → x < t → g x k = 0) (fun tv => m - (intOf tv).toNat)
          case atStart => exact ⟨k, by omega, Nat.le_refl _, rfl, fun x h1 h2 => absurd h2 (by omega)⟩
          case round =>
            obtain ⟨t, ht, hkt, rfl, hz⟩ := hrel
            have HZ := Lib.hid hz; clear hz
            by_cases hlm : t < m
            · have t1' : (t : Int) < (m : Int) := by omega
              have hdt : W.cell? ⟨gr, t, none⟩ = some (.slice (some ⟨b t, s t, none⟩) (2 * m) (c t)) := HH.out.hd t hlm
              have het := HH.out.el t k hlm (by omega)
              have bt := HR.out t k hlm (by omega)
              by_cases hzero : g t k = 0
              · rw [hzero] at het
                go_wp2
                go_round
                case rel => exact ⟨t + 1, by omega, by omega, by go_num, fun x h1 h2 => by
                  by_cases e : x = t
                  · subst e; exact hzero
                  · exact HZ.out x h1 (by omega)⟩
                case measure => simp [intOf]; omega
              · obtain ⟨a, ha⟩ : ∃ a, a = g t k := ⟨_, rfl⟩
                rw [← ha] at het bt hzero
                have t0 : (a == 0) = false := by simpa using hzero
                have tne : ((t : Int) == (m : Int)) = false := by simp; omega
                have HAF := Lib.hid ha
                clear ha
                rcases Nat.lt_or_ge k t with hswap | hsame
                case' inl =>
                  have tnk : ((t : Int) != (k : Int)) = true := by simp; omega
                  have hdr : W.cell? ⟨gr, k, none⟩ = some (.slice (some ⟨b k, s k, none⟩) (2 * m) (c k)) := HH.out.hd k hlt
                  have fgt := HH.out.fg t
                  have hcr : (W.setCell ⟨gr, t, none⟩ (.slice (some ⟨b k, s k, none⟩) (2 * m) (c k))).cell? ⟨gr, k, none⟩ = some (.slice (some ⟨b k, s k, none⟩) (2 * m) (c k)) := (World.cell?_setCell_other _ _ _ _ (by intro e3; injection e3 with e4 e5; omega)).trans hdr
                  have fgr : (W.setCell ⟨gr, t, none⟩ (.slice (some ⟨b k, s k, none⟩) (2 * m) (c k))).frozen? ⟨gr, k, none⟩ = false := by rw [World.frozen?_setCell]; exact HH.out.fg k
                  obtain ⟨b', s', c', hsw, hsb⟩ := HH.out.swapC (r := k) (t := t) hlt hlm
                  have H2 := Lib.hid (show HMx _ gr m (fun _ => 2 * m) b' s' c' (swpF g k t) from hsw)
                  have HB2 : Hid (∀ i, i < m → w.heap.size ≤ b' i ∧ 2 * m ≤ c' i) := Lib.hid fun i hi => by
                    obtain ⟨j, hj, e, e2⟩ := hsb i hi
                    rw [e, e2]; exact HBB.out j hj
                  have B2 := Lib.hid ((BB.out.setCell (p := ⟨gr, t, none⟩) hgB (.slice (some ⟨b k, s k, none⟩) (2 * m) (c k))).setCell (p := ⟨gr, k, none⟩) hgB (.slice (some ⟨b t, s t, none⟩) (2 * m) (c t)))
                  obtain ⟨d1, hd1⟩ : ∃ d1, d1 = -d % 10007 := ⟨_, rfl⟩
                  have J2 := Lib.hid (JJ.out.swap (d' := d1) hswap hlm (by rw [hd1]; exact Eqm.of_mod _))
                  have bd1 : 0 < d1 ∧ d1 < 10007 := by omega
                  have HD1 := Lib.hid hd1
                  have wd : IntKind.i64.wrap (-d) = -d := IntWalk.i64_in _ (by omega)
                  have HPK : Hid (swpF g k t k k = a) := Lib.hid (by unfold swpF; rw [if_pos rfl, HAF.out])
                  clear hsw hsb hd1
                  go_upto_region 21 with fail
                  obtain ⟨V, hV⟩ : ∃ V, V = (W.setCell ⟨gr, t, none⟩ (.slice (some ⟨b k, s k, none⟩) (2 * m) (c k))).setCell ⟨gr, k, none⟩ (.slice (some ⟨b t, s t, none⟩) (2 * m) (c t)) := ⟨_, rfl⟩
                  rw [← hV] at H2 B2 ⊢
                  clear hV hcr fgr fgt hdt hdr het
                  go_wp2_with fail
                  refine (l09Mod_any (-d) V).mono ?_
                  rw [← HD1.out]
                  rintro e w9 ⟨rfl, rfl⟩
                  obtain ⟨h, hh⟩ : ∃ h, h = swpF g k t := ⟨_, rfl⟩
                  rw [← hh] at H2 J2 HPK
                  clear hh wd HD1
                  have HE : Hid (∃ b' s' c', HMx V gr m (fun _ => 2 * m) b' s' c' h ∧ ∀ i, i < m → w.heap.size ≤ b' i ∧ 2 * m ≤ c' i) := Lib.hid ⟨_, _, _, H2.out, HB2.out⟩
                  clear H2 HB2
                case' inr =>
                  have ekt : k = t := by omega
                  subst ekt
                  have tnk : ((k : Int) != (k : Int)) = false := by simp
                  obtain ⟨V, hV⟩ : ∃ V, V = W := ⟨_, rfl⟩
                  obtain ⟨h, hh⟩ : ∃ h, h = g := ⟨_, rfl⟩
                  obtain ⟨d1, hd1⟩ : ∃ d1, d1 = d := ⟨_, rfl⟩
                  have H2 := HH; have HB2 := HBB; have B2 := BB; have J2 := JJ
                  have HPK := Lib.hid HAF.out.symm
                  have bd1 : 0 < d1 ∧ d1 < 10007 := by omega
                  rw [← hh] at H2 J2 HPK
                  rw [← hV] at H2 B2
                  rw [← hd1] at J2
                  subst hV; subst hd1
                  clear hh
                  have HE : Hid (∃ b' s' c', HMx V gr m (fun _ => 2 * m) b' s' c' h ∧ ∀ i, i < m → w.heap.size ≤ b' i ∧ 2 * m ≤ c' i) := Lib.hid ⟨_, _, _, H2.out, HB2.out⟩
                  clear H2 HB2
                  go_upto_region 22 with fail
                  clear het hdt
                all_goals
                  clear HH HBB JJ BB HR HZ HAF
                  obtain ⟨b3, s3, c3, hH3, hB3⟩ := HE.out
                  have hdk : V.cell? ⟨gr, k, none⟩ = some (.slice (some ⟨b3 k, s3 k, none⟩) (2 * m) (c3 k)) := hH3.hd k hlt
                  have hek := hH3.el k k hlt (by omega)
                  rw [HPK.out] at hek
                  have H3 := Lib.hid hH3; have HB3 := Lib.hid hB3
                  have HRH := Lib.hid J2.out.rem
                  have ba : 0 < a ∧ a < 10007 := by omega
                  have m1 := rem_mul (show 0 ≤ d1 ∧ d1 < 10007 by omega) (show 0 ≤ a ∧ a < 10007 by omega)
                  have wm : IntKind.i64.wrap (d1 * a) = d1 * a := IntWalk.i64_in _ (by omega)
                  have em : (d1 * a).tmod 10007 = d1 * a % 10007 := Int.tmod_eq_emod_of_nonneg m1.1
                  have hd2n := prod_ne bd1 ba
                  have bd2 := mod_rem (d1 * a)
                  obtain ⟨d2, hd2⟩ : ∃ d2, d2 = d1 * a % 10007 := ⟨_, rfl⟩
                  rw [← hd2] at em hd2n bd2
                  have J3 := Lib.hid (J2.out.clear hlt (by omega) (by rw [HPK.out]; omega) (d' := d2) (by rw [HPK.out, hd2]; exact Eqm.of_mod _))
                  have wd2 : IntKind.i64.wrap d2 = d2 := IntWalk.i64_in _ (by omega)
                  have bd3 : 0 < d2 ∧ d2 < 10007 := by omega
                  have HOW := Lib.hid (show ∀ y, ownF h k y = h k y * invF a % 10007 from fun y => by unfold ownF; rw [HPK.out])
                  have zV := B2.out.size
                  clear hH3 hB3 hd2 HE hd2n bd2 m1
                  go_upto_region 23 with fail
                  clear em wm wd2
                  go_wp2_with fail
                  refine (l09Inverse_any a V (by omega) ba.2).mono ?_
                  rintro e w9 ⟨rfl, rfl⟩
                  have biv := invF_rem a
                  obtain ⟨iv, hiv⟩ : ∃ z, z = invF a := ⟨_, rfl⟩
                  rw [← hiv] at biv ⊢
                  have HIV := Lib.hid hiv
                  obtain ⟨bk, hbk⟩ : ∃ z, z = b3 k := ⟨_, rfl⟩
                  obtain ⟨sk, hsk⟩ : ∃ z, z = s3 k := ⟨_, rfl⟩
                  obtain ⟨ck, hck⟩ : ∃ z, z = c3 k := ⟨_, rfl⟩
                  have HDK : Hid (∀ W, Below V.heap.size V W → W.cell? ⟨gr, k, none⟩ = some (.slice (some ⟨bk, sk, none⟩) (2 * m) ck) ∧ ∀ j, j < 2 * m → W.cell? ⟨bk, sk + j, none⟩ = some (.int .i64 (h k j))) := Lib.hid fun W hW => by rw [hbk, hsk, hck]; exact ⟨(H3.out.below hW).hd k hlt, fun j hj => (H3.out.below hW).el k j hlt hj⟩
                  clear hiv hbk hsk hck hdk hek
                  have N0 : Hid (Own V.heap.size (V.alloc (.cells #[] 2)) (some ⟨V.heap.size, 0, none⟩) 0 0 ((List.range 0).map (ownF h k))) := Lib.hid (World.ownsRow_lit (base := V.heap.size) (size := 1) (e := 2) V #[] 0 (Nat.le_refl _) (Nat.zero_le _) rfl)
                  have BN0 := Lib.hid (below1 V (.cells #[] 2))
                  go_wp2
                  go_loopw [13, 14] (fun nv jv wr => ∃ j : Nat, j ≤ 2 * m ∧ jv = .int .i64 j ∧ (∃ an cn, nv = .slice an j cn ∧ Own V.heap.size wr an j cn ((List.range j).map (ownF h k))) ∧ Below V.heap.size V wr) (fun _ jv _ => 2 * m - (intOf jv).toNat)
                  case atStart => exact ⟨0, Nat.zero_le _, rfl, ⟨_, _, rfl, N0.out⟩, BN0.out⟩
                  case round =>
                    obtain ⟨j, hj2, rfl, ⟨an, cn, rfl, hN⟩, hb⟩ := hrel
                    clear N0 BN0
                    have NN := Lib.hid hN; have BN := Lib.hid hb; clear hN hb
                    obtain ⟨W5, hW5⟩ : ∃ x, x = wr := ⟨_, rfl⟩
                    subst hW5
                    by_cases hlj : j < 2 * m
                    · have j1' : (j : Int) < 2 * (m : Int) := by omega
                      obtain ⟨hd5, hc5⟩ := HDK.out W5 BN.out
                      have cj := hc5 j hlj
                      have bj := HRH.out k j hlt hlj
                      have HRS := Lib.hid (show (List.range (j + 1)).map (ownF h k) = (List.range j).map (ownF h k) ++ [h k j * iv % 10007] by rw [List.range_succ, List.map_append, HIV.out, ← HOW.out j]; rfl)
                      obtain ⟨u, hu⟩ : ∃ x, x = h k j := ⟨_, rfl⟩
                      rw [← hu] at cj bj HRS
                      have m2 := rem_mul bj biv
                      have w1 : IntKind.i64.wrap (u * iv) = u * iv := IntWalk.i64_in _ (by omega)
                      have e1 : (u * iv).tmod 10007 = u * iv % 10007 := Int.tmod_eq_emod_of_nonneg m2.1
                      have bz := mod_rem (u * iv)
                      obtain ⟨z, hz⟩ : ∃ z, z = u * iv % 10007 := ⟨_, rfl⟩
                      rw [← hz] at e1 bz HRS
                      have w2 : IntKind.i64.wrap z = z := IntWalk.i64_in _ (by omega)
                      have zN := BN.out.size
                      obtain ⟨LL, hLL⟩ : ∃ l, l = (List.range j).map (ownF h k) := ⟨_, rfl⟩
                      rw [← hLL] at NN HRS
                      clear hu hz m2 hc5 hLL
                      go_wp2_with (at_builtin; refine wpList_append_lies _ rfl _ _ 22 rfl V.heap.size 2 i0 (.int .i64 0) 1 8 Try.underlying22 hi hz0 hz1 hz2 rfl (by decide) _ _ _ rfl (World.ownsRow.alloc NN.out _) ⟨W5.heap.size, 0, none⟩ 1 1 [.int .i64 z] rfl rfl (one_new W5 z _) (one_cell _) (by decide) (by unfold maxLen; omega) (by omega) (by simp; omega) _ rfl ?_)
                      intro g2 cap2 w6 hown hgrow hat hlt2
                      have hb6 := grown_below (B := V.heap.size) zN NN.out hgrow
                      have ho6 : Own V.heap.size w6 (some ⟨g2, 0, none⟩) (j + 1) cap2 ((List.range (j + 1)).map (ownF h k)) := by rw [HRS.out]; exact OwnV.appended hown
                      have O6 := Lib.hid ho6; have B6 := Lib.hid (BN.out.trans hb6)
                      clear ho6 hown hgrow hat hlt2 hb6
                      go_wp2
                      go_roundw
                      case rel => exact ⟨j + 1, by omega, by go_num, ⟨_, _, rfl, O6.out⟩, B6.out⟩
                      case measure => simp [intOf]; omega
                    · have hjm : j = 2 * m := by omega
                      subst hjm
                      have j1' : ¬ (((2 * m : Nat) : Int) < 2 * (m : Int)) := by omega
                      obtain ⟨go, rfl, hgo1, hgo2⟩ := NN.out.block (by omega)
                      have hd5 := (HDK.out W5 BN.out).1
                      have H5 := H3.out.below BN.out
                      have fg5 := H5.fg k
                      have zg5 := H5.lt
                      have hgrV := H3.out.lt
                      have hgg : go ≠ gr := by omega
                      have hput := H5.put (f' := cleP h k 0) (i := k) (bn := go) (sn := 0) (cn := cn) hlt hgg (fun j hj => by
                        rw [Nat.zero_add, NN.out.cellAt j hj, range_getD (2 * m) j _ hj, ← cleP_start, if_pos rfl]) (fun x j _ hx _ => by rw [← cleP_start, if_neg hx])
                      have H6 : Hid (∃ b s c, HMx (W5.setCell ⟨gr, k, none⟩ (.slice (some ⟨go, 0, none⟩) (2 * m) cn)) gr m (fun _ => 2 * m) b s c (cleP h k 0) ∧ ∀ x, x < m → w.heap.size ≤ b x ∧ 2 * m ≤ c x) := Lib.hid ⟨_, _, _, hput, fun x hx => by
                        by_cases e : x = k
                        · simp only [if_pos e]; have := Own.capge NN.out; omega
                        · simp only [if_neg e]; exact HB3.out x hx⟩
                      have OC : Hid (∀ j, j < 2 * m → (W5.setCell ⟨gr, k, none⟩ (.slice (some ⟨go, 0, none⟩) (2 * m) cn)).cell? ⟨go, j, none⟩ = some (.int .i64 (ownF h k j))) := Lib.hid fun j hj => (World.cell?_setCell_far _ _ _ _ (Ne.symm hgg)).trans (by rw [NN.out.cellAt j hj, range_getD (2 * m) j _ hj])
                      have B6 := Lib.hid ((B2.out.trans (BN.out.mono zV)).setCell (p := ⟨gr, k, none⟩) hgB (.slice (some ⟨go, 0, none⟩) (2 * m) cn))
                      have hcn : gr < go := by omega
                      clear hput H5
                      go_upto_region 29 with fail
                      clear hd5 fg5
                      obtain ⟨X, hX⟩ : ∃ X, X = W5.setCell ⟨gr, k, none⟩ (.slice (some ⟨go, 0, none⟩) (2 * m) cn) := ⟨_, rfl⟩
                      rw [← hX] at H6 OC B6 ⊢
                      clear hX NN BN HDK H3 HB3 B2 J2 hgo2 hgrV zg5
                      go_wp2
                      go_loopw [15] (fun xv wr => ∃ x : Nat, x ≤ m ∧ xv = .int .i64 x ∧ (∃ b s c, HMx wr gr m (fun _ => 2 * m) b s c (cleP h k x) ∧ ∀ y, y < m → w.heap.size ≤ b y ∧ 2 * m ≤ c y) ∧ (∀ j, j < 2 * m → wr.cell? ⟨go, j, none⟩ = some (.int .i64 (ownF h k j))) ∧ Below w.heap.size w wr) (fun xv _ => m - (intOf xv).toNat)
                      case atStart => exact ⟨0, Nat.zero_le _, rfl, H6.out, OC.out, B6.out⟩
                      case round =>
                        obtain ⟨x, hx, rfl, ⟨b4, s4, c4, hH, hbB⟩, hoc, hb⟩ := hrel
                        clear H6 OC B6
                        have H4 := Lib.hid hH; have HB4 := Lib.hid hbB; have OC := Lib.hid hoc; have B4 := Lib.hid hb
                        clear hH hbB hoc hb
                        obtain ⟨W6, hW6⟩ : ∃ x, x = wr := ⟨_, rfl⟩
                        subst hW6
                        by_cases hlx : x < m
                        · have x1' : (x : Int) < (m : Int) := by omega
                          have z6 := B4.out.size
                          have hdx : W6.cell? ⟨gr, x, none⟩ = some (.slice (some ⟨b4 x, s4 x, none⟩) (2 * m) (c4 x)) := H4.out.hd x hlx
                          have hex := H4.out.el x k hlx (by omega)
                          by_cases hxk : x = k
                          · subst hxk
                            have H5 := Lib.hid (H4.out.congr (f' := cleP h x (x + 1)) fun p q _ _ => cleP_skip p q)
                            have tx : ((x : Int) == (x : Int)) = true := by simp
                            clear H4
                            go_wp2
                            go_roundw
                            case rel => exact ⟨x + 1, by omega, by go_num, ⟨_, _, _, H5.out, HB4.out⟩, OC.out, B4.out⟩
                            case measure => simp [intOf]; omega
                          · have tx : ((x : Int) == (k : Int)) = false := by simp; omega
                            rw [cleP_row hxk] at hex
                            by_cases hf0 : h x k = 0
                            · have H5 := Lib.hid (H4.out.congr (f' := cleP h k (x + 1)) fun p q hp hq => cleP_idle HRH.out hxk hf0 hp hq)
                              rw [hf0] at hex
                              clear H4
                              go_wp2
                              go_roundw
                              case rel => exact ⟨x + 1, by omega, by go_num, ⟨_, _, _, H5.out, HB4.out⟩, OC.out, B4.out⟩
                              case measure => simp [intOf]; omega
                            · have bf := HRH.out x k hlx (by omega)
                              have HCR := Lib.hid (show ∀ j, clearF h k x j = (h x j - h x k * ownF h k j) % 10007 from fun j => by unfold clearF; rw [if_neg hxk])
                              obtain ⟨fa, hfa⟩ : ∃ z, z = h x k := ⟨_, rfl⟩
                              rw [← hfa] at hex bf hf0 HCR
                              have tf : (fa == 0) = false := by simpa using hf0
                              obtain ⟨bx, hbx⟩ : ∃ z, z = b4 x := ⟨_, rfl⟩
                              obtain ⟨sx, hsx⟩ : ∃ z, z = s4 x := ⟨_, rfl⟩
                              obtain ⟨cx, hcx⟩ : ∃ z, z = c4 x := ⟨_, rfl⟩
                              have HDX : Hid (∀ W, Below W6.heap.size W6 W → W.cell? ⟨gr, x, none⟩ = some (.slice (some ⟨bx, sx, none⟩) (2 * m) cx) ∧ ∀ j, j < 2 * m → W.cell? ⟨bx, sx + j, none⟩ = some (.int .i64 (h x j))) := Lib.hid fun W hW => by
                                rw [hbx, hsx, hcx]
                                exact ⟨(H4.out.below hW).hd x hlx, fun j hj => by have := (H4.out.below hW).el x j hlx hj; rwa [cleP_row hxk] at this⟩
                              have HOX : Hid (∀ W, Below W6.heap.size W6 W → ∀ j, j < 2 * m → W.cell? ⟨go, j, none⟩ = some (.int .i64 (ownF h k j))) := Lib.hid fun W hW j hj => (hW.cell (World.block_lt_of_cell? _ _ (OC.out j hj))).trans (OC.out j hj)
                              have HRO := Lib.hid (show ∀ j, j < 2 * m → 0 ≤ ownF h k j ∧ ownF h k j < 10007 from fun j _ => mod_rem _)
                              rw [← hbx, ← hsx] at hdx hex
                              rw [← hcx] at hdx
                              clear hfa hbx hsx hcx
                              go_upto_region 35 with fail
                              have N0 : Hid (Own W6.heap.size (W6.alloc (.cells #[] 2)) (some ⟨W6.heap.size, 0, none⟩) 0 0 ((List.range 0).map (clearF h k x))) := Lib.hid (World.ownsRow_lit (base := W6.heap.size) (size := 1) (e := 2) W6 #[] 0 (Nat.le_refl _) (Nat.zero_le _) rfl)
                              have BN0 := Lib.hid (below1 W6 (.cells #[] 2))
                              clear hex hdx tf
                              go_wp2
                              go_loopw [17, 18] (fun nv jv wr => ∃ j : Nat, j ≤ 2 * m ∧ jv = .int .i64 j ∧ (∃ an cn, nv = .slice an j cn ∧ Own W6.heap.size wr an j cn ((List.range j).map (clearF h k x))) ∧ Below W6.heap.size W6 wr) (fun _ jv _ => 2 * m - (intOf jv).toNat)
                              case atStart => exact ⟨0, Nat.zero_le _, rfl, ⟨_, _, rfl, N0.out⟩, BN0.out⟩
                              case round =>
                                obtain ⟨j, hj2, rfl, ⟨an, cnn, rfl, hN⟩, hb⟩ := hrel
                                clear N0 BN0
                                have NN := Lib.hid hN; have BN := Lib.hid hb; clear hN hb
                                obtain ⟨W7, hW7⟩ : ∃ x, x = wr := ⟨_, rfl⟩
                                subst hW7
                                by_cases hlj : j < 2 * m
                                · have j1' : (j : Int) < 2 * (m : Int) := by omega
                                  have j2' : (j : Int) < ((2 * m : Nat) : Int) := by omega
                                  have bj := HRH.out x j hlx hlj
                                  have bo := HRO.out j hlj
                                  have HRS := Lib.hid (show (List.range (j + 1)).map (clearF h k x) = (List.range j).map (clearF h k x) ++ [(h x j - fa * ownF h k j) % 10007] by rw [List.range_succ, List.map_append, ← HCR.out j]; rfl)
                                  obtain ⟨u, hu⟩ : ∃ z, z = h x j := ⟨_, rfl⟩
                                  obtain ⟨y, hy⟩ : ∃ z, z = ownF h k j := ⟨_, rfl⟩
                                  rw [← hu] at bj HRS
                                  rw [← hy] at bo HRS
                                  have m2 := rem_mul bf bo
                                  have w1 : IntKind.i64.wrap (fa * y) = fa * y := IntWalk.i64_in _ (by omega)
                                  have w2 : IntKind.i64.wrap (u - fa * y) = u - fa * y := IntWalk.i64_in _ (by omega)
                                  obtain ⟨z, hz⟩ : ∃ z, z = (u - fa * y) % 10007 := ⟨_, rfl⟩
                                  rw [← hz] at HRS
                                  have HZZ := Lib.hid hz
                                  have zN := BN.out.size
                                  have HXK : Hid (∀ W, Below W6.heap.size W6 W → W.cell? ⟨gr, x, none⟩ = some (.slice (some ⟨bx, sx, none⟩) (2 * m) cx) ∧ W.cell? ⟨bx, sx + j, none⟩ = some (.int .i64 u) ∧ W.cell? ⟨go, j, none⟩ = some (.int .i64 y)) := Lib.hid fun W hW => by rw [hu, hy]; exact ⟨(HDX.out W hW).1, (HDX.out W hW).2 j hlj, HOX.out W hW j hlj⟩
                                  obtain ⟨LL, hLL⟩ : ∃ l, l = (List.range j).map (clearF h k x) := ⟨_, rfl⟩
                                  rw [← hLL] at NN HRS
                                  have HLL := Lib.hid hLL
                                  clear hu hy hz hLL bj bo m2
                                  go_upto_region 38 with fail
                                  have KB : Hid (Below W6.heap.size W6 W7.drew) := Lib.hid BN.out.drew
                                  refine wp_region_held_drew (S := (fun w' => w'.cell? ⟨gr, x, none⟩ = some (.slice (some ⟨bx, sx, none⟩) (2 * m) cx) ∧ w'.cell? ⟨bx, sx + j, none⟩ = some (.int .i64 u) ∧ w'.cell? ⟨go, j, none⟩ = some (.int .i64 y))) (by kernel_rfl) ?_ (fun hHeld => ?_)
                                  · exact HXK.out _ KB.out
                                  refine wpAnyH_take (i := 0) (oi := { dst := some 157, op := Op.move (Operand.tmp 17), type := 22, pos := "l09_krammer.go:112", after := #[], guard := none }) (v := ?_) rfl (by kernel_rfl) (by kernel_rfl) (by kernel_rfl) (fun _ _ _ h => h) (Or.inl ⟨by rfl, ?_⟩) (by assumption) ?_
                                  rotate_left
                                  · intro w hSw
                                    (try dsimp only at hSw)
                                    go_simp
                                    try with_reducible rfl
                                  try simp only [Act.put, List.setIfInBounds_toArray, List.set_cons_zero, List.set_cons_succ]
                                  refine wpAnyH_take (i := 1) (oi := { dst := some 158, op := Op.move (Operand.tmp 5), type := 32, pos := "l09_krammer.go:112", after := #[], guard := none }) (v := ?_) rfl (by kernel_rfl) (by kernel_rfl) (by kernel_rfl) (fun _ _ _ h => h) (Or.inl ⟨by rfl, ?_⟩) (by assumption) ?_
                                  rotate_left
                                  · intro w hSw
                                    (try dsimp only at hSw)
                                    go_simp
                                    try with_reducible rfl
                                  try simp only [Act.put, List.setIfInBounds_toArray, List.set_cons_zero, List.set_cons_succ]
                                  refine wpAnyH_take (i := 2) (oi := { dst := some 159, op := Op.move (Operand.tmp 15), type := 3, pos := "l09_krammer.go:112", after := #[], guard := none }) (v := ?_) rfl (by kernel_rfl) (by kernel_rfl) (by kernel_rfl) (fun _ _ _ h => h) (Or.inl ⟨by rfl, ?_⟩) (by assumption) ?_
                                  rotate_left
                                  · intro w hSw
                                    (try dsimp only at hSw)
                                    go_simp
                                    try with_reducible rfl
                                  try simp only [Act.put, List.setIfInBounds_toArray, List.set_cons_zero, List.set_cons_succ]
                                  refine wpAnyH_take (i := 3) (oi := { dst := some 160, op := Op.indexAddr 32 (Operand.tmp 158) (Operand.tmp 159), type := 0, pos := "l09_krammer.go:112", after := #[{ on := 1, ground := Ground.data }, { on := 2, ground := Ground.data }], guard := none }) (v := ?_) rfl (by kernel_rfl) (by kernel_rfl) (by kernel_rfl) (fun _ _ _ h => h) (Or.inl ⟨by rfl, ?_⟩) (by assumption) ?_
                                  rotate_left
                                  · intro w hSw
                                    (try dsimp only at hSw)
                                    go_simp
                                    try with_reducible rfl
                                  try simp only [Act.put, List.setIfInBounds_toArray, List.set_cons_zero, List.set_cons_succ]
                                  refine wpAnyH_take (i := 4) (oi := { dst := some 161, op := Op.load 22 (Operand.tmp 160), type := 22, pos := "l09_krammer.go:112", after := #[{ on := 3, ground := Ground.data }], guard := none }) (v := ?_) rfl (by kernel_rfl) (by kernel_rfl) (by kernel_rfl) (fun _ _ _ h => h) (Or.inl ⟨by rfl, ?_⟩) (by assumption) ?_
                                  rotate_left
                                  · intro w hSw
                                    (try dsimp only at hSw)
                                    go_simp
                                    try with_reducible rfl
                                  try simp only [Act.put, List.setIfInBounds_toArray, List.set_cons_zero, List.set_cons_succ]
                                  refine wpAnyH_take (i := 5) (oi := { dst := some 162, op := Op.move (Operand.tmp 18), type := 3, pos := "l09_krammer.go:112", after := #[], guard := none }) (v := ?_) rfl (by kernel_rfl) (by kernel_rfl) (by kernel_rfl) (fun _ _ _ h => h) (Or.inl ⟨by rfl, ?_⟩) (by assumption) ?_
                                  rotate_left
                                  · intro w hSw
                                    (try dsimp only at hSw)
                                    go_simp
                                    try with_reducible rfl
                                  try simp only [Act.put, List.setIfInBounds_toArray, List.set_cons_zero, List.set_cons_succ]
                                  refine wpAnyH_take (i := 6) (oi := { dst := some 163, op := Op.indexAddr 22 (Operand.tmp 161) (Operand.tmp 162), type := 0, pos := "l09_krammer.go:112", after := #[{ on := 4, ground := Ground.data }, { on := 5, ground := Ground.data }], guard := none }) (v := ?_) rfl (by kernel_rfl) (by kernel_rfl) (by kernel_rfl) (fun _ _ _ h => h) (Or.inl ⟨by rfl, ?_⟩) (by assumption) ?_
                                  rotate_left
                                  · intro w hSw
                                    (try dsimp only at hSw)
                                    go_simp
                                    try with_reducible rfl
                                  try simp only [Act.put, List.setIfInBounds_toArray, List.set_cons_zero, List.set_cons_succ]
                                  refine wpAnyH_take (i := 7) (oi := { dst := some 164, op := Op.load 2 (Operand.tmp 163), type := 2, pos := "l09_krammer.go:112", after := #[{ on := 6, ground := Ground.data }], guard := none }) (v := ?_) rfl (by kernel_rfl) (by kernel_rfl) (by kernel_rfl) (fun _ _ _ h => h) (Or.inl ⟨by rfl, ?_⟩) (by assumption) ?_
                                  rotate_left
                                  · intro w hSw
                                    (try dsimp only at hSw)
                                    go_simp
                                    try with_reducible rfl
                                  try simp only [Act.put, List.setIfInBounds_toArray, List.set_cons_zero, List.set_cons_succ]
                                  refine wpAnyH_take (i := 8) (oi := { dst := some 165, op := Op.move (Operand.tmp 16), type := 2, pos := "l09_krammer.go:112", after := #[], guard := none }) (v := ?_) rfl (by kernel_rfl) (by kernel_rfl) (by kernel_rfl) (fun _ _ _ h => h) (Or.inl ⟨by rfl, ?_⟩) (by assumption) ?_
                                  rotate_left
                                  · intro w hSw
                                    (try dsimp only at hSw)
                                    go_simp
                                    try with_reducible rfl
                                  try simp only [Act.put, List.setIfInBounds_toArray, List.set_cons_zero, List.set_cons_succ]
                                  refine wpAnyH_take (i := 9) (oi := { dst := some 166, op := Op.move (Operand.tmp 13), type := 22, pos := "l09_krammer.go:112", after := #[], guard := none }) (v := ?_) rfl (by kernel_rfl) (by kernel_rfl) (by kernel_rfl) (fun _ _ _ h => h) (Or.inl ⟨by rfl, ?_⟩) (by assumption) ?_
                                  rotate_left
                                  · intro w hSw
                                    (try dsimp only at hSw)
                                    go_simp
                                    try with_reducible rfl
                                  try simp only [Act.put, List.setIfInBounds_toArray, List.set_cons_zero, List.set_cons_succ]
                                  refine wpAnyH_take (i := 10) (oi := { dst := some 167, op := Op.move (Operand.tmp 18), type := 3, pos := "l09_krammer.go:112", after := #[], guard := none }) (v := ?_) rfl (by kernel_rfl) (by kernel_rfl) (by kernel_rfl) (fun _ _ _ h => h) (Or.inl ⟨by rfl, ?_⟩) (by assumption) ?_
                                  rotate_left
                                  · intro w hSw
                                    (try dsimp only at hSw)
                                    go_simp
                                    try with_reducible rfl
                                  try simp only [Act.put, List.setIfInBounds_toArray, List.set_cons_zero, List.set_cons_succ]
                                  refine wpAnyH_take (i := 11) (oi := { dst := some 168, op := Op.indexAddr 22 (Operand.tmp 166) (Operand.tmp 167), type := 0, pos := "l09_krammer.go:112", after := #[{ on := 9, ground := Ground.data }, { on := 10, ground := Ground.data }], guard := none }) (v := ?_) rfl (by kernel_rfl) (by kernel_rfl) (by kernel_rfl) (fun _ _ _ h => h) (Or.inl ⟨by rfl, ?_⟩) (by assumption) ?_
                                  rotate_left
                                  · intro w hSw
                                    (try dsimp only at hSw)
                                    go_simp
                                    try with_reducible rfl
                                  try simp only [Act.put, List.setIfInBounds_toArray, List.set_cons_zero, List.set_cons_succ]
                                  refine wpAnyH_take (i := 12) (oi := { dst := some 169, op := Op.load 2 (Operand.tmp 168), type := 2, pos := "l09_krammer.go:112", after := #[{ on := 11, ground := Ground.data }], guard := none }) (v := ?_) rfl (by kernel_rfl) (by kernel_rfl) (by kernel_rfl) (fun _ _ _ h => h) (Or.inl ⟨by rfl, ?_⟩) (by assumption) ?_
                                  rotate_left
                                  · intro w hSw
                                    (try dsimp only at hSw)
                                    go_simp
                                    try with_reducible rfl
                                  try simp only [Act.put, List.setIfInBounds_toArray, List.set_cons_zero, List.set_cons_succ]
                                  refine wpAnyH_take (i := 13) (oi := { dst := some 170, op := Op.binOp BinOp.mul 2 (Operand.tmp 165) (Operand.tmp 169) 2, type := 2, pos := "l09_krammer.go:112", after := #[{ on := 8, ground := Ground.data }, { on := 12, ground := Ground.data }], guard := none }) (v := ?_) rfl (by kernel_rfl) (by kernel_rfl) (by kernel_rfl) (fun _ _ _ h => h) (Or.inl ⟨by rfl, ?_⟩) (by assumption) ?_
                                  rotate_left
                                  · intro w hSw
                                    (try dsimp only at hSw)
                                    go_simp
                                    try with_reducible rfl
                                  try simp only [Act.put, List.setIfInBounds_toArray, List.set_cons_zero, List.set_cons_succ]
                                  refine wpAnyH_take (i := 14) (oi := { dst := some 171, op := Op.binOp BinOp.sub 2 (Operand.tmp 164) (Operand.tmp 170) 2, type := 2, pos := "l09_krammer.go:112", after := #[{ on := 7, ground := Ground.data }, { on := 13, ground := Ground.data }], guard := none }) (v := ?_) rfl (by kernel_rfl) (by kernel_rfl) (by kernel_rfl) (fun _ _ _ h => h) (Or.inl ⟨by rfl, ?_⟩) (by assumption) ?_
                                  rotate_left
                                  · intro w hSw
                                    (try dsimp only at hSw)
                                    go_simp
                                    try with_reducible rfl
                                  try simp only [Act.put, List.setIfInBounds_toArray, List.set_cons_zero, List.set_cons_succ]
                                  refine wpAnyH_ready (rs := [15]) (by kernel_rfl) (by simp) ?_
                                  refine AllReadyH.cons (o := { dst := some 172, op := Op.call { callee := Callee.value (Operand.func 88), args := #[Operand.tmp 171], argTypes := #[2] }, type := 2, pos := "l09_krammer.go:112", after := #[{ on := 14, ground := Ground.data }], guard := none }) rfl (fun K hK => ?_) ?_
                                  · go_simp
                                    refine (l09Mod_any (u - fa * y) _).mono ?_
                                    rw [← HZZ.out]
                                    rintro e w8 ⟨rfl, rfl⟩
                                    go_wp2_with fail
                                    refine hK.out _ _ ?_ (fun hHeld => ?_)
                                    · exact HXK.out _ KB.out
                                    clear hK K
                                    try simp only [Act.put, List.setIfInBounds_toArray, List.set_cons_zero, List.set_cons_succ]
                                    refine wpAnyH_ready (rs := [16]) (by kernel_rfl) (by simp) ?_
                                    refine AllReadyH.cons (o := { dst := some 173, op := Op.buildSlice 22 1 #[(0, Operand.tmp 172)], type := 22, pos := "l09_krammer.go:112", after := #[{ on := 15, ground := Ground.data }], guard := none }) rfl (fun K hK => ?_) ?_
                                    · go_simp
                                      replace KB := Lib.hid (KB.out.alloc KB.out.size (.cells #[.int .i64 z] 2))
                                      refine hK.out _ _ ?_ (fun hHeld => ?_)
                                      · exact HXK.out _ KB.out
                                      clear hK K
                                      try simp only [Act.put, List.setIfInBounds_toArray, List.set_cons_zero, List.set_cons_succ]
                                      refine wpAnyH_ready (rs := [17]) (by kernel_rfl) (by simp) ?_
                                      refine AllReadyH.cons (o := { dst := some 174, op := Op.call { callee := Callee.builtin Builtin.append, args := #[Operand.tmp 157, Operand.tmp 173], argTypes := #[22, 22] }, type := 22, pos := "l09_krammer.go:112", after := #[{ on := 0, ground := Ground.data }, { on := 16, ground := Ground.data }, { on := 15, ground := Ground.chain }], guard := none }) rfl (fun K hK => ?_) ?_
                                      · refine step_append_lies _ rfl _ _ 22 rfl W6.heap.size 2 i0 (.int .i64 0) 1 8 Try.underlying22 hi hz0 hz1 hz2 rfl (by decide) _ _ _ rfl (World.ownsRow.alloc (World.ownsRow.drew NN.out) _) ⟨W7.heap.size, 0, none⟩ 1 1 [.int .i64 z] rfl rfl (one_new W7.drew z _) (one_cell _) (by decide) (by unfold maxLen; omega) (by omega) (by simp; omega) _ rfl ?_
                                        intro g2 cap2 w9 hown hgrow _ hlt9
                                        have hg2 : (W7.drew.alloc (.cells #[.int .i64 z] 2)).grownBy w9 (Value.slice an j cnn).ownBlock := hgrow
                                        have hb9 := grown_below (B := W6.heap.size) (wr := W7.drew) zN (World.ownsRow.drew NN.out) hg2
                                        replace KB := Lib.hid (BN.out.trans ((Below.refl W7.heap.size W7).drew.mono zN |>.trans hb9))
                                        have ho9 : Own W6.heap.size w9 (some ⟨g2, 0, none⟩) (j + 1) cap2 ((List.range (j + 1)).map (clearF h k x)) := by rw [HRS.out]; exact OwnV.appended hown
                                        have O9 := Lib.hid ho9
                                        clear ho9 hown hgrow hb9 hg2
                                        refine hK.out _ _ ?_ (fun hHeld => ?_)
                                        · exact HXK.out _ KB.out
                                        clear hK K
                                        try simp only [Act.put, List.setIfInBounds_toArray, List.set_cons_zero, List.set_cons_succ]
                                        refine wpAnyH_ready (rs := [18]) (by kernel_rfl) (by simp) ?_
                                        refine AllReadyH.cons (o := { dst := some 17, op := Op.assign (Operand.tmp 174), type := 22, pos := "l09_krammer.go:112", after := #[{ on := 17, ground := Ground.data }, { on := 17, ground := Ground.chain }, { on := 0, ground := Ground.phase }, { on := 1, ground := Ground.phase }, { on := 2, ground := Ground.phase }, { on := 3, ground := Ground.phase }, { on := 4, ground := Ground.phase }, { on := 5, ground := Ground.phase }, { on := 6, ground := Ground.phase }, { on := 7, ground := Ground.phase }, { on := 8, ground := Ground.phase }, { on := 9, ground := Ground.phase }, { on := 10, ground := Ground.phase }, { on := 11, ground := Ground.phase }, { on := 12, ground := Ground.phase }, { on := 13, ground := Ground.phase }, { on := 14, ground := Ground.phase }, { on := 15, ground := Ground.phase }, { on := 16, ground := Ground.phase }, { on := 17, ground := Ground.phase }], guard := none }) rfl (fun K hK => ?_) ?_
                                        · go_simp
                                          refine hK.out _ _ ?_ (fun hHeld => ?_)
                                          · exact HXK.out _ KB.out
                                          clear hK K
                                          try simp only [Act.put, List.setIfInBounds_toArray, List.set_cons_zero, List.set_cons_succ]
                                          refine wpAnyH_done (by kernel_rfl) ?_ _
                                          go_wp2
                                          go_roundw
                                          case rel => exact ⟨j + 1, by omega, by go_num, ⟨_, _, rfl, O9.out⟩, KB.out⟩
                                          case measure => simp [intOf]; omega
                                        exact AllReadyH.nil
                                      exact AllReadyH.nil
                                    exact AllReadyH.nil
                                  exact AllReadyH.nil
                                · have hjm : j = 2 * m := by omega
                                  subst hjm
                                  have j1' : ¬ (((2 * m : Nat) : Int) < 2 * (m : Int)) := by omega
                                  obtain ⟨gx, rfl, hgx1, hgx2⟩ := NN.out.block (by omega)
                                  have hd7 := (HDX.out W7 BN.out).1
                                  have H7 := H4.out.below BN.out
                                  have fg7 := H7.fg x
                                  have zg7 := H7.lt
                                  have hgr6 := H4.out.lt
                                  have hgg2 : gx ≠ gr := by omega
                                  have hput := H7.put (f' := cleP h k (x + 1)) (i := x) (bn := gx) (sn := 0) (cn := cnn) hlx hgg2 (fun j hj => by
                                    rw [Nat.zero_add, NN.out.cellAt j hj, range_getD (2 * m) j _ hj, ← cleP_next, if_pos rfl]) (fun y j _ hy _ => by rw [← cleP_next, if_neg hy])
                                  have H8 : Hid (∃ b s c, HMx (W7.setCell ⟨gr, x, none⟩ (.slice (some ⟨gx, 0, none⟩) (2 * m) cnn)) gr m (fun _ => 2 * m) b s c (cleP h k (x + 1)) ∧ ∀ y, y < m → w.heap.size ≤ b y ∧ 2 * m ≤ c y) := Lib.hid ⟨_, _, _, hput, fun y hy => by
                                    by_cases e : y = x
                                    · simp only [if_pos e]; have := Own.capge NN.out; omega
                                    · simp only [if_neg e]; exact HB4.out y hy⟩
                                  have OC8 : Hid (∀ j, j < 2 * m → (W7.setCell ⟨gr, x, none⟩ (.slice (some ⟨gx, 0, none⟩) (2 * m) cnn)).cell? ⟨go, j, none⟩ = some (.int .i64 (ownF h k j))) := Lib.hid fun j hj => (World.cell?_setCell_far _ _ _ _ (Ne.symm hgg)).trans (HOX.out W7 BN.out j hj)
                                  have B8 := Lib.hid ((B4.out.trans (BN.out.mono z6)).setCell (p := ⟨gr, x, none⟩) hgB (.slice (some ⟨gx, 0, none⟩) (2 * m) cnn))
                                  clear hput H7
                                  go_wp2
                                  go_roundw
                                  case rel => exact ⟨x + 1, by omega, by go_num, H8.out, OC8.out, B8.out⟩
                                  case measure => simp [intOf]; omega
                        · have hxm : x = m := by omega
                          have H5 := Lib.hid (H4.out.congr (f' := clearF h k) fun p q hp _ => by rw [hxm]; exact cleP_end hp q)
                          clear H4 hxm
                          go_wp2
                          go_roundw
                          case rel => exact ⟨k + 1, by omega, by go_num, ⟨d2, b4, s4, c4, _, rfl, bd3, J3.out, H5.out, HB4.out⟩, B4.out⟩
                          case measure => simp [intOf]; omega
            · have htm : t = m := by omega
              have hdr0 := HH.out.hd 0 (by omega)
              have ST : Hid (Stuck m (2 * m) (augF m A)) := Lib.hid ⟨k, g, d, hlt, JJ.out, fun x h1 h2 => HZ.out x h1 (by omega)⟩
              subst htm
              have tt : ((t : Int) == (t : Int)) = true := by simp
              clear hdr0
              go_wp2
              go_ret2
              exact ⟨BB.out, .inl ⟨rfl, ST.out⟩⟩
        · have hkm : k = m := by omega
          subst hkm
          have kk : ¬ ((k : Int) < (k : Int)) := by omega
          have zW := BB.out.size
          go_wp2
          have Q0 : Hid (GrowSS W.heap.size (W.alloc (.cells #[] 22)) (.slice (some ⟨W.heap.size, 0, none⟩) 0 0) 0 []) := Lib.hid (GrowSS.empty W)
          have QB0 := Lib.hid (below1 W (.cells #[] 22))
          go_loopw [19, 20] (fun ov iv wr => ∃ i : Nat, i ≤ k ∧ iv = .int .i64 i ∧ (∃ a cd os, ov = .slice a i cd ∧ os.map RowV.xs = mkM i k (fun i t => g i (k + t)) ∧ GrowSS W.heap.size wr (.slice a i cd) i os) ∧ Below W.heap.size W wr) (fun _ iv _ => k - (intOf iv).toNat)
          case atStart => exact ⟨0, Nat.zero_le _, rfl, ⟨_, _, [], rfl, rfl, Q0.out⟩, QB0.out⟩
          case round =>
            obtain ⟨i, hi2, rfl, ⟨y, cdd, os, rfl, hos, hG⟩, hb⟩ := hrel
            clear Q0 QB0
            have GG := Lib.hid hG; have HOS := Lib.hid hos; have QB := Lib.hid hb
            clear hG hos hb
            obtain ⟨W2, hW2⟩ : ∃ x, x = wr := ⟨_, rfl⟩
            subst hW2
            by_cases hli : i < k
            · have zw2 := QB.out.size
              have i1' : (i : Int) < (k : Int) := by omega
              have H2 := HH.out.below QB.out
              have hdi : W2.cell? ⟨gr, i, none⟩ = some (.slice (some ⟨b i, s i, none⟩) (2 * k) (c i)) := H2.hd i hli
              have HRD : Hid (Reads W2 (some ⟨b i, s i + k, none⟩) k ((List.range k).map (fun t => g i (k + t)))) := Lib.hid ⟨by simp, .inr ⟨b i, s i + k, rfl, fun j hj => by rw [range_getD k j _ hj, Nat.add_assoc]; exact H2.el i (k + j) hli (by omega)⟩⟩
              have hcp := (HBB.out i hli).2
              have l0 : 0 ≤ (k : Int) := by omega
              have l1 : (k : Int) ≤ ((2 * k : Nat) : Int) := by omega
              have l2 : (k : Int) ≤ (c i : Int) := by omega
              have l3 : ((2 * k : Nat) : Int) ≤ (c i : Int) := by omega
              have l4 : 2 * k - k = k := by omega
              obtain ⟨bi, hbi⟩ : ∃ z, z = b i := ⟨_, rfl⟩
              obtain ⟨si, hsi⟩ : ∃ z, z = s i := ⟨_, rfl⟩
              obtain ⟨ci, hci⟩ : ∃ z, z = c i := ⟨_, rfl⟩
              rw [← hbi, ← hsi] at hdi HRD
              rw [← hci] at hdi l2 l3
              clear hbi hsi hci H2
              go_wp2_with fail
              refine (l01Own_any (some ⟨bi, si + k, none⟩) k _ ((List.range k).map (fun t => g i (k + t))) W2 HRD.out (by omega)).mono ?_
              rintro e w5 ⟨aw, cw, rfl, ho, hb5⟩
              obtain ⟨g6, rfl, hg61, hg62⟩ := ho.block (by omega)
              have O6 := Lib.hid ho
              have z5 := hb5.size
              have G2 := Lib.hid (GG.out.below hb5)
              have B7 := Lib.hid (below_go QB.out hb5 zw2)
              have hgl := GG.out.lt
              clear ho hb5 hdi
              go_wp2_with (at_builtin; refine wpList_append_own_at _ rfl _ _ 32 rfl W.heap.size 22 i1 (.slice none 0 0) 1 24 Try.underlying32 hj hs0 hs1 hs2 rfl (by decide) _ _ _ rfl (World.ownsRow.alloc G2.out.own _) ⟨w5.heap.size, 0, none⟩ 1 1 [.slice (some ⟨g6, 0, none⟩) k cw] rfl rfl (cell_one_new w5 _ _) (fun u hu => by simp at hu; subst hu; rfl) (by unfold maxLen; omega) (by omega) (by simp; omega) ?_)
              intro v' w7 hown hgrow _ hat
              have hgx := G2.out.append (O6.out.mono zw2) (by omega) (fun y hy => by have := hgl.1 y hy; omega) (fun j hj => by have := hgl.2 j hj; omega) hown hgrow (by simpa using hat)
              have hbx := G2.out.appBelow B7.out.size hgrow
              obtain ⟨a2, c2, rfl⟩ := hgx.form
              have GX := Lib.hid hgx
              have BX := Lib.hid (B7.out.trans hbx)
              clear hgx hbx hown hgrow hat l4
              go_wp2
              go_roundw
              case rel => exact ⟨i + 1, by omega, by go_num, ⟨a2, c2, _, rfl, by rw [List.map_append, HOS.out, mkM_succ]; rfl, GX.out⟩, BX.out⟩
              case measure => simp [intOf]; omega
            · have hik : i = k := by omega
              subst hik
              go_wp2
              go_ret2
              exact ⟨BB.out.trans (QB.out.mono zW), .inr ⟨d, g, y, cdd, os, rfl, hd, JJ.out, HOS.out, GG.out.low zW⟩⟩

end Go.Proofs.Ytelmdfkcclhhjaa
