/- Ranks modulo a prime: the model's walk. -/
import Derived.Test.YtelmdfkcclhhjaaRkS
import Derived.Deep.RegionLaw
import Derived.Deep.AppendLies
namespace Go.Proofs.Ytelmdfkcclhhjaa
open Go.RowKit Go.ChangeShapes

set_option maxRecDepth 100000 in
set_option maxHeartbeats 4000000 in
theorem l08Rank_any (B g q cap : Nat) (b0 s0 c0 : Nat → Nat) (f0 : Nat → Nat → Int) (pn : Nat) (w : World) (hH : HMx w g q (fun _ => q) b0 s0 c0 f0) (hBg : B ≤ g) (hBb : ∀ i, i < q → B ≤ b0 i) (hf : ∀ i j, i < q → j < q → 0 ≤ f0 i j ∧ f0 i j < (pn : Int)) (h0 : 0 < q) (h8 : q ≤ 8) (hp : PrimeZ (pn : Int)) (hpp : prmN pn = true) (hp3 : 3 ≤ pn) (hp97 : pn ≤ 97) :
    Calls Try.prog 49 #[.slice (some ⟨g, 0, none⟩) q cap, .int .i64 pn] w fun e w' => e = .returned (.int .i64 (rk (pn : Int) (mkM q q f0) q : Nat)) ∧ Below B w w' := by
  obtain ⟨i0, hi, hz0, hz1, hz2⟩ := info_parts infoInt
  obtain ⟨p, hpe⟩ : ∃ p : Int, p = (pn : Int) := ⟨_, rfl⟩
  have HPE := Lib.hid hpe
  rw [← hpe] at hf hp ⊢
  obtain ⟨A, hA⟩ : ∃ A, A = mkM q q f0 := ⟨_, rfl⟩
  rw [← hA]
  have H0 := Lib.hid hH; have HB0 := Lib.hid hBb; have F0 := Lib.hid hf; have HA := Lib.hid (show restM q f0 0 = A by rw [hA]; rfl); have HP := Lib.hid hp; have HPP := Lib.hid hpp
  have p3 : 3 ≤ p := by omega
  have p97 : p ≤ 97 := by omega
  clear hH hBb hf hA hp hpp hpe
  go_enter Try.func49, Try.ntmps49
  go_wp2
  go_loopw [5, 6] (fun v5 cv wr => ∃ c : Nat, c ≤ q ∧ cv = .int .i64 c ∧ (∃ (rr : Nat) (b s cc : Nat → Nat) (f : Nat → Nat → Int), rr ≤ c ∧ rr = rk p A c ∧ v5 = .int .i64 rr ∧ HMx wr g q (fun _ => q) b s cc f ∧ (∀ i, i < q → B ≤ b i) ∧ (∀ i j, i < q → j < q → 0 ≤ f i j ∧ f i j < p) ∧ Left_ p A c (restM q f rr)) ∧ Below B w wr) (fun _ cv _ => q - (intOf cv).toNat)
  case atStart => exact ⟨0, Nat.zero_le _, rfl, ⟨0, b0, s0, c0, f0, Nat.le_refl _, rfl, rfl, H0.out, HB0.out, F0.out, by rw [HA.out]; exact Left_.start _ _⟩, Below.refl _ _⟩
  case round =>
    obtain ⟨c, hc, rfl, ⟨rr, b, s, cc, f, hrr, hrk, rfl, hH, hBb, hf, hL⟩, hb⟩ := hrel
    clear H0 HB0 F0
    have HH := Lib.hid hH; have HBB := Lib.hid hBb; have FF := Lib.hid hf; have LL := Lib.hid hL; have BB := Lib.hid hb; have RK := Lib.hid hrk
    clear hH hBb hf hL hb hrk
    obtain ⟨W, hW⟩ : ∃ x, x = wr := ⟨_, rfl⟩
    subst hW
    have q0 : 0 < (q : Int) := by omega
    have hd0 : W.cell? ⟨g, 0, none⟩ = some (.slice (some ⟨b 0, s 0, none⟩) q (cc 0)) := HH.out.hd 0 h0
    by_cases hlt : c < q
    · have zB := BB.out.size
      have c1' : (c : Int) < (q : Int) := by omega
      go_wp2
      clear hd0
      go_loop [7] (fun tv => ∃ t : Nat, t ≤ q ∧ rr ≤ t ∧ tv = .int .i64 t ∧ ∀ i, rr ≤ i → i < t → f i c = 0) (fun tv => q - (intOf tv).toNat)
      case atStart => exact ⟨rr, by omega, Nat.le_refl _, rfl, fun i h1 h2 => absurd h2 (by omega)⟩
      case round =>
        obtain ⟨t, ht, hrt, rfl, hz⟩ := hrel
        have HZ := Lib.hid hz; clear hz
        by_cases hlq : t < q
        · have t1' : (t : Int) < (q : Int) := by omega
          have hdt : W.cell? ⟨g, t, none⟩ = some (.slice (some ⟨b t, s t, none⟩) q (cc t)) := HH.out.hd t hlq
          have het := HH.out.el t c hlq hlt
          have bt := FF.out t c hlq hlt
          by_cases hzero : f t c = 0
          · rw [hzero] at het
            go_wp2
            go_round
            case rel => exact ⟨t + 1, by omega, by omega, by go_num, fun i h1 h2 => by
              by_cases e : i = t
              · subst e; exact hzero
              · exact HZ.out i h1 (by omega)⟩
            case measure => simp [intOf]; omega
          · obtain ⟨a, ha⟩ : ∃ a, a = f t c := ⟨_, rfl⟩
            rw [← ha] at het bt hzero
            have t0 : (a == 0) = false := by simpa using hzero
            have tne : ((t : Int) == (q : Int)) = false := by simp; omega
            have hdr : W.cell? ⟨g, rr, none⟩ = some (.slice (some ⟨b rr, s rr, none⟩) q (cc rr)) := HH.out.hd rr (by omega)
            have HAF := Lib.hid ha
            have fgt := HH.out.fg t
            clear ha
            go_upto_region 11 with fail
            have hcr : (W.setCell ⟨g, t, none⟩ (.slice (some ⟨b rr, s rr, none⟩) q (cc rr))).cell? ⟨g, rr, none⟩ = some (.slice (some ⟨b rr, s rr, none⟩) q (cc rr)) := by
              by_cases e : t = rr
              · subst e; exact World.cell?_setCell_same _ _ _ hdr
              · exact (World.cell?_setCell_other _ _ _ _ (by intro e3; injection e3 with e4 e5; exact e e5)).trans hdr
            have fgr : (W.setCell ⟨g, t, none⟩ (.slice (some ⟨b rr, s rr, none⟩) q (cc rr))).frozen? ⟨g, rr, none⟩ = false := by rw [World.frozen?_setCell]; exact HH.out.fg rr
            obtain ⟨b', s', c', hsw, hsb⟩ := HH.out.swap (r := rr) (t := t) (by omega) hlq
            have H2 := Lib.hid hsw
            have HB2 : Hid (∀ i, i < q → B ≤ b' i) := Lib.hid fun i hi => by
              obtain ⟨j, hj, e⟩ := hsb i hi
              rw [e]; exact HBB.out j hj
            have HPC : Hid (∀ j, j < q → ((W.setCell ⟨g, t, none⟩ (.slice (some ⟨b rr, s rr, none⟩) q (cc rr))).setCell ⟨g, rr, none⟩ (.slice (some ⟨b t, s t, none⟩) q (cc t))).cell? ⟨b t, s t + j, none⟩ = some (.int .i64 (f t j))) := Lib.hid fun j hj => (World.cell?_setCell_far _ _ _ _ (Ne.symm (HH.out.ne t hlq))).trans ((World.cell?_setCell_far _ _ _ _ (Ne.symm (HH.out.ne t hlq))).trans (HH.out.el t j hlq hj))
            have B2 := Lib.hid ((BB.out.setCell (p := ⟨g, t, none⟩) hBg (.slice (some ⟨b rr, s rr, none⟩) q (cc rr))).setCell (p := ⟨g, rr, none⟩) hBg (.slice (some ⟨b t, s t, none⟩) q (cc t)))
            have HGB := Lib.hid (Ne.symm (HH.out.ne t hlq))
            have HSR := Lib.hid (swF_rem (p := p) (show rr < q by omega) hlq FF.out)
            have HFT := Lib.hid (show ∀ j, j < q → 0 ≤ f t j ∧ f t j < p from fun j hj => FF.out t j hlq hj)
            clear hsw hsb het hdr
            go_upto_region 12 with fail
            obtain ⟨bt, hbt⟩ : ∃ x, x = b t := ⟨_, rfl⟩
            obtain ⟨st, hst⟩ : ∃ x, x = s t := ⟨_, rfl⟩
            obtain ⟨ct, hct⟩ : ∃ x, x = cc t := ⟨_, rfl⟩
            obtain ⟨V, hV⟩ : ∃ V, V = (W.setCell ⟨g, t, none⟩ (.slice (some ⟨b rr, s rr, none⟩) q (cc rr))).setCell ⟨g, rr, none⟩ (.slice (some ⟨b t, s t, none⟩) q (cc t)) := ⟨_, rfl⟩
            rw [← hV] at H2 HPC B2 ⊢
            rw [← hbt, ← hst] at HPC ⊢
            rw [← hbt] at HGB
            rw [← hct]
            clear hV hcr fgr fgt hdt hbt hst hct
            obtain ⟨a0, ha0⟩ : ∃ a0 : Nat, a = (a0 : Int) := ⟨a.toNat, by omega⟩
            have hpe := HPE.out
            obtain ⟨is, his1, his2, his3⟩ := inv_ex (a := a0) HPP.out hp97 (by omega) (by omega)
            have hisI : ((is : Int) * a) % p = 1 := by rw [ha0, hpe]; exact_mod_cast his3
            have HIS := Lib.hid hisI
            have hcP := HPC.out c hlt
            rw [← HAF.out] at hcP
            have pne : ¬ p = 0 := by omega
            clear ha0 his3 hisI hpe
            go_wp2
            go_loop [9] (fun vv => ∃ v : Nat, 1 ≤ v ∧ v ≤ is ∧ vv = .int .i64 v) (fun vv => is - (intOf vv).toNat)
            case atStart => exact ⟨1, Nat.le_refl _, his1, rfl⟩
            case round =>
              obtain ⟨v, hv1, hv2, rfl⟩ := hrel
              have ma : 0 ≤ (v : Int) * a ∧ (v : Int) * a ≤ 9409 := small_mul (by omega) (by omega)
              have wm : IntKind.i64.wrap ((v : Int) * a) = (v : Int) * a := IntWalk.i64_in _ (by omega)
              have em : ((v : Int) * a).tmod p = ((v : Int) * a) % p := Int.tmod_eq_emod_of_nonneg ma.1
              have bm : 0 ≤ ((v : Int) * a) % p ∧ ((v : Int) * a) % p < p := ⟨Int.emod_nonneg _ pne, Int.emod_lt_of_pos _ (by omega)⟩
              have hvi : ((v : Int) * a) % p ≠ 1 → v ≠ is := fun h e => h (by rw [e]; exact HIS.out)
              have hdv : ((v : Int) * a) % p = 1 → p ∣ (v : Int) * a - 1 := fun h => Int.dvd_self_sub_of_emod_eq h
              obtain ⟨y, hy⟩ : ∃ y, y = ((v : Int) * a) % p := ⟨_, rfl⟩
              rw [← hy] at em bm hvi hdv
              have wy : IntKind.i64.wrap y = y := IntWalk.i64_in _ (by omega)
              have HVI := Lib.hid hvi; have HDV := Lib.hid hdv
              clear hy hvi hdv ma bm
              by_cases hy1 : y = 1
              rotate_left
              · have ty : (y != 1) = true := by simpa using hy1
                have hne := HVI.out hy1
                go_wp2
                go_round
                case rel => exact ⟨v + 1, by omega, by omega, by go_num⟩
                case measure => simp [intOf]; omega
              · subst hy1
                have HDI := Lib.hid (HDV.out rfl)
                have wr1 : IntKind.i64.wrap ((rr : Int) + 1) = (rr : Int) + 1 := IntWalk.i64_in _ (by omega)
                have hprow : swF f rr t rr = f t := by unfold swF; rw [if_pos rfl]
                have HPROW := Lib.hid hprow
                have H3 : Hid (HMx V g q (fun _ => q) b' s' c' (clrI p v (swF f rr t) rr c (rr + 1))) := Lib.hid { H2.out with el := (H2.out.toRMx.congr fun i j _ _ => (clrI_start p v (swF f rr t) rr c (rr + 1) j (Nat.le_refl _) i).symm).el }
                have t1 : ((1 : Int) != 1) = false := by simp
                clear hprow
                go_upto_region 15 with fail
                clear em wm wy t1 hcP
                go_wp2
                go_loopw [10] (fun iv wr => ∃ i : Nat, rr + 1 ≤ i ∧ i ≤ q ∧ iv = .int .i64 i ∧ (∃ b s c3, HMx wr g q (fun _ => q) b s c3 (clrI p v (swF f rr t) rr c i) ∧ ∀ x, x < q → B ≤ b x) ∧ (∀ j, j < q → wr.cell? ⟨bt, st + j, none⟩ = some (.int .i64 (f t j))) ∧ Below B w wr) (fun iv _ => q - (intOf iv).toNat)
                case atStart => exact ⟨rr + 1, Nat.le_refl _, by omega, by go_num, ⟨b', s', c', H3.out, HB2.out⟩, HPC.out, B2.out⟩
                case round =>
                  obtain ⟨i, hri, hiq, rfl, ⟨b2, s2, c2, hH, hBb⟩, hPc, hb⟩ := hrel
                  clear H3 H2 HB2 HPC B2
                  have H4 := Lib.hid hH; have HB4 := Lib.hid hBb; have PC := Lib.hid hPc; have B4 := Lib.hid hb
                  clear hH hBb hPc hb
                  obtain ⟨W4, hW4⟩ : ∃ x, x = wr := ⟨_, rfl⟩
                  subst hW4
                  by_cases hliq : i < q
                  · have i1' : (i : Int) < (q : Int) := by omega
                    have zB4 := B4.out.size
                    have hdi : W4.cell? ⟨g, i, none⟩ = some (.slice (some ⟨b2 i, s2 i, none⟩) q (c2 i)) := H4.out.hd i hliq
                    have HEI : Hid (∀ W, Below W4.heap.size W4 W → ∀ j, j < q → W.cell? ⟨b2 i, s2 i + j, none⟩ = some (.int .i64 (swF f rr t i j))) := Lib.hid fun W h j hj => by
                      have := (H4.out.toRMx.below h).el i j hliq hj
                      rwa [clrI_at] at this
                    have HDI2 : Hid (∀ W, Below W4.heap.size W4 W → W.cell? ⟨g, i, none⟩ = some (.slice (some ⟨b2 i, s2 i, none⟩) q (c2 i))) := Lib.hid fun W h => (H4.out.toRMx.below h).hd i hliq
                    have HPJ : Hid (∀ W, Below W4.heap.size W4 W → ∀ j, j < q → W.cell? ⟨bt, st + j, none⟩ = some (.int .i64 (f t j))) := Lib.hid fun W h j hj => (h.cell (World.block_lt_of_cell? _ _ (PC.out j hj))).trans (PC.out j hj)
                    have HXI := Lib.hid (show ∀ j, j < q → 0 ≤ swF f rr t i j ∧ swF f rr t i j < p from fun j hj => HSR.out i j hliq hj)
                    have hec := HEI.out W4 (Below.refl _ _) c hlt
                    have bx := HXI.out c hlt
                    have HUP := Lib.hid (fun x j => clrI_upd p (v : Int) (swF f rr t) c (show rr < i by omega) x j)
                    rw [HPROW.out] at HUP
                    obtain ⟨xi, hxi⟩ : ∃ x, x = swF f rr t i := ⟨_, rfl⟩
                    rw [← hxi] at HEI HXI hec bx HUP
                    obtain ⟨xc, hxc⟩ : ∃ x, x = xi c := ⟨_, rfl⟩
                    rw [← hxc] at hec bx
                    have m1 : 0 ≤ xc * (v : Int) ∧ xc * (v : Int) ≤ 9409 := small_mul (by omega) (by omega)
                    have wm : IntKind.i64.wrap (xc * (v : Int)) = xc * (v : Int) := IntWalk.i64_in _ (by omega)
                    have em : (xc * (v : Int)).tmod p = (xc * (v : Int)) % p := Int.tmod_eq_emod_of_nonneg m1.1
                    have bm : 0 ≤ (xc * (v : Int)) % p ∧ (xc * (v : Int)) % p < p := ⟨Int.emod_nonneg _ pne, Int.emod_lt_of_pos _ (by omega)⟩
                    obtain ⟨fac, hfac⟩ : ∃ y, y = (xc * (v : Int)) % p := ⟨_, rfl⟩
                    rw [← hfac] at em bm
                    have wf : IntKind.i64.wrap fac = fac := IntWalk.i64_in _ (by omega)
                    rw [← hxc, ← hfac] at HUP
                    obtain ⟨bi, hbi⟩ : ∃ x, x = b2 i := ⟨_, rfl⟩
                    obtain ⟨si, hsi⟩ : ∃ x, x = s2 i := ⟨_, rfl⟩
                    obtain ⟨ci, hci⟩ : ∃ x, x = c2 i := ⟨_, rfl⟩
                    rw [← hbi, ← hsi] at hdi HEI HDI2 hec
                    rw [← hci] at hdi HDI2
                    clear hxi hxc hfac hbi hsi hci m1
                    go_upto_region 19 with fail
                    have N0 : Hid (Own W4.heap.size (W4.alloc (.cells #[] 2)) (some ⟨W4.heap.size, 0, none⟩) 0 0 ((List.range 0).map (clrE p fac (f t) xi))) := Lib.hid (World.ownsRow_lit (base := W4.heap.size) (size := 1) (e := 2) W4 #[] 0 (Nat.le_refl _) (Nat.zero_le _) rfl)
                    have BN0 := Lib.hid (below1 W4 (.cells #[] 2))
                    clear em wm wf hec hdi
                    go_wp2
                    go_loopw [12, 13] (fun nv kv wr => ∃ k : Nat, k ≤ q ∧ kv = .int .i64 k ∧ (∃ an cn, nv = .slice an k cn ∧ Own W4.heap.size wr an k cn ((List.range k).map (clrE p fac (f t) xi))) ∧ Below W4.heap.size W4 wr) (fun _ kv _ => q - (intOf kv).toNat)
                    case atStart => exact ⟨0, Nat.zero_le _, rfl, ⟨_, _, rfl, N0.out⟩, BN0.out⟩
                    case round =>
                      obtain ⟨k, hk, rfl, ⟨an, cn, rfl, hN⟩, hb⟩ := hrel
                      clear N0 BN0
                      have NN := Lib.hid hN; have BN := Lib.hid hb; clear hN hb
                      obtain ⟨W5, hW5⟩ : ∃ x, x = wr := ⟨_, rfl⟩
                      subst hW5
                      by_cases hlk : k < q
                      · have k1' : (k : Int) < (q : Int) := by omega
                        have ck := HEI.out W5 BN.out k hlk
                        have hd5 := HDI2.out W5 BN.out
                        have pk := HPJ.out W5 BN.out k hlk
                        have bk := HXI.out k hlk
                        have bpk := HFT.out k hlk
                        have zN := BN.out.size
                        have HRS := Lib.hid (show (List.range (k + 1)).map (clrE p fac (f t) xi) = (List.range k).map (clrE p fac (f t) xi) ++ [(xi k - fac * f t k) % p] by rw [List.range_succ, List.map_append]; rfl)
                        obtain ⟨u, hu⟩ : ∃ x, x = xi k := ⟨_, rfl⟩
                        obtain ⟨y, hy⟩ : ∃ x, x = f t k := ⟨_, rfl⟩
                        rw [← hu] at ck bk HRS
                        rw [← hy] at pk bpk HRS
                        have m2 : 0 ≤ fac * y ∧ fac * y ≤ 9409 := small_mul (by omega) (by omega)
                        have w1 : IntKind.i64.wrap (fac * y) = fac * y := IntWalk.i64_in _ (by omega)
                        have w2 : IntKind.i64.wrap (u - fac * y) = u - fac * y := IntWalk.i64_in _ (by omega)
                        have hmm := mod_modp (p := p) (by omega) (u - fac * y)
                        have b1 : -p < (u - fac * y).tmod p := Int.lt_tmod_of_pos _ (by omega)
                        have b2 : (u - fac * y).tmod p < p := Int.tmod_lt_of_pos _ (by omega)
                        obtain ⟨r1, hr1⟩ : ∃ r, (u - fac * y).tmod p = r := ⟨_, rfl⟩
                        rw [hr1] at hmm b1 b2
                        have w3 : IntKind.i64.wrap r1 = r1 := IntWalk.i64_in _ (by omega)
                        have w4 : IntKind.i64.wrap (r1 + p) = r1 + p := IntWalk.i64_in _ (by omega)
                        have b3 : 0 ≤ (u - fac * y) % p ∧ (u - fac * y) % p < p := ⟨Int.emod_nonneg _ pne, Int.emod_lt_of_pos _ (by omega)⟩
                        obtain ⟨z, hz⟩ : ∃ z, z = (u - fac * y) % p := ⟨_, rfl⟩
                        rw [← hz] at hmm b3 HRS
                        have w5 : IntKind.i64.wrap z = z := IntWalk.i64_in _ (by omega)
                        have HEK : Hid (∀ W, Below W4.heap.size W4 W → W.cell? ⟨bi, si + k, none⟩ = some (.int .i64 u)) := Lib.hid fun W h => by rw [hu]; exact HEI.out W h k hlk
                        have HPK : Hid (∀ W, Below W4.heap.size W4 W → W.cell? ⟨bt, st + k, none⟩ = some (.int .i64 y)) := Lib.hid fun W h => by rw [hy]; exact HPJ.out W h k hlk
                        clear hu hy hz m2 b1 b2 b3 bk bpk
                        go_upto_region 22 with fail
                        have KB : Hid (Below W4.heap.size W4 W5.drew) := Lib.hid BN.out.drew
                        refine wp_region_held_drew (S := (fun w' => w'.cell? ⟨g, i, none⟩ = some (.slice (some ⟨bi, si, none⟩) q ci) ∧ w'.cell? ⟨bi, si + k, none⟩ = some (.int .i64 u) ∧ w'.cell? ⟨bt, st + k, none⟩ = some (.int .i64 y))) (by kernel_rfl) ?_ (fun hHeld => ?_)
                        · exact ⟨HDI2.out _ KB.out, HEK.out _ KB.out, HPK.out _ KB.out⟩
                        refine wpAnyH_take (i := 0) (oi := { dst := some 100, op := Op.move (Operand.tmp 12), type := 22, pos := "l08_free.go:270", after := #[], guard := none }) (v := ?_) rfl (by kernel_rfl) (by kernel_rfl) (by kernel_rfl) (fun _ _ _ h => h) (Or.inl ⟨by rfl, ?_⟩) (by assumption) ?_
                        rotate_left
                        · intro w hSw
                          (try dsimp only at hSw)
                          go_simp
                          try with_reducible rfl
                        try simp only [Act.put, List.setIfInBounds_toArray, List.set_cons_zero, List.set_cons_succ]
                        refine wpAnyH_take (i := 1) (oi := { dst := some 101, op := Op.move (Operand.tmp 0), type := 32, pos := "l08_free.go:270", after := #[], guard := none }) (v := ?_) rfl (by kernel_rfl) (by kernel_rfl) (by kernel_rfl) (fun _ _ _ h => h) (Or.inl ⟨by rfl, ?_⟩) (by assumption) ?_
                        rotate_left
                        · intro w hSw
                          (try dsimp only at hSw)
                          go_simp
                          try with_reducible rfl
                        try simp only [Act.put, List.setIfInBounds_toArray, List.set_cons_zero, List.set_cons_succ]
                        refine wpAnyH_take (i := 2) (oi := { dst := some 102, op := Op.move (Operand.tmp 10), type := 3, pos := "l08_free.go:270", after := #[], guard := none }) (v := ?_) rfl (by kernel_rfl) (by kernel_rfl) (by kernel_rfl) (fun _ _ _ h => h) (Or.inl ⟨by rfl, ?_⟩) (by assumption) ?_
                        rotate_left
                        · intro w hSw
                          (try dsimp only at hSw)
                          go_simp
                          try with_reducible rfl
                        try simp only [Act.put, List.setIfInBounds_toArray, List.set_cons_zero, List.set_cons_succ]
                        refine wpAnyH_take (i := 3) (oi := { dst := some 103, op := Op.indexAddr 32 (Operand.tmp 101) (Operand.tmp 102), type := 0, pos := "l08_free.go:270", after := #[{ on := 1, ground := Ground.data }, { on := 2, ground := Ground.data }], guard := none }) (v := ?_) rfl (by kernel_rfl) (by kernel_rfl) (by kernel_rfl) (fun _ _ _ h => h) (Or.inl ⟨by rfl, ?_⟩) (by assumption) ?_
                        rotate_left
                        · intro w hSw
                          (try dsimp only at hSw)
                          go_simp
                          try with_reducible rfl
                        try simp only [Act.put, List.setIfInBounds_toArray, List.set_cons_zero, List.set_cons_succ]
                        refine wpAnyH_take (i := 4) (oi := { dst := some 104, op := Op.load 22 (Operand.tmp 103), type := 22, pos := "l08_free.go:270", after := #[{ on := 3, ground := Ground.data }], guard := none }) (v := ?_) rfl (by kernel_rfl) (by kernel_rfl) (by kernel_rfl) (fun _ _ _ h => h) (Or.inl ⟨by rfl, ?_⟩) (by assumption) ?_
                        rotate_left
                        · intro w hSw
                          (try dsimp only at hSw)
                          go_simp
                          try with_reducible rfl
                        try simp only [Act.put, List.setIfInBounds_toArray, List.set_cons_zero, List.set_cons_succ]
                        refine wpAnyH_take (i := 5) (oi := { dst := some 105, op := Op.move (Operand.tmp 13), type := 3, pos := "l08_free.go:270", after := #[], guard := none }) (v := ?_) rfl (by kernel_rfl) (by kernel_rfl) (by kernel_rfl) (fun _ _ _ h => h) (Or.inl ⟨by rfl, ?_⟩) (by assumption) ?_
                        rotate_left
                        · intro w hSw
                          (try dsimp only at hSw)
                          go_simp
                          try with_reducible rfl
                        try simp only [Act.put, List.setIfInBounds_toArray, List.set_cons_zero, List.set_cons_succ]
                        refine wpAnyH_take (i := 6) (oi := { dst := some 106, op := Op.indexAddr 22 (Operand.tmp 104) (Operand.tmp 105), type := 0, pos := "l08_free.go:270", after := #[{ on := 4, ground := Ground.data }, { on := 5, ground := Ground.data }], guard := none }) (v := ?_) rfl (by kernel_rfl) (by kernel_rfl) (by kernel_rfl) (fun _ _ _ h => h) (Or.inl ⟨by rfl, ?_⟩) (by assumption) ?_
                        rotate_left
                        · intro w hSw
                          (try dsimp only at hSw)
                          go_simp
                          try with_reducible rfl
                        try simp only [Act.put, List.setIfInBounds_toArray, List.set_cons_zero, List.set_cons_succ]
                        refine wpAnyH_take (i := 7) (oi := { dst := some 107, op := Op.load 2 (Operand.tmp 106), type := 2, pos := "l08_free.go:270", after := #[{ on := 6, ground := Ground.data }], guard := none }) (v := ?_) rfl (by kernel_rfl) (by kernel_rfl) (by kernel_rfl) (fun _ _ _ h => h) (Or.inl ⟨by rfl, ?_⟩) (by assumption) ?_
                        rotate_left
                        · intro w hSw
                          (try dsimp only at hSw)
                          go_simp
                          try with_reducible rfl
                        try simp only [Act.put, List.setIfInBounds_toArray, List.set_cons_zero, List.set_cons_succ]
                        refine wpAnyH_take (i := 8) (oi := { dst := some 108, op := Op.move (Operand.tmp 11), type := 2, pos := "l08_free.go:270", after := #[], guard := none }) (v := ?_) rfl (by kernel_rfl) (by kernel_rfl) (by kernel_rfl) (fun _ _ _ h => h) (Or.inl ⟨by rfl, ?_⟩) (by assumption) ?_
                        rotate_left
                        · intro w hSw
                          (try dsimp only at hSw)
                          go_simp
                          try with_reducible rfl
                        try simp only [Act.put, List.setIfInBounds_toArray, List.set_cons_zero, List.set_cons_succ]
                        refine wpAnyH_take (i := 9) (oi := { dst := some 109, op := Op.move (Operand.tmp 8), type := 22, pos := "l08_free.go:270", after := #[], guard := none }) (v := ?_) rfl (by kernel_rfl) (by kernel_rfl) (by kernel_rfl) (fun _ _ _ h => h) (Or.inl ⟨by rfl, ?_⟩) (by assumption) ?_
                        rotate_left
                        · intro w hSw
                          (try dsimp only at hSw)
                          go_simp
                          try with_reducible rfl
                        try simp only [Act.put, List.setIfInBounds_toArray, List.set_cons_zero, List.set_cons_succ]
                        refine wpAnyH_take (i := 10) (oi := { dst := some 110, op := Op.move (Operand.tmp 13), type := 3, pos := "l08_free.go:270", after := #[], guard := none }) (v := ?_) rfl (by kernel_rfl) (by kernel_rfl) (by kernel_rfl) (fun _ _ _ h => h) (Or.inl ⟨by rfl, ?_⟩) (by assumption) ?_
                        rotate_left
                        · intro w hSw
                          (try dsimp only at hSw)
                          go_simp
                          try with_reducible rfl
                        try simp only [Act.put, List.setIfInBounds_toArray, List.set_cons_zero, List.set_cons_succ]
                        refine wpAnyH_take (i := 11) (oi := { dst := some 111, op := Op.indexAddr 22 (Operand.tmp 109) (Operand.tmp 110), type := 0, pos := "l08_free.go:270", after := #[{ on := 9, ground := Ground.data }, { on := 10, ground := Ground.data }], guard := none }) (v := ?_) rfl (by kernel_rfl) (by kernel_rfl) (by kernel_rfl) (fun _ _ _ h => h) (Or.inl ⟨by rfl, ?_⟩) (by assumption) ?_
                        rotate_left
                        · intro w hSw
                          (try dsimp only at hSw)
                          go_simp
                          try with_reducible rfl
                        try simp only [Act.put, List.setIfInBounds_toArray, List.set_cons_zero, List.set_cons_succ]
                        refine wpAnyH_take (i := 12) (oi := { dst := some 112, op := Op.load 2 (Operand.tmp 111), type := 2, pos := "l08_free.go:270", after := #[{ on := 11, ground := Ground.data }], guard := none }) (v := ?_) rfl (by kernel_rfl) (by kernel_rfl) (by kernel_rfl) (fun _ _ _ h => h) (Or.inl ⟨by rfl, ?_⟩) (by assumption) ?_
                        rotate_left
                        · intro w hSw
                          (try dsimp only at hSw)
                          go_simp
                          try with_reducible rfl
                        try simp only [Act.put, List.setIfInBounds_toArray, List.set_cons_zero, List.set_cons_succ]
                        refine wpAnyH_take (i := 13) (oi := { dst := some 113, op := Op.binOp BinOp.mul 2 (Operand.tmp 108) (Operand.tmp 112) 2, type := 2, pos := "l08_free.go:270", after := #[{ on := 8, ground := Ground.data }, { on := 12, ground := Ground.data }], guard := none }) (v := ?_) rfl (by kernel_rfl) (by kernel_rfl) (by kernel_rfl) (fun _ _ _ h => h) (Or.inl ⟨by rfl, ?_⟩) (by assumption) ?_
                        rotate_left
                        · intro w hSw
                          (try dsimp only at hSw)
                          go_simp
                          try with_reducible rfl
                        try simp only [Act.put, List.setIfInBounds_toArray, List.set_cons_zero, List.set_cons_succ]
                        refine wpAnyH_take (i := 14) (oi := { dst := some 114, op := Op.binOp BinOp.sub 2 (Operand.tmp 107) (Operand.tmp 113) 2, type := 2, pos := "l08_free.go:270", after := #[{ on := 7, ground := Ground.data }, { on := 13, ground := Ground.data }], guard := none }) (v := ?_) rfl (by kernel_rfl) (by kernel_rfl) (by kernel_rfl) (fun _ _ _ h => h) (Or.inl ⟨by rfl, ?_⟩) (by assumption) ?_
                        rotate_left
                        · intro w hSw
                          (try dsimp only at hSw)
                          go_simp
                          try with_reducible rfl
                        try simp only [Act.put, List.setIfInBounds_toArray, List.set_cons_zero, List.set_cons_succ]
                        refine wpAnyH_take (i := 15) (oi := { dst := some 115, op := Op.move (Operand.tmp 1), type := 2, pos := "l08_free.go:270", after := #[], guard := none }) (v := ?_) rfl (by kernel_rfl) (by kernel_rfl) (by kernel_rfl) (fun _ _ _ h => h) (Or.inl ⟨by rfl, ?_⟩) (by assumption) ?_
                        rotate_left
                        · intro w hSw
                          (try dsimp only at hSw)
                          go_simp
                          try with_reducible rfl
                        try simp only [Act.put, List.setIfInBounds_toArray, List.set_cons_zero, List.set_cons_succ]
                        refine wpAnyH_take (i := 16) (oi := { dst := some 116, op := Op.binOp BinOp.rem 2 (Operand.tmp 114) (Operand.tmp 115) 2, type := 2, pos := "l08_free.go:270", after := #[{ on := 14, ground := Ground.data }, { on := 15, ground := Ground.data }], guard := none }) (v := ?_) rfl (by kernel_rfl) (by kernel_rfl) (by kernel_rfl) (fun _ _ _ h => h) (Or.inl ⟨by rfl, ?_⟩) (by assumption) ?_
                        rotate_left
                        · intro w hSw
                          (try dsimp only at hSw)
                          go_simp
                          try with_reducible rfl
                        try simp only [Act.put, List.setIfInBounds_toArray, List.set_cons_zero, List.set_cons_succ]
                        refine wpAnyH_take (i := 17) (oi := { dst := some 117, op := Op.move (Operand.tmp 1), type := 2, pos := "l08_free.go:270", after := #[], guard := none }) (v := ?_) rfl (by kernel_rfl) (by kernel_rfl) (by kernel_rfl) (fun _ _ _ h => h) (Or.inl ⟨by rfl, ?_⟩) (by assumption) ?_
                        rotate_left
                        · intro w hSw
                          (try dsimp only at hSw)
                          go_simp
                          try with_reducible rfl
                        try simp only [Act.put, List.setIfInBounds_toArray, List.set_cons_zero, List.set_cons_succ]
                        refine wpAnyH_take (i := 18) (oi := { dst := some 118, op := Op.binOp BinOp.add 2 (Operand.tmp 116) (Operand.tmp 117) 2, type := 2, pos := "l08_free.go:270", after := #[{ on := 16, ground := Ground.data }, { on := 17, ground := Ground.data }], guard := none }) (v := ?_) rfl (by kernel_rfl) (by kernel_rfl) (by kernel_rfl) (fun _ _ _ h => h) (Or.inl ⟨by rfl, ?_⟩) (by assumption) ?_
                        rotate_left
                        · intro w hSw
                          (try dsimp only at hSw)
                          go_simp
                          try with_reducible rfl
                        try simp only [Act.put, List.setIfInBounds_toArray, List.set_cons_zero, List.set_cons_succ]
                        refine wpAnyH_take (i := 19) (oi := { dst := some 119, op := Op.move (Operand.tmp 1), type := 2, pos := "l08_free.go:270", after := #[], guard := none }) (v := ?_) rfl (by kernel_rfl) (by kernel_rfl) (by kernel_rfl) (fun _ _ _ h => h) (Or.inl ⟨by rfl, ?_⟩) (by assumption) ?_
                        rotate_left
                        · intro w hSw
                          (try dsimp only at hSw)
                          go_simp
                          try with_reducible rfl
                        try simp only [Act.put, List.setIfInBounds_toArray, List.set_cons_zero, List.set_cons_succ]
                        refine wpAnyH_take (i := 20) (oi := { dst := some 120, op := Op.binOp BinOp.rem 2 (Operand.tmp 118) (Operand.tmp 119) 2, type := 2, pos := "l08_free.go:270", after := #[{ on := 18, ground := Ground.data }, { on := 19, ground := Ground.data }], guard := none }) (v := ?_) rfl (by kernel_rfl) (by kernel_rfl) (by kernel_rfl) (fun _ _ _ h => h) (Or.inl ⟨by rfl, ?_⟩) (by assumption) ?_
                        rotate_left
                        · intro w hSw
                          (try dsimp only at hSw)
                          go_simp
                          try with_reducible rfl
                        try simp only [Act.put, List.setIfInBounds_toArray, List.set_cons_zero, List.set_cons_succ]
                        refine wpAnyH_ready (rs := [21]) (by kernel_rfl) (by simp) ?_
                        refine AllReadyH.cons (o := { dst := some 121, op := Op.buildSlice 22 1 #[(0, Operand.tmp 120)], type := 22, pos := "l08_free.go:270", after := #[{ on := 20, ground := Ground.data }], guard := none }) rfl (fun K hK => ?_) ?_
                        · go_simp
                          replace KB := Lib.hid (KB.out.alloc KB.out.size (.cells #[.int .i64 z] 2))
                          refine hK.out _ _ ?_ (fun hHeld => ?_)
                          · exact ⟨HDI2.out _ KB.out, HEK.out _ KB.out, HPK.out _ KB.out⟩
                          clear hK K
                          try simp only [Act.put, List.setIfInBounds_toArray, List.set_cons_zero, List.set_cons_succ]
                          refine wpAnyH_ready (rs := [22]) (by kernel_rfl) (by simp) ?_
                          refine AllReadyH.cons (o := { dst := some 122, op := Op.call { callee := Callee.builtin Builtin.append, args := #[Operand.tmp 100, Operand.tmp 121], argTypes := #[22, 22] }, type := 22, pos := "l08_free.go:270", after := #[{ on := 0, ground := Ground.data }, { on := 21, ground := Ground.data }], guard := none }) rfl (fun K hK => ?_) ?_
                          · refine step_append_lies _ rfl _ _ 22 rfl W4.heap.size 2 i0 (.int .i64 0) 1 8 Try.underlying22 hi hz0 hz1 hz2 rfl (by decide) _ _ _ rfl (World.ownsRow.alloc (World.ownsRow.drew NN.out) _) ⟨W5.heap.size, 0, none⟩ 1 1 [.int .i64 z] rfl rfl (one_new W5.drew z _) (one_cell _) (by decide) (by unfold maxLen; omega) (by omega) (by simp; omega) _ rfl ?_
                            intro g2 cap2 w6 hown hgrow _ hlt6
                            have hg2 : (W5.drew.alloc (.cells #[.int .i64 z] 2)).grownBy w6 (Value.slice an k cn).ownBlock := hgrow
                            have hb6 := below_appended (B := W4.heap.size) (w := W5.drew) (wr := W5.drew) (Below.refl _ _) zN (show OwnV W4.heap.size W5.drew _ _ _ from World.ownsRow.drew NN.out) hg2
                            replace KB := Lib.hid (BN.out.trans ((Below.refl W5.heap.size W5).drew.mono zN |>.trans hb6))
                            have ho6 : Own W4.heap.size w6 (some ⟨g2, 0, none⟩) (k + 1) cap2 ((List.range (k + 1)).map (clrE p fac (f t) xi)) := by rw [HRS.out]; exact OwnV.appended hown
                            have O6 := Lib.hid ho6
                            clear ho6 hown hgrow hb6 hg2
                            refine hK.out _ _ ?_ (fun hHeld => ?_)
                            · exact ⟨HDI2.out _ KB.out, HEK.out _ KB.out, HPK.out _ KB.out⟩
                            clear hK K
                            try simp only [Act.put, List.setIfInBounds_toArray, List.set_cons_zero, List.set_cons_succ]
                            refine wpAnyH_ready (rs := [23]) (by kernel_rfl) (by simp) ?_
                            refine AllReadyH.cons (o := { dst := some 12, op := Op.assign (Operand.tmp 122), type := 22, pos := "l08_free.go:270", after := #[{ on := 22, ground := Ground.data }, { on := 22, ground := Ground.chain }, { on := 0, ground := Ground.phase }, { on := 1, ground := Ground.phase }, { on := 2, ground := Ground.phase }, { on := 3, ground := Ground.phase }, { on := 4, ground := Ground.phase }, { on := 5, ground := Ground.phase }, { on := 6, ground := Ground.phase }, { on := 7, ground := Ground.phase }, { on := 8, ground := Ground.phase }, { on := 9, ground := Ground.phase }, { on := 10, ground := Ground.phase }, { on := 11, ground := Ground.phase }, { on := 12, ground := Ground.phase }, { on := 13, ground := Ground.phase }, { on := 14, ground := Ground.phase }, { on := 15, ground := Ground.phase }, { on := 16, ground := Ground.phase }, { on := 17, ground := Ground.phase }, { on := 18, ground := Ground.phase }, { on := 19, ground := Ground.phase }, { on := 20, ground := Ground.phase }, { on := 21, ground := Ground.phase }, { on := 22, ground := Ground.phase }], guard := none }) rfl (fun K hK => ?_) ?_
                            · go_simp
                              refine hK.out _ _ ?_ (fun hHeld => ?_)
                              · exact ⟨HDI2.out _ KB.out, HEK.out _ KB.out, HPK.out _ KB.out⟩
                              clear hK K
                              try simp only [Act.put, List.setIfInBounds_toArray, List.set_cons_zero, List.set_cons_succ]
                              refine wpAnyH_done (by kernel_rfl) ?_ _
                              go_wp2
                              go_roundw
                              case rel => exact ⟨k + 1, by omega, by go_num, ⟨_, _, rfl, O6.out⟩, KB.out⟩
                              case measure => simp [intOf]; omega
                            exact AllReadyH.nil
                          exact AllReadyH.nil
                        exact AllReadyH.nil
                      · have hkq : k = q := by omega
                        subst hkq
                        obtain ⟨gn, rfl, hgn1, hgn2⟩ := NN.out.block h0
                        have H5 := H4.out.below BN.out
                        have hdi5 := HDI2.out W5 BN.out
                        have fgi := H5.fg i
                        have zg4 := H4.out.lt
                        have hput := H5.put (f' := clrI p v (swF f rr t) rr c (i + 1)) (i := i) (bn := gn) (sn := 0) (cn := cn) hliq (by omega) (fun j hj => by
                          rw [Nat.zero_add, NN.out.cellAt j hj, range_getD k j _ hj, ← HUP.out i j, if_pos rfl]) (fun x j _ hx _ => by rw [← HUP.out x j, if_neg hx])
                        have HX := Lib.hid hput
                        have HBX : Hid (∀ x, x < k → B ≤ (fun x => if x = i then gn else b2 x) x) := Lib.hid fun x hx => by
                          by_cases e : x = i
                          · simp only [if_pos e]; have := B4.out.size; omega
                          · simp only [if_neg e]; exact HB4.out x hx
                        have PX : Hid (∀ j, j < k → (W5.setCell ⟨g, i, none⟩ (.slice (some ⟨gn, 0, none⟩) k cn)).cell? ⟨bt, st + j, none⟩ = some (.int .i64 (f t j))) := Lib.hid fun j hj => (World.cell?_setCell_far _ _ _ _ (by show g ≠ bt; exact HGB.out)).trans (HPJ.out W5 BN.out j hj)
                        have BX := Lib.hid ((B4.out.trans (BN.out.mono (by omega))).setCell (p := ⟨g, i, none⟩) hBg (.slice (some ⟨gn, 0, none⟩) k cn))
                        clear H5 hput
                        go_wp2
                        go_roundw
                        case rel => exact ⟨i + 1, by omega, by omega, by go_num, ⟨_, _, _, HX.out, HBX.out⟩, PX.out, BX.out⟩
                        case measure => simp [intOf]; omega
                  · have hiq2 : i = q := by omega
                    subst hiq2
                    have hel := step_rest HP.out (by omega) FF.out hlt hrt hlq (by rw [← HAF.out]; exact hzero) (iv := (v : Int)) (by rw [← HAF.out]; exact HDI.out)
                    have htk := LL.out.take HP.out hel
                    have HEL := Lib.hid htk.1
                    have HRK := Lib.hid (show rr + 1 = rk p A (c + 1) by rw [htk.2, RK.out])
                    have HCR := Lib.hid (clrI_rem (p := p) (iv := (v : Int)) (r := rr) (c := c) (i := i) (by omega) HSR.out)
                    clear hel htk
                    go_wp2
                    go_roundw
                    case rel => exact ⟨c + 1, by omega, by go_num, ⟨rr + 1, b2, s2, c2, _, by omega, HRK.out, by go_num, H4.out, HB4.out, HCR.out, HEL.out⟩, B4.out⟩
                    case measure => simp [intOf]; omega
        · have htq : t = q := by omega
          have hps := LL.out.pass HP.out (none_dvd (p := p) (fun x hx => by
            obtain ⟨i, h1, h2, rfl⟩ := restM_mem.1 hx
            rw [ent_row _ _ _ hlt]
            exact HZ.out i h1 (by omega)))
          have hps1 := Lib.hid hps.1
          have hps2 := Lib.hid (RK.out.trans hps.2.symm)
          clear hps
          subst htq
          go_wp2
          go_roundw
          case rel => exact ⟨c + 1, by omega, by go_num, ⟨rr, b, s, cc, f, by omega, hps2.out, rfl, HH.out, HBB.out, FF.out, hps1.out⟩, BB.out⟩
          case measure => simp [intOf]; omega
    · have hcq : c = q := by omega
      have HRE := Lib.hid (show rk p A q = rr by rw [← hcq, RK.out])
      have c1' : ¬ ((c : Int) < (q : Int)) := by omega
      go_wp2
      go_ret
      exact ⟨ret_int (by rw [HRE.out]), BB.out⟩

end Go.Proofs.Ytelmdfkcclhhjaa
