/- The model's matrices of Burau over the field: the walk. -/
import Derived.Test.YtelmdfkcclhhjaaBurP
import Derived.Test.YtelmdfkcclhhjaaWMx
import Derived.Test.YtelmdfkcclhhjaaMSo2
import Derived.OwnWalk
import Derived.Great.Walk
namespace Go.Proofs.Ytelmdfkcclhhjaa
open Go.RowKit Go.ChangeShapes Go.Great

/-- Letters of n strands. -/
def LetN (n : Nat) (xs : List Int) : Prop := ∀ i, i < xs.length → xs.getD i 0 ≠ 0 ∧ -(n : Int) < xs.getD i 0 ∧ xs.getD i 0 < n

set_option maxRecDepth 100000 in
set_option maxHeartbeats 4000000 in
theorem l09Burau_any (n : Nat) (ad : Option Addr) (ln cap : Nat) (xs : List Int) (t : Int) (w : World) (h1 : 1 ≤ n) (hn : n ≤ 8) (hr : Reads w ad ln xs) (hx : LetN n xs) (hl : ln ≤ 200) (ht : 0 < t ∧ t < 10007) :
    Calls Try.prog 71 #[.int .i64 n, .slice ad ln cap, .int .i64 t] w fun e w' => ∃ a cd os, e = .returned (.slice a n cd) ∧ os.map RowV.xs = mkM n n (bprF n t xs ln) ∧ GrowSS w.heap.size w' (.slice a n cd) n os ∧ Below w.heap.size w w' := by
  have HL := Lib.hid hr.len
  have R := Lib.hid hr; have HX := Lib.hid hx; have HT := Lib.hid ht
  clear hr hx
  go_enter Try.func71, Try.ntmps71
  go_wp2_with fail
  refine (l09Unit_any n 1 _ (by omega)).mono ?_
  rintro e w1 ⟨a, cd, os, rfl, hos, hG, hb⟩
  have G0 := Lib.hid hG; have M0 := Lib.hid hos; have B0 := Lib.hid hb
  clear hos hG hb
  go_wp2
  go_loopw [7, 8] (fun ov iv wr => ∃ j : Nat, j ≤ ln ∧ iv = .int .i64 j ∧ (∃ a cd os, ov = .slice a n cd ∧ os.map RowV.xs = mkM n n (bprF n t xs j) ∧ GrowSS w.heap.size wr (.slice a n cd) n os) ∧ Below w.heap.size w wr) (fun _ iv _ => ln - (intOf iv).toNat)
  case atStart => exact ⟨0, Nat.zero_le _, rfl, ⟨_, _, _, rfl, M0.out, G0.out⟩, B0.out⟩
  case round =>
    obtain ⟨j, hj, rfl, ⟨a2, cd2, os2, rfl, hos, hG⟩, hb⟩ := hrel
    clear G0 M0 B0
    have GG := Lib.hid hG; have MM := Lib.hid hos; have BB := Lib.hid hb; clear hG hos hb
    obtain ⟨W, hW⟩ : ∃ x, x = wr := ⟨_, rfl⟩
    subst hW
    by_cases hlt : j < ln
    · obtain ⟨lb, off, rfl, hlb, hc⟩ := R.out.cells (by omega)
      have HC : Hid (∀ V, Below w.heap.size w V → V.cell? ⟨lb, off + j, none⟩ = some (.int .i64 (xs.getD j 0))) := Lib.hid fun V hV => (hV.cell (p := ⟨lb, off + j, none⟩) hlb).trans (hc j hlt)
      obtain ⟨x0, x1, x2⟩ := HX.out j (by rw [HL.out]; exact hlt)
      have HS : Hid (bprF n t xs (j + 1) = mulF n (bprF n t xs j) (letF n t (xs.getD j 0))) := Lib.hid rfl
      obtain ⟨x, hx⟩ : ∃ x, x = xs.getD j 0 := ⟨_, rfl⟩
      rw [← hx] at HC HS x0 x1 x2
      clear hx hc
      obtain ⟨F, hF⟩ : ∃ F, F = bprF n t xs j := ⟨_, rfl⟩
      have HFR : Hid (Rem n n F) := Lib.hid (by rw [hF]; exact bprF_rem n t xs j)
      rw [← hF] at HS MM
      clear hF
      have k0 := HC.out W BB.out
      have zB := BB.out.size
      have j1 : (j : Int) < (ln : Int) := by omega
      have j0 : 0 ≤ (j : Int) := by omega
      by_cases hneg : x < 0
      · obtain ⟨d, hd⟩ : ∃ d : Nat, (d : Int) = -x - 1 := ⟨(-x - 1).toNat, by omega⟩
        have wx : IntKind.i64.wrap (-x) = (d : Int) + 1 := (IntWalk.i64_in _ (by omega)).trans (by omega)
        have hmx : x < (d : Int) + 1 := by omega
        have HLT : Hid (letF n t x = invM n (burF t d)) := Lib.hid (by unfold letF; rw [if_pos hneg, ← hd]; rfl)
        have hdn : d + 1 < n := by omega
        have hmax : max x (-x) = (d : Int) + 1 := by omega
        clear x0 x1 x2 hmx
        go_wp2
        go_quiet (fail)
        have hq1 := below_draws W.heap.size W nq
        have hq2 := below_draws w.heap.size W nq
        obtain ⟨V, hV⟩ : ∃ V, V = W.drewN nq := ⟨_, rfl⟩
        rw [← hV] at hq1 hq2 ⊢
        rw [show -x = (d : Int) + 1 by omega]; clear hd
        have OV := Lib.hid (GG.out.ownSS.reads.below hq1)
        have BV := Lib.hid (BB.out.trans hq2)
        clear hV hq1 hq2 GG BB k0 zB hmax wx
        go_wp2_with fail
        refine (l09Unit_any n 1 _ (by omega)).mono ?_
        rintro e w5 ⟨ao, co, os5, rfl, hos, hG, hb⟩
        obtain ⟨gx, b, c, rfl, hM⟩ := hG.wmx hos (by omega) (by omega)
        have c0 : w5.cell? ⟨gx, d, none⟩ = some (.slice (some ⟨b d, 0, none⟩) n (c d)) := hM.hd d (by omega)
        have c1 : w5.cell? ⟨gx, d + 1, none⟩ = some (.slice (some ⟨b (d + 1), 0, none⟩) n (c (d + 1))) := hM.hd (d + 1) hdn
        obtain ⟨p, hp⟩ : ∃ p, p = b d := ⟨_, rfl⟩
        obtain ⟨q, hq⟩ : ∃ q, q = b (d + 1) := ⟨_, rfl⟩
        obtain ⟨cp, hcp⟩ : ∃ x, x = c d := ⟨_, rfl⟩
        obtain ⟨cq, hcq⟩ : ∃ x, x = c (d + 1) := ⟨_, rfl⟩
        rw [← hp, ← hcp] at c0
        rw [← hq, ← hcq] at c1
        have lp : V.heap.size ≤ p := by rw [hp]; exact hM.lo d (by omega)
        have lq : V.heap.size ≤ q := by rw [hq]; exact hM.lo (d + 1) hdn
        have HP := Lib.hid hp; have HQ := Lib.hid hq
        have B5 := Lib.hid hb; have M5 := Lib.hid hM
        clear hp hq hcp hcq hos hG hb hM
        have wd : IntKind.i64.wrap ((d : Int) + 1 - 1) = (d : Int) := (IntWalk.i64_in _ (by omega)).trans (by omega)
        have wd2 : IntKind.i64.wrap (d : Int) = (d : Int) := IntWalk.i64_in _ (by omega)
        have d0 : 0 ≤ (d : Int) + 1 := by omega
        have d1 : (d : Int) + 1 < (n : Int) := by omega
        have d2 : (d : Int) < (n : Int) := by omega
        have d3 : ((d : Int) + 1).toNat = d + 1 := by omega
        go_wp2
        go_quiet (fail)
        have hq1 := below_draws V.heap.size w5 nq
        have hq2 := below_draws w5.heap.size w5 nq
        obtain ⟨U, hU⟩ : ∃ U, U = w5.drewN nq := ⟨_, rfl⟩
        rw [← hU] at hq1 hq2 ⊢
        have B6 := Lib.hid (B5.out.trans hq1)
        have M6 := Lib.hid (M5.out.below (by omega) hq2)
        clear hU hq1 hq2 B5 M5 c0 c1
        have cs := M6.out.cell (i := d) (j := d) (by omega) (by omega)
        have fs := M6.out.fr d d (by omega)
        rw [← HP.out] at cs fs
        have wt : IntKind.i64.wrap (1 - t) = 1 - t := IntWalk.i64_in _ (by omega)
        go_wp2_with fail
        refine (l09Mod_any (1 - t) _).mono ?_
        rintro e w7 ⟨rfl, rfl⟩
        go_upto_region 9 with fail
        have hm0 := M6.out.set (i := d) (j := d) (by omega) (by omega) ((1 - t) % 10007)
        rw [← HP.out] at hm0
        have hb0 := B6.out.setCell (p := ⟨p, d, none⟩) lp (.int .i64 ((1 - t) % 10007))
        obtain ⟨X0, hX0⟩ : ∃ x, x = U.setCell ⟨p, d, none⟩ (.int .i64 ((1 - t) % 10007)) := ⟨_, rfl⟩
        rw [← hX0] at hm0 hb0 ⊢
        have N0 := Lib.hid hm0; have C0 := Lib.hid hb0
        clear hX0 hm0 hb0 cs fs M6 B6
        have cs := N0.out.cell (i := d) (j := d + 1) (by omega) (by omega)
        have fs := N0.out.fr (d) (d + 1) (by omega)
        rw [← HP.out] at cs fs
        go_upto_region 10 with fail
        have hm1 := N0.out.set (i := d) (j := d + 1) (by omega) (by omega) (t)
        rw [← HP.out] at hm1
        have hb1 := C0.out.setCell (p := ⟨p, d + 1, none⟩) lp (.int .i64 (t))
        obtain ⟨X1, hX1⟩ : ∃ x, x = X0.setCell ⟨p, d + 1, none⟩ (.int .i64 (t)) := ⟨_, rfl⟩
        rw [← hX1] at hm1 hb1 ⊢
        have N1 := Lib.hid hm1; have C1 := Lib.hid hb1
        clear hX1 hm1 hb1 cs fs N0 C0
        have cs := N1.out.cell (i := d + 1) (j := d) (by omega) (by omega)
        have fs := N1.out.fr (d + 1) (d) (by omega)
        rw [← HQ.out] at cs fs
        go_upto_region 11 with fail
        have hm2 := N1.out.set (i := d + 1) (j := d) (by omega) (by omega) (1)
        rw [← HQ.out] at hm2
        have hb2 := C1.out.setCell (p := ⟨q, d, none⟩) lq (.int .i64 (1))
        obtain ⟨X2, hX2⟩ : ∃ x, x = X1.setCell ⟨q, d, none⟩ (.int .i64 (1)) := ⟨_, rfl⟩
        rw [← hX2] at hm2 hb2 ⊢
        have N2 := Lib.hid hm2; have C2 := Lib.hid hb2
        clear hX2 hm2 hb2 cs fs N1 C1
        have cs := N2.out.cell (i := d + 1) (j := d + 1) (by omega) (by omega)
        have fs := N2.out.fr (d + 1) (d + 1) (by omega)
        rw [← HQ.out] at cs fs
        go_upto_region 12 with fail
        have hm3 := N2.out.set (i := d + 1) (j := d + 1) (by omega) (by omega) (0)
        rw [← HQ.out] at hm3
        have hb3 := C2.out.setCell (p := ⟨q, d + 1, none⟩) lq (.int .i64 (0))
        obtain ⟨X3, hX3⟩ : ∃ x, x = X2.setCell ⟨q, d + 1, none⟩ (.int .i64 (0)) := ⟨_, rfl⟩
        rw [← hX3] at hm3 hb3 ⊢
        have N3 := Lib.hid hm3; have C3 := Lib.hid hb3
        clear hX3 hm3 hb3 cs fs N2 C2
        have N4 : Hid (RMx X3 gx n (fun _ => n) b (fun _ => 0) c (burF t d)) := Lib.hid N3.out.toRMx
        have BW := Lib.hid (BV.out.trans (C3.out.mono BV.out.size))
        have kx := HC.out X3 BW.out
        have OX := Lib.hid (OV.out.below C3.out)
        have HRB : Hid (Rem n n (burF t d)) := Lib.hid (burF_rem HT.out)
        have HRL : Hid (Rem n n (letF n t x)) := Lib.hid (letF_rem HT.out _)
        obtain ⟨rs, hrs, hrx⟩ := N4.out.reads (by omega)
        have HRS := Lib.hid hrs; have HRX := Lib.hid hrx
        have zx := BW.out.size
        clear N3 N4 hrs hrx BV C3 OV lp lq HP HQ wd wd2 d0 d1 d2 d3 wt
        go_wp2_with fail
        refine (l09Solve_any (some ⟨gx, 0, none⟩) n co rs (burF t d) X3 HRS.out HRX.out h1 (by omega) HRB.out).mono ?_
        rintro e w8 ⟨hb, hres⟩
        rcases hres with ⟨rfl, hst⟩ | ⟨dd, g, ai, ci, osi, rfl, hdd, hJ, hos, hG⟩
        · exact absurd hst (bur_ends hdn ht)
        have HRX2 : Hid (osi.map RowV.xs = mkM n n (letF n t x)) := Lib.hid (by rw [hos, HLT.out]; exact mkM_same fun i j hi hj => (invM_of hJ hi hj).symm)
        have HRS2 := Lib.hid hG.ownSS.reads
        replace OX := Lib.hid (OX.out.below hb)
        replace BW := Lib.hid (below_go BW.out hb zx)
        replace zx := BW.out.size
        clear hJ hos hG hb hdd kx
        go_wp2_with fail
        refine (l09Times_any a2 ai n cd2 ci os2 osi F (letF n t x) w8 OX.out MM.out HRS2.out HRX2.out (by omega) HFR.out HRL.out).mono ?_
        rintro e w9 ⟨a9, cd9, os9, rfl, hos, hG, hb⟩
        replace BW := Lib.hid (below_go BW.out hb zx)
        have GX := Lib.hid (hG.low zx)
        have MX : Hid (os9.map RowV.xs = mkM n n (bprF n t xs (j + 1))) := Lib.hid (by rw [HS.out]; exact hos)
        clear hos hG hb
        go_wp2
        go_roundw
        case rel => exact ⟨j + 1, by omega, by push_cast; rfl, ⟨a9, cd9, os9, rfl, MX.out, GX.out⟩, BW.out⟩
        case measure => simp [intOf]; omega
      · obtain ⟨d, hd⟩ : ∃ d : Nat, x = (d : Int) + 1 := ⟨(x - 1).toNat, by omega⟩
        have HLT : Hid (letF n t x = burF t d) := Lib.hid (by unfold letF; rw [if_neg hneg, hd, show ((d : Int) + 1 - 1).toNat = d by omega])
        subst hd
        have wx : IntKind.i64.wrap (-((d : Int) + 1)) = -((d : Int) + 1) := IntWalk.i64_in _ (by omega)
        have hmx : ¬ ((d : Int) + 1 < -((d : Int) + 1)) := by omega
        have hdn : d + 1 < n := by omega
        have hmax : max ((d : Int) + 1) (-((d : Int) + 1)) = (d : Int) + 1 := by omega
        clear x0 x1 x2 hmx
        go_wp2
        go_quiet (fail)
        have hq1 := below_draws W.heap.size W nq
        have hq2 := below_draws w.heap.size W nq
        obtain ⟨V, hV⟩ : ∃ V, V = W.drewN nq := ⟨_, rfl⟩
        rw [← hV] at hq1 hq2 ⊢
        have OV := Lib.hid (GG.out.ownSS.reads.below hq1)
        have BV := Lib.hid (BB.out.trans hq2)
        clear hV hq1 hq2 GG BB k0 zB hmax wx
        go_wp2_with fail
        refine (l09Unit_any n 1 _ (by omega)).mono ?_
        rintro e w5 ⟨ao, co, os5, rfl, hos, hG, hb⟩
        obtain ⟨gx, b, c, rfl, hM⟩ := hG.wmx hos (by omega) (by omega)
        have c0 : w5.cell? ⟨gx, d, none⟩ = some (.slice (some ⟨b d, 0, none⟩) n (c d)) := hM.hd d (by omega)
        have c1 : w5.cell? ⟨gx, d + 1, none⟩ = some (.slice (some ⟨b (d + 1), 0, none⟩) n (c (d + 1))) := hM.hd (d + 1) hdn
        obtain ⟨p, hp⟩ : ∃ p, p = b d := ⟨_, rfl⟩
        obtain ⟨q, hq⟩ : ∃ q, q = b (d + 1) := ⟨_, rfl⟩
        obtain ⟨cp, hcp⟩ : ∃ x, x = c d := ⟨_, rfl⟩
        obtain ⟨cq, hcq⟩ : ∃ x, x = c (d + 1) := ⟨_, rfl⟩
        rw [← hp, ← hcp] at c0
        rw [← hq, ← hcq] at c1
        have lp : V.heap.size ≤ p := by rw [hp]; exact hM.lo d (by omega)
        have lq : V.heap.size ≤ q := by rw [hq]; exact hM.lo (d + 1) hdn
        have HP := Lib.hid hp; have HQ := Lib.hid hq
        have B5 := Lib.hid hb; have M5 := Lib.hid hM
        clear hp hq hcp hcq hos hG hb hM
        have wd : IntKind.i64.wrap ((d : Int) + 1 - 1) = (d : Int) := (IntWalk.i64_in _ (by omega)).trans (by omega)
        have wd2 : IntKind.i64.wrap (d : Int) = (d : Int) := IntWalk.i64_in _ (by omega)
        have d0 : 0 ≤ (d : Int) + 1 := by omega
        have d1 : (d : Int) + 1 < (n : Int) := by omega
        have d2 : (d : Int) < (n : Int) := by omega
        have d3 : ((d : Int) + 1).toNat = d + 1 := by omega
        go_wp2
        go_quiet (fail)
        have hq1 := below_draws V.heap.size w5 nq
        have hq2 := below_draws w5.heap.size w5 nq
        obtain ⟨U, hU⟩ : ∃ U, U = w5.drewN nq := ⟨_, rfl⟩
        rw [← hU] at hq1 hq2 ⊢
        have B6 := Lib.hid (B5.out.trans hq1)
        have M6 := Lib.hid (M5.out.below (by omega) hq2)
        clear hU hq1 hq2 B5 M5 c0 c1
        have cs := M6.out.cell (i := d) (j := d) (by omega) (by omega)
        have fs := M6.out.fr d d (by omega)
        rw [← HP.out] at cs fs
        have wt : IntKind.i64.wrap (1 - t) = 1 - t := IntWalk.i64_in _ (by omega)
        go_wp2_with fail
        refine (l09Mod_any (1 - t) _).mono ?_
        rintro e w7 ⟨rfl, rfl⟩
        go_upto_region 9 with fail
        have hm0 := M6.out.set (i := d) (j := d) (by omega) (by omega) ((1 - t) % 10007)
        rw [← HP.out] at hm0
        have hb0 := B6.out.setCell (p := ⟨p, d, none⟩) lp (.int .i64 ((1 - t) % 10007))
        obtain ⟨X0, hX0⟩ : ∃ x, x = U.setCell ⟨p, d, none⟩ (.int .i64 ((1 - t) % 10007)) := ⟨_, rfl⟩
        rw [← hX0] at hm0 hb0 ⊢
        have N0 := Lib.hid hm0; have C0 := Lib.hid hb0
        clear hX0 hm0 hb0 cs fs M6 B6
        have cs := N0.out.cell (i := d) (j := d + 1) (by omega) (by omega)
        have fs := N0.out.fr (d) (d + 1) (by omega)
        rw [← HP.out] at cs fs
        go_upto_region 10 with fail
        have hm1 := N0.out.set (i := d) (j := d + 1) (by omega) (by omega) (t)
        rw [← HP.out] at hm1
        have hb1 := C0.out.setCell (p := ⟨p, d + 1, none⟩) lp (.int .i64 (t))
        obtain ⟨X1, hX1⟩ : ∃ x, x = X0.setCell ⟨p, d + 1, none⟩ (.int .i64 (t)) := ⟨_, rfl⟩
        rw [← hX1] at hm1 hb1 ⊢
        have N1 := Lib.hid hm1; have C1 := Lib.hid hb1
        clear hX1 hm1 hb1 cs fs N0 C0
        have cs := N1.out.cell (i := d + 1) (j := d) (by omega) (by omega)
        have fs := N1.out.fr (d + 1) (d) (by omega)
        rw [← HQ.out] at cs fs
        go_upto_region 11 with fail
        have hm2 := N1.out.set (i := d + 1) (j := d) (by omega) (by omega) (1)
        rw [← HQ.out] at hm2
        have hb2 := C1.out.setCell (p := ⟨q, d, none⟩) lq (.int .i64 (1))
        obtain ⟨X2, hX2⟩ : ∃ x, x = X1.setCell ⟨q, d, none⟩ (.int .i64 (1)) := ⟨_, rfl⟩
        rw [← hX2] at hm2 hb2 ⊢
        have N2 := Lib.hid hm2; have C2 := Lib.hid hb2
        clear hX2 hm2 hb2 cs fs N1 C1
        have cs := N2.out.cell (i := d + 1) (j := d + 1) (by omega) (by omega)
        have fs := N2.out.fr (d + 1) (d + 1) (by omega)
        rw [← HQ.out] at cs fs
        go_upto_region 12 with fail
        have hm3 := N2.out.set (i := d + 1) (j := d + 1) (by omega) (by omega) (0)
        rw [← HQ.out] at hm3
        have hb3 := C2.out.setCell (p := ⟨q, d + 1, none⟩) lq (.int .i64 (0))
        obtain ⟨X3, hX3⟩ : ∃ x, x = X2.setCell ⟨q, d + 1, none⟩ (.int .i64 (0)) := ⟨_, rfl⟩
        rw [← hX3] at hm3 hb3 ⊢
        have N3 := Lib.hid hm3; have C3 := Lib.hid hb3
        clear hX3 hm3 hb3 cs fs N2 C2
        have N4 : Hid (RMx X3 gx n (fun _ => n) b (fun _ => 0) c (burF t d)) := Lib.hid N3.out.toRMx
        have BW := Lib.hid (BV.out.trans (C3.out.mono BV.out.size))
        have kx := HC.out X3 BW.out
        have OX := Lib.hid (OV.out.below C3.out)
        have HRB : Hid (Rem n n (burF t d)) := Lib.hid (burF_rem HT.out)
        have HRL : Hid (Rem n n (letF n t ((d : Int) + 1))) := Lib.hid (letF_rem HT.out _)
        obtain ⟨rs, hrs, hrx⟩ := N4.out.reads (by omega)
        have HRS := Lib.hid hrs; have HRX := Lib.hid hrx
        have zx := BW.out.size
        clear N3 N4 hrs hrx BV C3 OV lp lq HP HQ wd wd2 d0 d1 d2 d3 wt
        have HRS2 := HRS
        have HRX2 : Hid (rs.map RowV.xs = mkM n n (letF n t ((d : Int) + 1))) := Lib.hid (by rw [HLT.out]; exact HRX.out)
        have hng : ¬ ((d : Int) + 1 < 0) := by omega
        go_wp2_with fail
        refine (l09Times_any a2 (some ⟨gx, 0, none⟩) n cd2 co os2 rs F (letF n t ((d : Int) + 1)) X3 OX.out MM.out HRS2.out HRX2.out (by omega) HFR.out HRL.out).mono ?_
        rintro e w9 ⟨a9, cd9, os9, rfl, hos, hG, hb⟩
        replace BW := Lib.hid (below_go BW.out hb zx)
        have GX := Lib.hid (hG.low zx)
        have MX : Hid (os9.map RowV.xs = mkM n n (bprF n t xs (j + 1))) := Lib.hid (by rw [HS.out]; exact hos)
        clear hos hG hb
        go_wp2
        go_roundw
        case rel => exact ⟨j + 1, by omega, by push_cast; rfl, ⟨a9, cd9, os9, rfl, MX.out, GX.out⟩, BW.out⟩
        case measure => simp [intOf]; omega
    · have hjn : j = ln := by omega
      subst hjn
      go_wp2
      go_ret
      exact ⟨a2, cd2, os2, rfl, MM.out, GG.out, BB.out⟩

end Go.Proofs.Ytelmdfkcclhhjaa
