/- The program's characteristic polynomials. -/
import Derived.Test.YtelmdfkcclhhjaaChrP
import Derived.Test.YtelmdfkcclhhjaaPow9
import Derived.Test.YtelmdfkcclhhjaaMTm
import Derived.Test.YtelmdfkcclhhjaaTrc
import Derived.StillTailTactics
namespace Go.Proofs.Ytelmdfkcclhhjaa
open Go.RowKit Go.ChangeShapes

/-- A list of numbers of the call's own, at the head of a block. -/
structure OZ (B : Nat) (w : World) (g n : Nat) (h : Nat → Int) : Prop where
  el : ∀ j, j < n → w.cell? ⟨g, j, none⟩ = some (.int .i64 (h j))
  fr : ∀ j, w.frozen? ⟨g, j, none⟩ = false
  lg : B ≤ g ∧ g < w.heap.size

theorem OZ.block {B : Nat} {w w' : World} {g n : Nat} {h : Nat → Int} (k : OZ B w g n h) (hs : w.heap.size ≤ w'.heap.size) (e : w'.heap[g]? = w.heap[g]?) : OZ B w' g n h :=
  ⟨fun j hj => (World.cell?_of_block (w := w) e).trans (k.el j hj), fun j => (World.frozen?_of_block (w := w) e).trans (k.fr j), k.lg.1, Nat.lt_of_lt_of_le k.lg.2 hs⟩

theorem OZ.below {B : Nat} {w w' : World} {g n : Nat} {h : Nat → Int} (k : OZ B w g n h) (b : Below w.heap.size w w') : OZ B w' g n h := k.block b.size (b.block g k.lg.2)

theorem OZ.far {B : Nat} {w : World} {g n : Nat} {h : Nat → Int} (k : OZ B w g n h) {p : Addr} (hp : p.block ≠ g) (v : Value) : OZ B (w.setCell p v) g n h :=
  k.block (by simp [World.setCell]) (Below.heap_setCell w p v g (Ne.symm hp))

theorem OZ.set {B : Nat} {w : World} {g n : Nat} {h h' : Nat → Int} (k : OZ B w g n h) {i : Nat} (hi : i < n) (v : Int) (e : ∀ j, j < n → (if j = i then v else h j) = h' j) : OZ B (w.setCell ⟨g, i, none⟩ (.int .i64 v)) g n h' := by
  refine ⟨fun j hj => ?_, fun j => by rw [World.frozen?_setCell]; exact k.fr j, k.lg.1, by simpa [World.setCell] using k.lg.2⟩
  rw [← e j hj]
  by_cases e2 : j = i
  · subst e2
    rw [if_pos rfl]
    exact World.cell?_setCell_same _ _ _ (k.el j hj)
  · rw [if_neg e2]
    exact (World.cell?_setCell_other _ _ _ _ (by intro e3; injection e3 with e4 e5; omega)).trans (k.el j hj)

theorem OMx.setLow {B : Nat} {w : World} {g m : Nat} {K b s c : Nat → Nat} {f : Nat → Nat → Int} (h : OMx B w g m K b s c f) {p : Addr} (hp : p.block < g) (v : Value) : OMx B (w.setCell p v) g m K b s c f :=
  h.blocks (by simp [World.setCell]) (Below.heap_setCell w p v g (by omega)) fun i hi => Below.heap_setCell w p v _ (by have := (h.lb i hi).1; omega)

theorem flip_ret {P : Program} {f : FuncId} {args : Array Value} {w : World} {v : Value} (h : Calls P f args w fun e w' => e = .returned v ∧ w = w') : Calls P f args w fun e w' => e = .returned v ∧ w' = w := h.mono fun _ _ hh => ⟨hh.1, hh.2.symm⟩

theorem inv_small (k : Nat) (h : k < 28) : 0 ≤ ((k : Int) + 1) ∧ ((k : Int) + 1) < 10007 := by omega

set_option maxRecDepth 100000 in
set_option maxHeartbeats 4000000 in
theorem mxChar_any (ga m ca : Nat) (ba sa ka : Nat → Nat) (f : Nat → Nat → Int) (w : World) (ha : RMx w ga m (fun _ => m) ba sa ka f) (hm : m ≤ 28) (hf : Rem m m f) :
    Calls Try.prog 67 #[.slice (some ⟨ga, 0, none⟩) m ca] w fun e w' => ∃ g cc, e = .returned (.slice (some ⟨g, 0, none⟩) (m + 1) cc) ∧ (∀ j, j < m + 1 → w'.cell? ⟨g, j, none⟩ = some (.int .i64 (coA m f m j))) ∧ Below w.heap.size w w' := by
  obtain ⟨i0, hi, hz0, hz1, hz2⟩ := info_parts infoRes
  have HA := Lib.hid ha; have HF := Lib.hid hf
  clear ha hf
  have w0 : IntKind.i64.wrap ((m : Int) + 1) = (m : Int) + 1 := IntWalk.i64_in _ (by omega)
  go_enter Try.func67, Try.ntmps67
  go_wp2_with (at_make; refine wpList_make_full w rfl _ _ 72 rfl w.heap.size 67 i0 (.int .i64 0) 1 Try.underlying72 hi hz0 hz1 .i64 .i64 _ _ (m + 1) rfl rfl (by omega) (by omega) (by rw [hz2]; omega) (by unfold maxLen; omega) (Nat.le_refl _) ?_)
  intro w1 hown hgrow
  have hbel := Below.ofGrown hgrow
  obtain ⟨hn0, hf0, hz⟩ := made_cells hown
  have c1 := hn0 m (Nat.lt_succ_self m)
  have f1 := hf0 m
  have Z0 : OZ w.heap.size w1 w.heap.size (m + 1) (fun _ => 0) := ⟨hn0, hf0, Nat.le_refl _, hz⟩
  have Z1 := Lib.hid (Z0.set (h' := coA m f 0) (Nat.lt_succ_self m) 1 (fun j hj => by
    unfold coA
    by_cases e : j = m
    · subst e; rw [if_pos rfl, if_pos (by omega), Nat.sub_self]; rfl
    · rw [if_neg e, if_neg (by omega)]))
  have B1 := Lib.hid (hbel.setCell (p := ⟨w.heap.size, m, none⟩) (Nat.le_refl _) (.int .i64 1))
  have m1' : (m : Int) < (m : Int) + 1 := by omega
  have m2' : ((m + 1 : Nat) : Int) = (m : Int) + 1 := by push_cast; rfl
  clear hown hgrow hbel hn0 hf0 Z0 w0
  go_upto_region 4 with fail
  obtain ⟨V, hV⟩ : ∃ V, V = w1.setCell ⟨w.heap.size, m, none⟩ (.int .i64 1) := ⟨_, rfl⟩
  rw [← hV] at Z1 B1 ⊢
  clear hV c1 f1 m1' m2' hz
  go_wp2_with fail
  refine (diagonalMatrix_any m 0 _ hm).mono ?_
  rintro e w2 ⟨gp, b, s, c, cp, rfl, hO, hb⟩
  have zV := Z1.out.lg.2
  have P0 := Lib.hid ((hO.low (B' := w.heap.size + 1) zV).congr (f' := mulF m f (chN m f 0)) fun i j _ _ => by rw [mul_chN0]; simp [diaF])
  have Z2 := Lib.hid (Z1.out.below hb)
  have B2 := Lib.hid (below_go B1.out hb B1.out.size)
  clear hO hb Z1 B1
  go_wp2
  go_loopw [5, 6] (fun pv kv wr => ∃ k : Nat, k ≤ m ∧ kv = .int .i64 ((k : Int) + 1) ∧ (∃ gp b s c cp, pv = .slice (some ⟨gp, 0, none⟩) m cp ∧ OMx (w.heap.size + 1) wr gp m (fun _ => m) b s c (mulF m f (chN m f k))) ∧ OZ w.heap.size wr w.heap.size (m + 1) (coA m f k) ∧ Below w.heap.size w wr) (fun _ kv _ => m + 1 - (intOf kv).toNat)
  case atStart => exact ⟨0, Nat.zero_le _, rfl, ⟨gp, b, s, c, cp, rfl, P0.out⟩, Z2.out, B2.out⟩
  case round =>
    obtain ⟨k, hk, rfl, ⟨gp, b, s, c, cp, rfl, hP⟩, hZ, hb⟩ := hrel
    clear P0 Z2 B2
    have PP := Lib.hid hP; have ZZ := Lib.hid hZ; have BB := Lib.hid hb; clear hP hZ hb
    obtain ⟨W, hW⟩ : ∃ x, x = wr := ⟨_, rfl⟩
    subst hW
    by_cases hlt : k < m
    · obtain ⟨d, hd⟩ : ∃ d : Nat, d = m - (k + 1) := ⟨_, rfl⟩
      have hle : (k : Int) + 1 ≤ (m : Int) := by omega
      have HG := Lib.hid (mulF_rem m f (chN m f k))
      have HCO : Hid (∀ W, OZ w.heap.size W w.heap.size (m + 1) (coA m f k) → W.cell? ⟨w.heap.size, d + 1, none⟩ = some (.int .i64 (chC m f k))) := Lib.hid fun W h => by
        have := h.el (d + 1) (by omega)
        rwa [show d + 1 = m - k by omega, coA_at hk, ← show d + 1 = m - k by omega] at this
      have bc := chC_rem m f k
      have HN : Hid (∀ i j, i < m → j < m → addTo (chC m f k) (mulF m f (chN m f k)) m i j = chN m f (k + 1) i j) := Lib.hid fun i j hi _ => by rw [chN_succ]; exact addTo_end hi j
      have HCS := Lib.hid (chC_succ m f k)
      obtain ⟨q, hq⟩ : ∃ q, q = chC m f k := ⟨_, rfl⟩
      rw [← hq] at HCO HN bc
      have HD := Lib.hid hd
      obtain ⟨h, hh⟩ : ∃ h, h = mulF m f (chN m f k) := ⟨_, rfl⟩
      rw [← hh] at HG HN PP
      clear hq hh
      have P0 := Lib.hid (PP.out.congr (f' := addTo q h 0) fun i j _ _ => (addTo_zero q h i j).symm)
      go_wp2
      go_loopw [26] (fun tv wr => ∃ t : Nat, t ≤ m ∧ tv = .int .i64 t ∧ OMx (w.heap.size + 1) wr gp m (fun _ => m) b s c (addTo q h t) ∧ OZ w.heap.size wr w.heap.size (m + 1) (coA m f k) ∧ Below w.heap.size w wr) (fun tv _ => m - (intOf tv).toNat)
      case atStart => exact ⟨0, Nat.zero_le _, rfl, P0.out, ZZ.out, BB.out⟩
      case round =>
        obtain ⟨t, ht, rfl, hP, hZ, hb⟩ := hrel
        clear P0 PP ZZ BB
        have PP := Lib.hid hP; have ZZ := Lib.hid hZ; have BB := Lib.hid hb; clear hP hZ hb
        obtain ⟨W2, hW2⟩ : ∃ x, x = wr := ⟨_, rfl⟩
        subst hW2
        by_cases hlm : t < m
        · have c0 := PP.out.cell hlm
          have c1 := PP.out.el t t hlm hlm
          have f1 := PP.out.fr t (s t + t) hlm
          have c2 := HCO.out _ ZZ.out
          rw [addTo_at] at c1
          have bu := HG.out t t hlm hlm
          have hbt := (PP.out.lb t hlm).1
          have hgp := PP.out.lg.1
          have P2 := Lib.hid (((PP.out.below (Below.refl _ _).drew).set (i := t) (j := t) hlm hlm ((h t t + q) % 10007)).congr fun i j _ _ => addTo_upd q h t i j)
          have Z2 := Lib.hid ((ZZ.out.below (Below.refl _ _).drew).far (p := ⟨b t, s t + t, none⟩) (by show b t ≠ w.heap.size; omega) (.int .i64 ((h t t + q) % 10007)))
          have B2 := Lib.hid (BB.out.drew.setCell (p := ⟨b t, s t + t, none⟩) (by show w.heap.size ≤ b t; omega) (.int .i64 ((h t t + q) % 10007)))
          obtain ⟨bt, hbt2⟩ : ∃ x, x = b t := ⟨_, rfl⟩
          obtain ⟨st, hst⟩ : ∃ x, x = s t := ⟨_, rfl⟩
          obtain ⟨ct, hct⟩ : ∃ x, x = c t := ⟨_, rfl⟩
          obtain ⟨u, hu⟩ : ∃ x, x = h t t := ⟨_, rfl⟩
          rw [← hbt2, ← hst] at c0 c1 f1 P2 Z2 B2
          rw [← hct] at c0
          rw [← hu] at c1 bu P2 Z2 B2
          have a1 : 0 ≤ u + q := by omega
          have a2 : u + q < 1000000000 := by omega
          have t1' : (t : Int) < (m : Int) := by omega
          have w1 : IntKind.i64.wrap ((m : Int) - ((k : Int) + 1)) = (d : Int) := (IntWalk.i64_in _ (by omega)).trans (by omega)
          have w2 : IntKind.i64.wrap ((d : Int) + 1) = (d : Int) + 1 := IntWalk.i64_in _ (by omega)
          have d0 : 0 ≤ (d : Int) + 1 := by omega
          have d1 : (d : Int) + 1 < (m : Int) + 1 := by omega
          have d3 : ((m + 1 : Nat) : Int) = (m : Int) + 1 := by push_cast; rfl
          have d2 : ((d : Int) + 1).toNat = d + 1 := by omega
          clear PP ZZ BB bu hbt2 hst hct hu hbt hd
          go_wp2
          go_still_tail 15, (by kernel_rfl)
          still_call (flip_ret (plus_any u q _ a1 a2))
          repeat still_step
          refine wpStill_nil ?_
          change wpList _ _ _ _ _ W2.drew
          obtain ⟨z, hz⟩ : ∃ z, z = (u + q) % 10007 := ⟨_, rfl⟩
          obtain ⟨U, hU⟩ : ∃ U, U = W2.drew := ⟨_, rfl⟩
          have cU : U.cell? ⟨bt, st + t, none⟩ = some (.int .i64 u) := by rw [hU]; exact c1
          have fU : U.frozen? ⟨bt, st + t, none⟩ = false := by rw [hU]; exact f1
          rw [← hz, ← hU] at P2 Z2 B2 ⊢
          clear hU hz c0 c1 c2 f1 w1 w2 d2 d3 d0 d1 a1 a2
          go_wp2
          go_roundw
          case rel => exact ⟨t + 1, by omega, by go_num, P2.out, Z2.out, B2.out⟩
          case measure => simp [intOf]; omega
        · have htm : t = m := by omega
          subst htm
          have P2 := Lib.hid (PP.out.congr (f' := chN t f (k + 1)) HN.out)
          have HNR := Lib.hid (chN_rem t f (k + 1))
          have A2 := Lib.hid (HA.out.below BB.out)
          have c1' : ((k + 1 : Nat) : Int) = (k : Int) + 1 := by push_cast; rfl
          have hcs := HCS.out
          rw [c1'] at hcs
          clear PP HN
          go_upto_region 13 with fail
          go_wp2_with fail
          refine (mxTimes_any ga gp t ca cp ba sa ka b s c f (chN t f (k + 1)) W2 A2.out P2.out.toRMx hm HF.out HNR.out).mono ?_
          rintro e w5 ⟨gn, b', s', c', cn, rfl, hO, hb⟩
          have hgp := P2.out.lg.1
          have hgz := ZZ.out.lg.2
          have P3 := Lib.hid (hO.low (B' := w.heap.size + 1) (by omega))
          have Z3 := Lib.hid (ZZ.out.below hb)
          have B3 := Lib.hid (below_go BB.out hb BB.out.size)
          have bt := mod_rem (sumT (fun i => mulF t f (chN t f (k + 1)) i i) t)
          rw [show sumT (fun i => mulF t f (chN t f (k + 1)) i i) t % 10007 = trF t (mulF t f (chN t f (k + 1))) from rfl] at bt
          have bi := invF_rem ((k : Int) + 1)
          have HMR := Lib.hid (mulF_rem t f (chN t f (k + 1)))
          have bo := chC_rem t f (k + 1)
          obtain ⟨v, hv⟩ : ∃ v, v = chC t f (k + 1) := ⟨_, rfl⟩
          have hU2 := fun j (hj : j < t + 1) => coA_upd (f := f) hlt j hj
          rw [← hv] at hcs bo
          simp only [← hv, ← hd] at hU2
          have HU2 := Lib.hid hU2
          obtain ⟨tr, htr⟩ : ∃ x, x = trF t (mulF t f (chN t f (k + 1))) := ⟨_, rfl⟩
          obtain ⟨iv, hiv⟩ : ∃ x, x = invF ((k : Int) + 1) := ⟨_, rfl⟩
          rw [← htr] at bt hcs
          rw [← hiv] at bi hcs
          have m1 := rem_mul bt bi
          obtain ⟨pr, hpr⟩ : ∃ x, x = tr * iv % 10007 := ⟨_, rfl⟩
          have bp : 0 ≤ pr ∧ pr < 10007 := by rw [hpr]; exact mod_rem _
          rw [← hpr] at hcs
          have HTR := Lib.hid htr; have HIV := Lib.hid hiv; have HPR := Lib.hid hpr; have HV := Lib.hid hcs
          clear hO hb ZZ BB P2 htr hiv hpr hcs hv hU2 c1'
          have w1 : IntKind.i64.wrap ((t : Int) - ((k : Int) + 1)) = (d : Int) := (IntWalk.i64_in _ (by omega)).trans (by omega)
          have hks := inv_small k (by omega)
          have cd := Z3.out.el d (by omega)
          have fd := Z3.out.fr d
          have d1 : (d : Int) < (t : Int) + 1 := by omega
          have d3 : ((t + 1 : Nat) : Int) = (t : Int) + 1 := by push_cast; rfl
          have Z4 := Lib.hid (Z3.out.set (h' := coA t f (k + 1)) (i := d) (by omega) v HU2.out)
          have P4 := Lib.hid (P3.out.setLow (p := ⟨w.heap.size, d, none⟩) (by show w.heap.size < gn; have := P3.out.lg.1; omega) (.int .i64 v))
          have B4 := Lib.hid (B3.out.setCell (p := ⟨w.heap.size, d, none⟩) (Nat.le_refl _) (.int .i64 v))
          have w3 : IntKind.i64.wrap ((k : Int) + 1 + 1) = (k : Int) + 1 + 1 := IntWalk.i64_in _ (by omega)
          clear hd
          go_wp2_with fail
          refine (mxTrace_any gn t cn b' s' c' (mulF t f (chN t f (k + 1))) w5 P3.out.toRMx hm HMR.out).mono ?_
          rw [← HTR.out]
          rintro e w6 ⟨rfl, rfl⟩
          go_wp2_with fail
          refine (resInv_any ((k : Int) + 1) _ hks.1 hks.2).mono ?_
          rw [← HIV.out]
          rintro e w6 ⟨rfl, rfl⟩
          go_wp2_with fail
          refine (times_any tr iv _ m1.1 (by omega)).mono ?_
          rw [← HPR.out]
          rintro e w6 ⟨rfl, rfl⟩
          go_wp2_with fail
          refine (opp_any pr _ bp.1 bp.2).mono ?_
          rw [← HV.out]
          rintro e w6 ⟨rfl, rfl⟩
          go_wp2
          go_roundw
          case rel => exact ⟨k + 1, by omega, by push_cast; rfl, ⟨gn, b', s', c', cn, rfl, P4.out⟩, Z4.out, B4.out⟩
          case measure => simp [intOf]; omega
    · have hkm : k = m := by omega
      subst hkm
      go_wp2
      go_ret
      exact ⟨_, _, rfl, ZZ.out.el, BB.out⟩

end Go.Proofs.Ytelmdfkcclhhjaa
