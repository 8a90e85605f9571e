/- The model's product of matrices. -/
import Derived.Test.YtelmdfkcclhhjaaTrc
import Derived.Test.YtelmdfkcclhhjaaMTm
import Derived.Test.YtelmdfkcclhhjaaNum
import Derived.StillTailTactics
namespace Go.Proofs.Ytelmdfkcclhhjaa
open Go.RowKit Go.ChangeShapes

/-- A row of the product while it is made: the entries before j have k + 1 summands. -/
def prodR (f h : Nat → Nat → Int) (m i k j : Nat) : List Int := (List.range m).map fun q => dotF f h i q (if q < j then k + 1 else k) % 10007

theorem prodR_len (f h : Nat → Nat → Int) (m i k j : Nat) : (prodR f h m i k j).length = m := by simp [prodR]

theorem prodR_at {f h : Nat → Nat → Int} {m i k j : Nat} (hj : j < m) : (prodR f h m i k j).getD j 0 = dotF f h i j k % 10007 := by simp [prodR, List.getD, hj]

theorem prodR_set {f h : Nat → Nat → Int} {m i k j : Nat} : (prodR f h m i k j).set j (dotF f h i j (k + 1) % 10007) = prodR f h m i k (j + 1) := by
  refine List.ext_getElem (by simp [prodR]) fun q h1 h2 => ?_
  rw [List.getElem_set]
  simp only [prodR, List.getElem_map, List.getElem_range]
  by_cases e : j = q
  · subst e
    rw [if_pos rfl, if_pos (by omega)]
  · rw [if_neg e]
    by_cases e2 : q < j
    · rw [if_pos e2, if_pos (by omega)]
    · rw [if_neg e2, if_neg (by omega)]

theorem prodR_end (f h : Nat → Nat → Int) (m i k : Nat) : prodR f h m i k m = prodR f h m i (k + 1) 0 := by
  unfold prodR
  refine List.map_congr_left fun q hq => ?_
  have := List.mem_range.1 hq
  rw [if_pos this, if_neg (by omega)]

theorem prodR_skip {f h : Nat → Nat → Int} {m i k : Nat} (e : f i k = 0) : prodR f h m i k 0 = prodR f h m i (k + 1) 0 := by
  unfold prodR
  refine List.map_congr_left fun q _ => ?_
  rw [if_neg (by omega), if_neg (by omega), dotF_succ, e, Int.zero_mul, Int.add_zero]

theorem prodR_start (f h : Nat → Nat → Int) (m i : Nat) : prodR f h m i 0 0 = List.replicate m 0 := by
  unfold prodR
  refine List.ext_getElem (by simp) fun q h1 h2 => ?_
  simp [dotF, sumT]

theorem prodR_fin (f h : Nat → Nat → Int) (m i : Nat) : prodR f h m i m 0 = (List.range m).map (mulF m f h i) := by
  unfold prodR mulF
  refine List.map_congr_left fun q _ => ?_
  rw [if_neg (by omega)]

/-- A row of a matrix of the model's, at hand. -/
theorem rowAt {w : World} {ad : Option Addr} {m k : Nat} {rs : List RowV} {f : Nat → Nat → Int} (hr : ReadsSS w ad m rs) (hX : rs.map RowV.xs = mkM m k f) {i : Nat} (hi : i < m) (hk : 0 < k) :
    ∃ g o b s c, ad = some ⟨g, o, none⟩ ∧ w.cell? ⟨g, o + i, none⟩ = some (.slice (some ⟨b, s, none⟩) k c) ∧ ∀ j, j < k → w.cell? ⟨b, s + j, none⟩ = some (.int .i64 (f i j)) := by
  have hil : i < rs.length := by rw [hr.1]; exact hi
  obtain ⟨g, o, ha, hc⟩ := hr.2.1.resolve_left (by omega)
  obtain ⟨hn, hx⟩ := mkM_rows hr hX hil
  have hrow := (hr.2.2 _ (List.getElem_mem hil)).1
  have c0 := hc i hil
  rw [hn] at c0 hrow
  obtain ⟨b, s, hra, hrb, hrc⟩ := hrow.cells hk
  rw [hra] at c0
  exact ⟨g, o, b, s, _, ha, c0, fun j hj => by rw [← hx j hj]; exact hrc j hj⟩

set_option maxRecDepth 100000 in
set_option maxHeartbeats 4000000 in
theorem l09Times_any (ad bd : Option Addr) (m ca cb : Nat) (rs ts : List RowV) (f h : Nat → Nat → Int) (w : World) (hr : ReadsSS w ad m rs) (hX : rs.map RowV.xs = mkM m m f) (ht : ReadsSS w bd m ts) (hY : ts.map RowV.xs = mkM m m h) (hm : m ≤ 28) (hf : Rem m m f) (hg : Rem m m h) :
    Calls Try.prog 56 #[.slice ad m ca, .slice bd m cb] w fun e w' => ∃ a cd os, e = .returned (.slice a m cd) ∧ os.map RowV.xs = mkM m m (mulF m f h) ∧ GrowSS w.heap.size w' (.slice a m cd) m os ∧ Below w.heap.size w w' := by
  obtain ⟨i1, hj, hs0, hs1, hs2⟩ := info_parts infoSlice
  obtain ⟨i0, hi, hz0, hz1, hz2⟩ := info_parts infoInt
  have HA : Hid (∀ W, Below w.heap.size w W → ∀ i, i < m → ∃ g o b s c, ad = some ⟨g, o, none⟩ ∧ W.cell? ⟨g, o + i, none⟩ = some (.slice (some ⟨b, s, none⟩) m c) ∧ ∀ j, j < m → W.cell? ⟨b, s + j, none⟩ = some (.int .i64 (f i j))) := Lib.hid fun W h i hi => rowAt (hr.below h) hX hi (by omega)
  have HB : Hid (∀ W, Below w.heap.size w W → ∀ i, i < m → ∃ g o b s c, bd = some ⟨g, o, none⟩ ∧ W.cell? ⟨g, o + i, none⟩ = some (.slice (some ⟨b, s, none⟩) m c) ∧ ∀ j, j < m → W.cell? ⟨b, s + j, none⟩ = some (.int .i64 (h i j))) := Lib.hid fun W h i hi => rowAt (ht.below h) hY hi (by omega)
  have HF := Lib.hid hf; have HG := Lib.hid hg
  clear hr ht hX hY hf hg
  go_enter Try.func56, Try.ntmps56
  go_wp2
  have G0 : Hid (GrowSS w.heap.size (w.alloc (.cells #[] 22)) (.slice (some ⟨w.heap.size, 0, none⟩) 0 0) 0 []) := Lib.hid (GrowSS.empty w)
  have B0 := Lib.hid (below1 w (.cells #[] 22))
  go_loopw [5, 6] (fun ov iv wr => ∃ i : Nat, i ≤ m ∧ iv = .int .i64 i ∧ (∃ a cd os, ov = .slice a i cd ∧ os.map RowV.xs = mkM i m (mulF m f h) ∧ GrowSS w.heap.size wr (.slice a i cd) i os) ∧ Below w.heap.size w wr) (fun _ iv _ => m - (intOf iv).toNat)
  case atStart => exact ⟨0, Nat.zero_le _, rfl, ⟨_, _, [], rfl, rfl, G0.out⟩, B0.out⟩
  case round =>
    obtain ⟨i, hi2, rfl, ⟨a, cd, os, rfl, hos, hG⟩, hb⟩ := hrel
    clear G0 B0
    have GG := Lib.hid hG; have HOS := Lib.hid hos; have BB := Lib.hid hb
    clear hG hos hb
    obtain ⟨W, hW⟩ : ∃ x, x = wr := ⟨_, rfl⟩
    subst hW
    by_cases hlt : i < m
    · have zw := BB.out.size
      have i1' : (i : Int) < (m : Int) := by omega
      go_wp2_with (at_make; refine wpList_make_full W rfl _ _ 22 rfl W.heap.size 2 i0 (.int .i64 0) 1 Try.underlying22 hi hz0 hz1 .i64 .i64 _ _ m rfl rfl (by omega) (by omega) (by rw [hz2]; omega) (by unfold maxLen; omega) (Nat.le_refl _) ?_)
      intro w4 hown hgrow
      have hb4 := Below.ofGrown hgrow
      have R0 := Lib.hid (own_madeR hown).1.1
      rw [← prodR_start f h m i] at R0
      have B4 := Lib.hid hb4
      clear hown hgrow hb4
      go_wp2
      go_loopw [8] (fun kv wr => ∃ k : Nat, k ≤ m ∧ kv = .int .i64 k ∧ Own W.heap.size wr (some ⟨W.heap.size, 0, none⟩) m m (prodR f h m i k 0) ∧ Below W.heap.size W wr) (fun kv _ => m - (intOf kv).toNat)
      case atStart => exact ⟨0, Nat.zero_le _, rfl, R0.out, B4.out⟩
      case round =>
        obtain ⟨k, hk, rfl, hR, hb⟩ := hrel
        clear R0 B4
        have RR := Lib.hid hR; have B4 := Lib.hid hb; clear hR hb
        obtain ⟨W2, hW2⟩ : ∃ x, x = wr := ⟨_, rfl⟩
        subst hW2
        by_cases hlk : k < m
        · have k1' : (k : Int) < (m : Int) := by omega
          go_wp2
          go_loopw [9] (fun jv wr => ∃ j : Nat, j ≤ m ∧ jv = .int .i64 j ∧ (0 < j → f i k ≠ 0) ∧ Own W.heap.size wr (some ⟨W.heap.size, 0, none⟩) m m (prodR f h m i k j) ∧ Below W.heap.size W wr) (fun jv _ => m - (intOf jv).toNat)
          case atStart => exact ⟨0, Nat.zero_le _, rfl, fun h => absurd h (Nat.lt_irrefl _), RR.out, B4.out⟩
          case round =>
            obtain ⟨j, hj', rfl, hne, hR, hb⟩ := hrel
            clear RR B4
            have RR := Lib.hid hR; have B4 := Lib.hid hb; have HNE := Lib.hid hne; clear hR hb hne
            obtain ⟨W3, hW3⟩ : ∃ x, x = wr := ⟨_, rfl⟩
            subst hW3
            by_cases hlj : j < m
            · have j1' : (j : Int) < (m : Int) := by omega
              obtain ⟨ga, oa, ba, sa, ka, rfl, ca0, ca1⟩ := HA.out W3 (BB.out.trans (B4.out.mono zw)) i hlt
              have ca2 := ca1 k hlk
              have bu := HF.out i k hlt hlk
              obtain ⟨u, hu⟩ : ∃ u, u = f i k := ⟨_, rfl⟩
              rw [← hu] at ca2 bu
              have HU := Lib.hid hu
              clear ca1 hu
              by_cases hu0 : u = 0
              · subst hu0
                have hj0 : j = 0 := by
                  rcases Nat.eq_zero_or_pos j with e | e
                  · exact e
                  · exact absurd HU.out.symm (HNE.out e)
                have hrr := RR.out
                rw [hj0, prodR_skip HU.out.symm] at hrr
                have RR2 := Lib.hid hrr
                clear hrr
                go_wp2
                go_roundw
                case rel => exact ⟨k + 1, by omega, by go_num, RR2.out, B4.out⟩
                case measure => simp [intOf]; omega
              · have t0 : (u != 0) = true := by simpa using hu0
                obtain ⟨gb, ob, bb, sb, kb, rfl, cb0, cb1⟩ := HB.out W3 (BB.out.trans (B4.out.mono zw)) k hlk
                have cb2 := cb1 j hlj
                have bv := HG.out k j hlk hlj
                have cr := RR.out.cellAt j hlj
                have fr := RR.out.frozenAt j
                have zr := (World.ownsRow.lt RR.out W.heap.size rfl).2
                have hst := (RR.out.store j (dotF f h i j (k + 1) % 10007)).1
                rw [prodR_set] at hst
                rw [prodR_at hlj] at cr
                have bp := dot_rem f h i j k
                have bz := dot_rem f h i j (k + 1)
                have hds := dotF_succ f h i j k
                have hsm := step_mod (dotF f h i j k) (f i k * h k j)
                rw [← hds, ← HU.out] at hsm
                obtain ⟨v, hv⟩ : ∃ v, v = h k j := ⟨_, rfl⟩
                obtain ⟨p, hp⟩ : ∃ z, z = dotF f h i j k % 10007 := ⟨_, rfl⟩
                obtain ⟨z, hz⟩ : ∃ z, z = dotF f h i j (k + 1) % 10007 := ⟨_, rfl⟩
                rw [← hv] at cb2 bv hsm
                rw [← hp] at cr bp hsm
                rw [← hz] at hst bz hsm
                have m1 := rem_mul bu bv
                have w1 : IntKind.i64.wrap (u * v) = u * v := IntWalk.i64_in _ (by omega)
                have w2 : IntKind.i64.wrap (p + u * v) = p + u * v := IntWalk.i64_in _ (by omega)
                have e3 : (p + u * v).tmod 10007 = z := (Int.tmod_eq_emod_of_nonneg (by omega)).trans hsm
                have w4 : IntKind.i64.wrap z = z := IntWalk.i64_in _ (by omega)
                have HST := Lib.hid hst
                clear hst hsm hv hp hz hds cb1 m1 bp bz bu bv
                go_wp2
                go_still_tail 24, (by kernel_rfl)
                change wpList _ _ _ _ _ W3.drew
                obtain ⟨U, hU⟩ : ∃ U, U = W3.drew := ⟨_, rfl⟩
                have cU : U.cell? ⟨W.heap.size, j, none⟩ = some (.int .i64 p) := by rw [hU]; exact cr
                have fU : U.frozen? ⟨W.heap.size, j, none⟩ = false := by rw [hU]; exact fr
                have hdU : W3.drew.setCell ⟨W.heap.size, j, none⟩ (.int .i64 z) = U.setCell ⟨W.heap.size, j, none⟩ (.int .i64 z) := by rw [hU]
                have RU : Hid (Own W.heap.size (U.setCell ⟨W.heap.size, j, none⟩ (.int .i64 z)) (some ⟨W.heap.size, 0, none⟩) m m (prodR f h m i k (j + 1))) := Lib.hid (by rw [hU]; exact HST.out)
                have BU : Hid (Below W.heap.size W (U.setCell ⟨W.heap.size, j, none⟩ (.int .i64 z))) := Lib.hid (by rw [hU]; exact B4.out.drew.setCell (p := ⟨W.heap.size, j, none⟩) (Nat.le_refl _) _)
                rw [← hU]
                clear hU hdU cr fr HST w1 w2 e3 w4
                go_wp2
                go_roundw
                case rel => exact ⟨j + 1, by omega, by go_num, fun _ => by rw [← HU.out]; exact hu0, RU.out, BU.out⟩
                case measure => simp [intOf]; omega
            · have hjm : j = m := by omega
              subst hjm
              have hrr := RR.out
              rw [prodR_end] at hrr
              have RR2 := Lib.hid hrr
              clear hrr
              go_wp2
              go_roundw
              case rel => exact ⟨k + 1, by omega, by go_num, RR2.out, B4.out⟩
              case measure => simp [intOf]; omega
        · have hkm : k = m := by omega
          subst hkm
          have hrr := RR.out
          rw [prodR_fin] at hrr
          have RR2 := Lib.hid hrr
          have G2 := Lib.hid (GG.out.below B4.out)
          have B5 := Lib.hid (BB.out.trans (B4.out.mono zw))
          have hgl := GG.out.lt
          have hz2' := B4.out.size
          clear hrr
          go_wp2_with (at_builtin; refine wpList_append_own_at _ rfl _ _ 32 rfl w.heap.size 22 i1 (.slice none 0 0) 1 24 Try.underlying32 hj hs0 hs1 hs2 rfl (by decide) _ _ _ rfl (World.ownsRow.alloc G2.out.own _) ⟨W2.heap.size, 0, none⟩ 1 1 [.slice (some ⟨W.heap.size, 0, none⟩) k k] rfl rfl (cell_one_new W2 _ _) (fun u hu => by simp at hu; subst hu; rfl) (by unfold maxLen; omega) (by omega) (by simp; omega) ?_)
          intro v' w5 hown hgrow _ hat
          have hgx := G2.out.append (RR2.out.mono zw) (by omega) (fun y hy => hgl.1 y hy) (fun j hj => hgl.2 j hj) hown hgrow (by simpa using hat)
          have hbx := G2.out.appBelow B5.out.size hgrow
          obtain ⟨a2, c2, rfl⟩ := hgx.form
          have GX := Lib.hid hgx
          have BX := Lib.hid (B5.out.trans hbx)
          clear hgx hbx hown hgrow hat
          go_wp2
          go_roundw
          case rel => exact ⟨i + 1, by omega, by go_num, ⟨a2, c2, _, rfl, by rw [List.map_append, HOS.out, mkM_succ]; rfl, GX.out⟩, BX.out⟩
          case measure => simp [intOf]; omega
    · have him : i = m := by omega
      subst him
      go_wp2
      go_ret
      exact ⟨a, cd, os, rfl, HOS.out, GG.out, BB.out⟩

end Go.Proofs.Ytelmdfkcclhhjaa
