/- The changes of colours as rows: the program. -/
import Derived.Test.YtelmdfkcclhhjaaRer
import Derived.Test.YtelmdfkcclhhjaaColI
import Derived.Test.YtelmdfkcclhhjaaRnkQ
import Derived.StillTailTactics
import Derived.IntWalk
namespace Go.Proofs.Ytelmdfkcclhhjaa
open Go.RowKit Go.ChangeShapes

/-- The colours with 1 at the place k alone; the change that they undergo; the first k such rows. -/
def unitL (n k : Nat) : List Int := (List.replicate n 0).set k 1
def chgR (p : Int) (ls : List Int) (n k : Nat) : List Int := (tintF p ls (unitL n k)).set k ((ent (tintF p ls (unitL n k)) k - 1 + p) % p)
def chgS (p : Int) (ls : List Int) (n k : Nat) : List (List Int) := (List.range k).map (chgR p ls n)

theorem chgS_succ (p : Int) (ls : List Int) (n k : Nat) : chgS p ls n (k + 1) = chgS p ls n k ++ [chgR p ls n k] := by simp [chgS, List.range_succ]
theorem chgS_len (p : Int) (ls : List Int) (n k : Nat) : (chgS p ls n k).length = k := by simp [chgS]

theorem unit_cols {p : Int} (hp : 3 ≤ p) (n k : Nat) : Cols p (unitL n k) := fun c hc => by
  unfold unitL at hc
  rcases List.mem_or_eq_of_mem_set hc with h | h
  · have := (List.mem_replicate.1 h).2
    omega
  · omega

theorem unit_len (n k : Nat) : (unitL n k).length = n := by simp [unitL]

theorem tint_cols {p : Int} (hp : 3 ≤ p) {ls : List Int} {n : Nat} (hl : Lets ls n) (k : Nat) : Cols p (tintF p ls (unitL n k)) := by
  have := tintF_cols (by omega) ls (unitL n k) (unit_cols hp n k) (by rw [unit_len]; exact hl) ls.length
  rwa [List.take_length] at this

theorem tint_len (p : Int) (ls : List Int) (n k : Nat) : (tintF p ls (unitL n k)).length = n := by rw [tintF_len, unit_len]

set_option maxRecDepth 100000 in
set_option maxHeartbeats 1000000 in
theorem colourChanges_any (q : Nat) (a : Option Addr) (m cap : Nat) (ls : List Int) (p : Int) (w : World) (hq : q ≤ 8) (hr : Reads w a m ls) (hm : m ≤ 1048576) (hl : Lets ls q) (hp : 3 ≤ p) (hp2 : p ≤ 97) :
    Calls Try.prog 53 #[.agg #[.int .i64 q, .slice a m cap], .int .i64 p] w fun e w' =>
      ∃ ad cd rs, e = .returned (.slice ad q cd) ∧ rs.length = q ∧ rs.map RowV.xs = chgS p ls q q ∧ GrowSS w.heap.size w' (.slice ad q cd) q rs ∧ Below w.heap.size w w' := by
  obtain ⟨i1, hj, hs0, hs1, hs2⟩ := info_parts infoSlice
  obtain ⟨i0, hi, hz0, hz1, hz2⟩ := info_parts infoInt
  have HLT := Lib.hid hl; clear hl
  have R := Lib.hid (hr.alloc (.cells #[.int .i64 q, .slice a m cap] 28)); clear hr
  have A := Lib.hid (At2.new w (.int .i64 q) (.slice a m cap) 28)
  have BB := Lib.hid (below1 w (.cells #[.int .i64 q, .slice a m cap] 28))
  go_enter Try.func53, Try.ntmps53
  go_upto_region 1 with fail
  obtain ⟨W, hW⟩ : ∃ W, W = w.alloc (.cells #[.int .i64 q, .slice a m cap] 28) := ⟨_, rfl⟩
  have zW : w.heap.size < W.heap.size := by rw [hW]; simp
  rw [← hW] at R A BB ⊢
  clear hW
  obtain ⟨qA1, qA2, qA3, qA4, qA5⟩ := A.out
  go_wp2_with (at_make; refine wpList_make_full W rfl _ _ 32 rfl W.heap.size 22 i1 (.slice none 0 0) 1 Try.underlying32 hj hs0 hs1 .i64 .i64 _ _ q rfl rfl (by omega) (by omega) (by rw [hs2]; omega) (by unfold maxLen; omega) (Nat.le_refl _) ?_)
  intro w3 hown hgrow
  have F0 := Lib.hid (fill_madeR hown)
  have HB2 := Lib.hid (Below.ofGrown hgrow)
  clear hown hgrow qA1 qA2 qA3 qA4 qA5
  go_wp2
  go_loopw [13] (fun i wr => ∃ k : Nat, k ≤ q ∧ i = .int .i64 k ∧ (∃ os : List RowV, os.map RowV.xs = chgS p ls q k ∧ FillSS W.heap.size wr W.heap.size q k os) ∧ Below W.heap.size W wr) (fun i _ => q - (intOf i).toNat)
  case atStart => exact ⟨0, Nat.zero_le _, rfl, ⟨[], rfl, F0.out⟩, HB2.out⟩
  case round =>
    obtain ⟨k, hk, rfl, ⟨os, hos, hF⟩, hb⟩ := hrel
    have HB := Lib.hid hb; have F := Lib.hid hF; have HOS := Lib.hid hos
    have A2 := Lib.hid (A.out.heap hb.size (hb.block _ (by omega)))
    clear hb hF hos F0 HB2
    obtain ⟨wo, rfl⟩ : ∃ x, x = wr := ⟨_, rfl⟩
    by_cases hlt : k < q
    · obtain ⟨qA1, qA2, qA3, qA4, qA5⟩ := A2.out
      have k0 : 0 ≤ (k : Int) := by omega
      have k1 : (k : Int) < (q : Int) := by omega
      have zf := F.out.lt.2
      go_wp2_with (at_make; refine wpList_make_full wo rfl _ _ 22 rfl wo.heap.size 2 i0 (.int .i64 0) 1 Try.underlying22 hi hz0 hz1 .i64 .i64 _ _ q rfl rfl (by omega) (by omega) (by rw [hz2]; omega) (by unfold maxLen; omega) (Nat.le_refl _) ?_)
      intro w4 hown hgrow
      clear qA1 qA2 qA3 qA4 qA5
      obtain ⟨hoi, cur, hcur, hcs⟩ := own_madeR hown
      have hz4 : wo.heap.size < w4.heap.size := (Array.getElem?_eq_some_iff.1 hcur).1
      have hb4 := Below.ofGrown hgrow
      have cz := hoi.1.cellAt k hlt
      have fz := hoi.1.frozenAt k
      have hst := (hoi.1.store k 1).1
      have hbV : Below wo.heap.size wo (w4.setCell ⟨wo.heap.size, k, none⟩ (.int .i64 1)) := hb4.setCell (p := ⟨wo.heap.size, k, none⟩) (Nat.le_refl _) _
      have HU := Lib.hid hst.reads; have HBV := Lib.hid hbV
      clear hown hgrow hoi hcur hcs hb4 hst hbV
      go_upto_region 7 with fail
      obtain ⟨V, hV⟩ : ∃ V, V = w4.setCell ⟨wo.heap.size, k, none⟩ (.int .i64 1) := ⟨_, rfl⟩
      have zV : wo.heap.size < V.heap.size := by rw [hV]; simpa [World.setCell] using hz4
      rw [← hV] at HU HBV ⊢
      clear hV cz fz hz4
      have A3 := Lib.hid (A2.out.heap HBV.out.size (HBV.out.block _ (by omega)))
      have RV := Lib.hid ((R.out.below HB.out).below HBV.out)
      obtain ⟨qA1, qA2, qA3, qA4, qA5⟩ := A3.out
      go_wp2_with fail
      refine (coloured_any (q : Int) a m cap ls p (some ⟨wo.heap.size, 0, none⟩) q q (unitL q k) V RV.out hm HLT.out HU.out (by omega) (by omega) hp2 (unit_cols hp q k)).mono ?_
      rintro e w5 ⟨a3, c3, rfl, ho, hb⟩
      clear qA1 qA2 qA3 qA4 qA5
      have z5 : V.heap.size ≤ w5.heap.size := hb.size
      obtain ⟨t, ht⟩ : ∃ t, t = tintF p ls (unitL q k) := ⟨_, rfl⟩
      have hts : chgS p ls q (k + 1) = chgS p ls q k ++ [t.set k ((ent t k - 1 + p) % p)] := by rw [chgS_succ, ht]; rfl
      have htc : 0 ≤ ent t k ∧ ent t k < p := by rw [ht]; exact (tint_cols hp HLT.out k).at k (by rw [tint_len]; exact hlt)
      rw [← ht] at ho
      clear ht
      obtain ⟨b, hb1, hb2, hoi⟩ := own_block ho (by have := ho.lo; obtain ⟨g, rfl, e1, e2⟩ := ho.block (by omega); omega)
      obtain ⟨g, rfl, _, _⟩ := ho.block (by omega)
      have hgl := hoi.1.lo _ rfl
      have hgu := hoi.2 _ rfl
      obtain rfl : b = g := by simp only at hgl hgu; omega
      have hb5 := below_go HBV.out hb HBV.out.size
      have F3 := Lib.hid (F.out.below hb5)
      have BB5 := Lib.hid (HB.out.trans (hb5.mono (by omega)))
      have hrow := F.out.row
      have hfs := F3.out.store hlt hoi (by omega) (by omega) hb2 (fun x hx => by have := (hrow x hx).2.2.2; omega)
      have FS := Lib.hid hfs
      have c2 : w5.cell? ⟨W.heap.size, k, none⟩ = some (.slice none 0 0) := by
        have hl := F3.out.len
        have h := World.ownsRow.cellAt F3.out.own k (by have := F3.out.own.1; omega)
        refine h.trans ?_
        rw [List.getElem?_append_right (by rw [List.length_map]; omega), List.length_map, hl, Nat.sub_self]
        exact List.getElem?_replicate_of_lt (by omega)
      have fz := World.ownsRow.frozenAt F3.out.own k
      have HTS := Lib.hid hts
      clear hfs hb hb5 hoi hrow ho hgl hgu hts
      go_wp2
      obtain ⟨Y, hY⟩ : ∃ Y, Y = w5.setCell ⟨W.heap.size, k, none⟩ (.slice (some ⟨b, 0, none⟩) q c3) := ⟨_, rfl⟩
      have fs := FS.out
      have bY : Below W.heap.size W Y := by rw [hY]; exact BB5.out.setCell (p := ⟨W.heap.size, k, none⟩) (Nat.le_refl _) _
      rw [← hY] at fs ⊢
      have hol := F.out.len
      have c3' : Y.cell? ⟨W.heap.size, k, none⟩ = some (.slice (some ⟨b, 0, none⟩) q c3) := by
        have h := World.ownsRow.cellAt fs.own k (by have := fs.own.1; omega)
        refine h.trans ?_
        rw [List.getElem?_append_left (by simp; omega), List.map_append, List.getElem?_append_right (by simp; omega)]
        simp [hol, RowV.val]
      have hlast := (fs.row ⟨b, some ⟨b, 0, none⟩, q, c3, t⟩ (by simp)).1
      have cx : Y.cell? ⟨b, k, none⟩ = some (.int .i64 (ent t k)) := hlast.1.cellAt k hlt
      have fx := hlast.1.frozenAt k
      have zb := World.block_lt_of_cell? _ _ cx
      obtain ⟨x, hx⟩ : ∃ x, x = ent t k := ⟨_, rfl⟩
      rw [← hx] at cx htc
      have w1 : IntKind.i64.wrap (x - 1) = x - 1 := IntWalk.i64_in _ (by omega)
      have w2 : IntKind.i64.wrap (x - 1 + p) = x - 1 + p := IntWalk.i64_in _ (by omega)
      have e4 : (x - 1 + p).tmod p = (x - 1 + p) % p := Int.tmod_eq_emod_of_nonneg (by omega)
      have e5 : (x - 1 + p) % p = (ent t k - 1 + p) % p := by rw [hx]
      obtain ⟨z, hz⟩ : ∃ z, z = (x - 1 + p) % p := ⟨_, rfl⟩
      have bz : 0 ≤ z ∧ z < p := by rw [hz]; exact ⟨Int.emod_nonneg _ (by omega), Int.emod_lt_of_pos _ (by omega)⟩
      rw [← hz] at e4 e5
      have w4' : IntKind.i64.wrap z = z := IntWalk.i64_in _ (by omega)
      have pne : ¬ p = 0 := by omega
      have FY := Lib.hid fs; have BY := Lib.hid bY; have E5 := Lib.hid e5
      clear hY fs bY hol c2 fz FS F3 BB5 hlast hx hz e5 bz
      go_still_tail 18, (by kernel_rfl)
      change wpList _ _ _ _ _ Y.drew
      obtain ⟨U, hU⟩ : ∃ U, U = Y.drew := ⟨_, rfl⟩
      have fU : FillSS W.heap.size U W.heap.size q (k + 1) (os ++ [⟨b, some ⟨b, 0, none⟩, q, c3, t⟩]) := by rw [hU]; exact FY.out.redo (fun _ _ => rfl) rfl (FY.out.row ⟨b, some ⟨b, 0, none⟩, q, c3, t⟩ (by simp)).1.drew
      have bU : Below W.heap.size W U := by rw [hU]; exact BY.out.drew
      have cU : U.cell? ⟨b, k, none⟩ = some (.int .i64 x) := by rw [hU]; exact cx
      have frU : U.frozen? ⟨b, k, none⟩ = false := by rw [hU]; exact fx
      rw [← hU]
      clear hU FY BY c3' cx fx
      have hl2 := (fU.row ⟨b, some ⟨b, 0, none⟩, q, c3, t⟩ (by simp)).1
      have hst := hl2.1.store k z
      have FX := Lib.hid (fU.redo (w' := U.setCell ⟨b, k, none⟩ (.int .i64 z)) (fun u hu => Below.heap_setCell U ⟨b, k, none⟩ _ u hu) (by simp [World.setCell]) ⟨hst.1, hl2.2⟩)
      have BX := Lib.hid (bU.setCell (p := ⟨b, k, none⟩) (by show W.heap.size ≤ b; omega) (.int .i64 z))
      have hwk : IntKind.i64.wrap ((k : Int) + 1) = (k : Int) + 1 := IntWalk.i64_in _ (by omega)
      clear fU bU hst hl2 w1 w2 e4 w4'
      go_wp2
      go_roundw
      case rel => exact ⟨k + 1, by omega, by go_num, ⟨os ++ [⟨b, some ⟨b, 0, none⟩, q, c3, t.set k z⟩], by rw [List.map_append, HOS.out, HTS.out, E5.out]; rfl, FX.out⟩, BX.out⟩
      case measure => simp [intOf]; omega
    · have hkn : k = q := by omega
      have ho := HOS.out
      have hF2 := F.out
      rw [hkn] at ho hF2
      have hol : os.length = q := hF2.len
      have HO := Lib.hid ho; have HF2 := Lib.hid hF2.full; have HOL := Lib.hid hol; clear ho hkn hF2 hol
      go_wp2
      go_ret
      exact ⟨_, q, os, rfl, HOL.out, HO.out, HF2.out.low (by omega), BB.out.trans (HB.out.mono (by omega))⟩

end Go.Proofs.Ytelmdfkcclhhjaa
