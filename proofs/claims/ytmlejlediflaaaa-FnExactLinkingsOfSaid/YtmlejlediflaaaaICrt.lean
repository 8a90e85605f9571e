/- Crossings of pairs of strands: the exported function of the program, walked. -/
import Derived.Test.YtmlejlediflaaaaICrs
namespace Go.Proofs.Ytmlejlediflaaaa
open Go.RowKit Go.ChangeShapes Go.Great

set_option maxRecDepth 100000 in
set_option maxHeartbeats 4000000 in
theorem implCrossingsOf_any {s : Int} {a : Option Addr} {n cap : Nat} {ls : List Int} {w : World} {r : List (List Int)} {fc : Int} (hr : Reads w a n ls) (_hf : Fits ls) (hn : n ≤ 1048576) (hM : mCro s ls = (r, fc)) :
    Calls Try.prog 72 #[.agg #[.int .i64 s, .slice a n cap]] w (RetSSN w r fc) := by
  obtain ⟨i1, hj, hs0, hs1, hs2⟩ := info_parts infoSlice
  obtain ⟨i0, hi, hz0, hz1, hz2⟩ := info_parts infoInt
  have HL := Lib.hid hr.len
  have R := Lib.hid (hr.alloc (.cells #[.int .i64 s, .slice a n cap] 24)); clear hr
  have A := Lib.hid (At2.new w (.int .i64 s) (.slice a n cap) 24)
  have BB := Lib.hid (below1 w (.cells #[.int .i64 s, .slice a n cap] 24))
  obtain ⟨qA1, qA2, qA3, qA4, qA5⟩ := A.out
  by_cases hbr : isBraid s ls = true
  · rw [mCro, if_pos hbr] at hM
    obtain ⟨h1, h2, h3, h4⟩ := (isBraid_iff s ls).1 hbr
    obtain ⟨q, rfl⟩ : ∃ q : Nat, s = (q : Int) := ⟨s.toNat, by omega⟩
    rw [Int.toNat_natCast] at hM
    obtain ⟨rfl, rfl⟩ := Prod.mk.injEq .. ▸ hM
    clear hM
    have hq8 : q ≤ 8 := by omega
    have hx8 : Letts 8 ls := fun y hy => by obtain ⟨e1, e2, e3⟩ := h4 y hy; exact ⟨e1, by omega, by omega⟩
    have hn2 : n ≤ 1000 := by rw [← HL.out]; omega
    have tlen : (runT ls).2.length = 64 := (runT_ok ls hx8).tlen
    have K1 := Lib.hid (fun W (hR : Reads W a n ls) => crossingTableOf_any (q : Int) a n cap ls W hR hx8 hn2)
    obtain ⟨tb, htb⟩ : ∃ tb, tb = (runT ls).2 := ⟨_, rfl⟩
    rw [← htb] at tlen K1 ⊢
    have TN := Lib.hid tlen
    clear tlen htb h4 h3 hx8
    go_enter Try.func72, Try.ntmps72
    go_wp2_with fail
    refine (implIsBraid_any (q : Int) a n cap ls _ R.out hn).mono ?_
    rintro e w1 ⟨rfl, hb⟩
    clear qA1 qA2 qA3 qA4 qA5
    replace R := Lib.hid (R.out.below hb); replace A := Lib.hid (A.out.below hb)
    replace BB := Lib.hid (below_go BB.out hb (by simp)); clear hb
    obtain ⟨qA1, qA2, qA3, qA4, qA5⟩ := A.out
    go_wp2_with fail
    refine (K1.out _ R.out).mono ?_
    rintro e w2 ⟨rfl, hb⟩
    clear qA1 qA2 qA3 qA4 qA5
    have z2 := BB.out.size
    replace A := Lib.hid (A.out.below hb)
    have zA := A.out.1
    replace BB := Lib.hid (below_go BB.out hb z2); clear hb
    have zz := BB.out.size
    have T0 := Lib.hid (Blk.place w2 (List.replicate 64 0) 97 w2.heap.size rfl)
    rename (∀ (a : Act) (w : World), wpList _ _ _ _ a w → _) => tl
    refine tl _ _ ?_
    clear tl
    refine wpList_allocTo rfl (some 4) rfl (.pointer (some ⟨w2.heap.size, 0, none⟩)) (.cells (cells (List.replicate 64 0)) 97) (by rfl) ?_
    refine wpList_store_blk rfl 97 _ _ rfl w2.heap.size (m := tb) rfl rfl T0.out (by rw [TN.out]; rfl) (by kernel_rfl) ?_
    intro hblk
    clear T0
    obtain ⟨W, hW⟩ : ∃ W, W = (w2.alloc (.cells (cells (List.replicate 64 0)) 97)).setRow w2.heap.size (cells tb) := ⟨_, rfl⟩
    have B1 : Below w2.heap.size w2 W := by
      rw [hW]
      exact below_setRow (below1 w2 _) (Nat.le_refl _) _
    have zW : w2.heap.size < W.heap.size := by rw [hW]; simp
    rw [← hW] at hblk ⊢
    have TT := Lib.hid hblk
    have A1 := Lib.hid (A.out.heap B1.size (B1.block _ zA))
    have BW := Lib.hid (BB.out.trans (B1.mono zz))
    clear hblk hW B1 A BB
    obtain ⟨qA1, qA2, qA3, qA4, qA5⟩ := A1.out
    go_wp2_with (at_make; refine wpList_make_full W rfl _ _ 30 rfl W.heap.size 22 i1 (.slice none 0 0) 1 Try.underlying30 hj hs0 hs1 .i64 .i64 _ _ q rfl rfl (by omega) (by omega) (by rw [hs2]; omega) (by unfold maxLen; omega) (Nat.le_refl _) ?_)
    intro w3 hown hgrow
    have F0 := Lib.hid (fill_madeC hown)
    have HB2 := Lib.hid (Below.ofGrown hgrow)
    clear hown hgrow qA1 qA2 qA3 qA4 qA5
    go_wp2
    go_loopw [17] (fun i wr => ∃ k : Nat, k ≤ q ∧ i = .int .i64 k ∧ (∃ os : List RowV, os.map RowV.xs = rowsC tb q k ∧ FillSS W.heap.size wr W.heap.size q k os) ∧ Below W.heap.size W wr) (fun i _ => q - (intOf i).toNat)
    case atStart => exact ⟨0, Nat.zero_le _, rfl, ⟨[], rfl, F0.out⟩, HB2.out⟩
    case round =>
      obtain ⟨k, hk, rfl, ⟨os, hos, hF⟩, hb⟩ := hrel
      have HB := Lib.hid hb; have F := Lib.hid hF; have HOS := Lib.hid hos
      have A2 := Lib.hid (A1.out.heap hb.size (hb.block _ (by have := A1.out.1; omega)))
      have TW := Lib.hid (TT.out.heap (hb.block _ (by omega)))
      clear hb hF hos F0 HB2
      obtain ⟨wo, rfl⟩ : ∃ x, x = wr := ⟨_, rfl⟩
      by_cases hlt : k < q
      · skip
        obtain ⟨qA1, qA2, qA3, qA4, qA5⟩ := A2.out
        have k0 : 0 ≤ (k : Int) := by omega
        have k1 : (k : Int) < (q : Int) := by omega
        have zf := F.out.lt.2
        go_wp2_with (at_make; refine wpList_make_full wo rfl _ _ 22 rfl wo.heap.size 2 i0 (.int .i64 0) 1 Try.underlying22 hi hz0 hz1 .i64 .i64 _ _ q rfl rfl (by omega) (by omega) (by rw [hz2]; omega) (by unfold maxLen; omega) (Nat.le_refl _) ?_)
        intro w4 hown hgrow
        clear qA1 qA2 qA3 qA4 qA5
        obtain ⟨hoi, cur, hcur, hcs⟩ := own_madeC hown
        have hz4 : wo.heap.size < w4.heap.size := (Array.getElem?_eq_some_iff.1 hcur).1
        have hb4 := Below.ofGrown hgrow
        have F3 := Lib.hid (F.out.below hb4)
        have BB4 := Lib.hid (HB.out.trans (hb4.mono (by omega)))
        have T4 := Lib.hid (TW.out.heap (hb4.block _ (by omega)))
        have hrow := F.out.row
        have hfs := F3.out.store hlt hoi (by omega) zf hz4 (fun x hx => by have := (hrow x hx).2.2.2; omega)
        have FS := Lib.hid hfs
        have c2 : w4.cell? ⟨W.heap.size, k, none⟩ = some (.slice none 0 0) := by
          have hl := F3.out.len
          have h := World.ownsRow.cellAt F3.out.own k (by have := F3.out.own.1; omega)
          refine h.trans ?_
          rw [List.getElem?_append_right (by rw [List.length_map]; omega), List.length_map, hl, Nat.sub_self]
          exact List.getElem?_replicate_of_lt (by omega)
        have fz := World.ownsRow.frozenAt F3.out.own k
        have CU := Lib.hid hcur; have CS := Lib.hid hcs
        clear hfs hb4 hown hgrow hoi hrow hcur hcs
        go_wp2
        obtain ⟨V, hV⟩ : ∃ V, V = w4.setCell ⟨W.heap.size, k, none⟩ (.slice (some ⟨wo.heap.size, 0, none⟩) q q) := ⟨_, rfl⟩
        have fs := FS.out
        have bV : Below W.heap.size W V := by rw [hV]; exact BB4.out.setCell (p := ⟨W.heap.size, k, none⟩) (Nat.le_refl _) _
        have tV : Blk V w2.heap.size 97 tb := by rw [hV]; exact T4.out.setCell (p := ⟨W.heap.size, k, none⟩) (by show W.heap.size ≠ w2.heap.size; omega) _
        have cV : V.heap[wo.heap.size]? = some (.cells cur 2 (0, 0)) := by
          rw [hV]
          exact (Below.heap_setCell _ _ _ _ (by show wo.heap.size ≠ W.heap.size; omega)).trans CU.out
        rw [← hV] at fs ⊢
        have hol := F.out.len
        have c3 : V.cell? ⟨W.heap.size, k, none⟩ = some (.slice (some ⟨wo.heap.size, 0, none⟩) q q) := by
          have h := World.ownsRow.cellAt fs.own k (by have := fs.own.1; omega)
          refine h.trans ?_
          rw [List.getElem?_append_left (by simp; omega), List.map_append, List.getElem?_append_right (by simp; omega)]
          simp [hol, RowV.val]
        have FV := Lib.hid fs; have BV := Lib.hid bV; have TV := Lib.hid tV; have CV := Lib.hid cV; have HOL := Lib.hid hol
        clear hV fs bV tV cV hol c2 fz FS CU F3 T4 BB4
        have zV := TV.out.lt
        have k8 : k < 8 := by omega
        have k8i : (k : Int) < 8 := by omega
        have k8n : ¬ 8 ≤ k := by omega
        go_still_tail 7, (by kernel_rfl)
        change wpList _ _ _ _ _ V.drew
        obtain ⟨U, hU⟩ : ∃ U, U = V.drew := ⟨_, rfl⟩
        have fU : FillSS W.heap.size U W.heap.size q (k + 1) (os ++ [⟨wo.heap.size, some ⟨wo.heap.size, 0, none⟩, q, q, List.replicate q 0⟩]) := by rw [hU]; exact FV.out.rerow (fun _ _ => rfl) rfl (FV.out.row ⟨wo.heap.size, some ⟨wo.heap.size, 0, none⟩, q, q, List.replicate q 0⟩ (by simp)).1.drew
        have bU : Below W.heap.size W U := by rw [hU]; exact BV.out.drew
        have tU : Blk U w2.heap.size 97 tb := by rw [hU]; exact TV.out
        have cU : U.heap[wo.heap.size]? = some (.cells cur 2 (0, 0)) := by rw [hU]; exact CV.out
        rw [← hU]
        clear hU FV BV TV CV c3 zV
        refine wpList_copy_own rfl _ _ 22 22 rfl 2 Try.underlying22 (by rw [hi]; exact congrArg some hz1) wo.heap.size 0 q q ⟨w2.heap.size, k * 8, none⟩ 8 8 rfl rfl cur 2 cU ((rowC tb k q).map (Value.int .i64)) (by rw [List.length_map, rowC_len]; exact (Nat.min_eq_right hq8).symm) ?_ (by rw [List.length_map, rowC_len, CS.out]; omega) (fun v hv => by obtain ⟨x, _, rfl⟩ := List.mem_map.1 hv; rfl) ?_
        · intro j v hj
          rw [List.getElem?_map] at hj
          by_cases hjq : j < q
          · rw [rowC_getD tb k q j hjq] at hj
            obtain rfl := Option.some.inj hj
            have := tU.cell (k * 8 + j) (by rw [TN.out]; omega)
            rw [Nat.mul_comm k 8] at this ⊢
            have ea : (⟨w2.heap.size, 8 * k, none⟩ : Addr).add j = ⟨w2.heap.size, 8 * k + j, none⟩ := by
              unfold Addr.add
              split
              · next h => rw [h]; rfl
              · rfl
            rw [ea]
            exact this
          · rw [List.getElem?_eq_none (by rw [rowC_len]; omega)] at hj
            cases hj
        have e0 : (cur.toList.take 0 ++ ((rowC tb k q).map (Value.int .i64) ++ cur.toList.drop (0 + ((rowC tb k q).map (Value.int .i64)).length))) = (rowC tb k q).map (Value.int .i64) := by
          rw [List.take_zero, List.nil_append, List.drop_eq_nil_of_le (by rw [List.length_map, rowC_len, Array.length_toList, CS.out]; omega), List.append_nil]
        rw [e0]
        have FX := Lib.hid (fU.rerow (fun u hu => setRow_other U wo.heap.size u _ hu) (by simp) (own_setRowC cU (by unfold maxLen; omega) (rowC_len tb k q)))
        have BX := Lib.hid (below_setRow bU (by omega) ((rowC tb k q).map (Value.int .i64)).toArray : Below W.heap.size W (U.setRow wo.heap.size ((rowC tb k q).map (Value.int .i64)).toArray))
        obtain ⟨Y, hY⟩ : ∃ Y, Y = U.setRow wo.heap.size ((rowC tb k q).map (Value.int .i64)).toArray := ⟨_, rfl⟩
        rw [← hY] at FX BX ⊢
        clear hY e0 fU bU tU cU
        have hwk : IntKind.i64.wrap ((k : Int) + 1) = (k : Int) + 1 := IntWalk.i64_in _ (by omega)
        go_wp2
        go_roundw
        case rel => exact ⟨k + 1, by omega, by go_num, ⟨os ++ [⟨wo.heap.size, some ⟨wo.heap.size, 0, none⟩, q, q, rowC tb k q⟩], by rw [List.map_append, HOS.out, rowsC_succ]; rfl, FX.out⟩, BX.out⟩
        case measure => simp [intOf]; omega
      · have hkn : k = q := by omega
        have ho := HOS.out
        have hF2 := F.out
        rw [hkn] at ho hF2
        have hol : os.length = q := hF2.len
        have HO := Lib.hid ho; have HF2 := Lib.hid hF2.full; have HOL := Lib.hid hol; clear ho hkn hF2 hol
        go_wp2
        go_ret2
        exact ⟨_, q, os, by rw [HOL.out]; rfl, HO.out, by rw [HOL.out]; exact HF2.out.low (by omega), BW.out.trans (HB.out.mono (by omega))⟩
  · rw [mCro, if_neg hbr] at hM
    obtain ⟨rfl, rfl⟩ := Prod.mk.injEq .. ▸ hM
    have hf' : isBraid s ls = false := by simpa using hbr
    clear hbr hM
    go_enter Try.func72, Try.ntmps72
    go_wp2_with fail
    refine (implIsBraid_any s a n cap ls _ R.out hn).mono ?_
    rintro e w1 ⟨rfl, hb⟩
    clear qA1 qA2 qA3 qA4 qA5
    replace BB := Lib.hid (below_go BB.out hb (by simp)); clear hb
    go_wp2
    go_ret2
    exact ⟨none, 0, [], rfl, rfl, GrowSS.nil _ _, BB.out⟩

theorem mCro_len2 (s : Int) (ls : List Int) : (mCro s ls).1.length ≤ 8 := mCro_len (s := s) (ls := ls) (r := (mCro s ls).1) (fc := (mCro s ls).2) rfl

end Go.Proofs.Ytmlejlediflaaaa
