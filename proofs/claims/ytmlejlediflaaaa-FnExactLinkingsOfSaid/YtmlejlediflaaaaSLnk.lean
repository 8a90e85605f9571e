/- Linking numbers: the exported function of the model. -/
import Derived.Test.YtmlejlediflaaaaSCrs
import Derived.Test.YtmlejlediflaaaaPurC
namespace Go.Proofs.Ytmlejlediflaaaa
open Go.RowKit Go.ChangeShapes Go.Great

theorem tdiv2_bd {x : Int} (h : -200 ≤ x ∧ x ≤ 200) : -200 ≤ x.tdiv 2 ∧ x.tdiv 2 ≤ 200 := by
  by_cases h0 : 0 ≤ x
  · rw [Int.tdiv_eq_ediv_of_nonneg h0]; omega
  · obtain ⟨y, rfl⟩ : ∃ y, x = -y := ⟨-x, by omega⟩
    rw [Int.neg_tdiv, Int.tdiv_eq_ediv_of_nonneg (by omega)]; omega

/-- Half of the numbers. -/
def halfL (xs : List Int) : List Int := xs.map fun x => x.tdiv 2

/-- What LinkingsOf gives, and the code. -/
def mLnk (s : Int) (ls : List Int) : List (List Int) × Int := if pureC s ls = 0 then ((rowsC (runT ls).2 s.toNat s.toNat).map halfL, 0) else ([], pureC s ls)

theorem mLnk_len2 (s : Int) (ls : List Int) : (mLnk s ls).1.length ≤ 8 := by
  unfold mLnk
  split
  · rename_i h
    have := hi_of_isBraid _ _ (pureC_zero h).1
    simp [rowsC_len]; omega
  · simp

set_option maxRecDepth 100000 in
set_option maxHeartbeats 4000000 in
theorem specLinkingsOf_any {s : Int} {a : Option Addr} {n cap : Nat} {ls : List Int} {w : World} {r : List (List Int)} {fc : Int} (hr : Reads w a n ls) (hf : Fits ls) (hn : n ≤ 1048576) (hM : mLnk s ls = (r, fc)) :
    Calls Try.prog 35 #[.agg #[.int .i64 s, .slice a n cap]] w (RetSSN w r fc) := by
  obtain ⟨i1, hj, hs0, hs1, hs2⟩ := info_parts infoSlice
  obtain ⟨i0, hi, hz0, hz1, hz2⟩ := info_parts infoInt
  have HL := Lib.hid hr.len
  have R := Lib.hid (hr.alloc (.cells #[.int .i64 s, .slice a n cap] 24)); clear hr
  have HF := Lib.hid hf; clear hf
  have A := Lib.hid (At2.new w (.int .i64 s) (.slice a n cap) 24)
  have BB := Lib.hid (below1 w (.cells #[.int .i64 s, .slice a n cap] 24))
  obtain ⟨qA1, qA2, qA3, qA4, qA5⟩ := A.out
  by_cases hpc : pureC s ls = 0
  · have hbr := (pureC_zero hpc).1
    rw [mLnk, if_pos hpc] at hM
    have HPC := Lib.hid hpc; clear hpc
    obtain ⟨h1, h2, h3, h4⟩ := (isBraid_iff s ls).1 hbr
    obtain ⟨q, rfl⟩ : ∃ q : Nat, s = (q : Int) := ⟨s.toNat, by omega⟩
    rw [Int.toNat_natCast] at hM
    obtain ⟨rfl, rfl⟩ := Prod.mk.injEq .. ▸ hM
    clear hM
    have hq8 : q ≤ 8 := by omega
    have HSM : Hid (∀ p y, p < 8 → y < 8 → -200 ≤ at8 (runT ls).2 (8 * p + y) ∧ at8 (runT ls).2 (8 * p + y) ≤ 200) := Lib.hid fun p y hp hy => by
      have := (runT_ok ls (fun z hz => by obtain ⟨e1, e2, e3⟩ := h4 z hz; exact ⟨e1, by omega, by omega⟩)).small p y hp hy
      unfold tget at this
      omega
    have HX : Hid (Letts q ls) := Lib.hid h4
    have hn2 : n ≤ 1000 := by rw [← HL.out]; omega
    have tlen : (runT ls).2.length = 64 := (runT_ok ls (fun y hy => by obtain ⟨e1, e2, e3⟩ := h4 y hy; exact ⟨e1, by omega, by omega⟩)).tlen
    have K1 := Lib.hid (fun W (hR : Reads W a n ls) => l01Crossings_any q hq8 a n cap ls W hR HX.out hn2)
    obtain ⟨tb, htb⟩ : ∃ tb, tb = (runT ls).2 := ⟨_, rfl⟩
    rw [← htb] at tlen K1 HSM ⊢
    have TN := Lib.hid tlen
    clear tlen htb h4 h3 hbr
    go_enter Try.func35, Try.ntmps35
    go_wp2_with fail
    refine (l10Pure_any R.out HF.out hn HPC.out).mono ?_
    rintro e w1 ⟨rfl, hb⟩
    clear qA1 qA2 qA3 qA4 qA5
    replace R := Lib.hid (R.out.below hb); replace A := Lib.hid (A.out.below hb)
    replace BB := Lib.hid (below_go BB.out hb (by simp)); clear hb
    obtain ⟨qA1, qA2, qA3, qA4, qA5⟩ := A.out
    have t0 : ((0 : Int) != 0) = false := by simp
    go_wp2_with fail
    refine (K1.out _ R.out).mono ?_
    rintro e w2 ⟨rfl, hb⟩
    clear qA1 qA2 qA3 qA4 qA5
    have z2 := BB.out.size
    replace A := Lib.hid (A.out.below hb)
    have zA := A.out.1
    replace BB := Lib.hid (below_go BB.out hb z2); clear hb
    have zz := BB.out.size
    have hge := (GrowSS.empty w2).alloc (.cells (cells (List.replicate 64 0)) 67)
    have T0 := Lib.hid (Blk.place (w2.alloc (.cells #[] 22)) (List.replicate 64 0) 67 (w2.heap.size + 1) (by simp))
    have e1 : (w2.alloc (.cells #[] 22)).heap.size = w2.heap.size + 1 := by simp
    rename (∀ (a : Act) (w : World), wpList _ _ _ _ a w → _) => tl
    refine tl _ _ ?_
    clear tl
    refine wpList_runTo rfl (some 20) rfl (.slice (some ⟨w2.heap.size, 0, none⟩) 0 0) (w2.alloc (.cells #[] 22)) (by simp [execOp, go_sem]) ?_
    refine wpList_allocTo rfl (some 5) rfl (.pointer (some ⟨w2.heap.size + 1, 0, none⟩)) (.cells (cells (List.replicate 64 0)) 67) (by rw [← e1]; rfl) ?_
    refine wpList_store_blk rfl 67 _ _ rfl (w2.heap.size + 1) (m := tb) rfl rfl T0.out (by rw [TN.out]; rfl) (by kernel_rfl) ?_
    intro hblk
    clear e1 T0
    obtain ⟨W, hW⟩ : ∃ W, W = ((w2.alloc (.cells #[] 22)).alloc (.cells (cells (List.replicate 64 0)) 67)).setRow (w2.heap.size + 1) (cells tb) := ⟨_, rfl⟩
    have hG : GrowSS w2.heap.size W (.slice (some ⟨w2.heap.size, 0, none⟩) 0 0) 0 [] := by
      rw [hW]
      exact ⟨ownsRow_heap hge.own (fun j hj => setRow_other _ _ _ _ (by have := World.ownsRow.lt hge.own j hj; simp [Value.ownBlock] at hj; omega)), fun x hx => (by cases hx), fun i j hi => (by cases hi), fun x hx => (by cases hx)⟩
    have B1 : Below w2.heap.size w2 W := by
      rw [hW]
      exact below_setRow (below2 w2 _ _) (by omega) _
    rw [← hW] at hblk ⊢
    have TT := Lib.hid hblk; have GE := Lib.hid hG; have HB2 := Lib.hid B1
    clear hblk hG B1 hW hge
    go_wp2
    go_loopw [6, 7] (fun lv i wr => ∃ k : Nat, k ≤ q ∧ i = .int .i64 k ∧ (∃ os : List RowV, os.map RowV.xs = (rowsC tb q k).map halfL ∧ GrowSS w2.heap.size wr lv os.length os) ∧ Blk wr (w2.heap.size + 1) 67 tb ∧ lv.ownBlock ≠ some (w2.heap.size + 1) ∧ Below w2.heap.size w2 wr) (fun _ i _ => q - (intOf i).toNat)
    case atStart => exact ⟨0, Nat.zero_le _, rfl, ⟨[], rfl, GE.out⟩, TT.out, by simp [Value.ownBlock], HB2.out⟩
    case round =>
      obtain ⟨k, hk, rfl, ⟨os, hos, hG⟩, ht, hne, hb⟩ := hrel
      have HB := Lib.hid hb; have GG := Lib.hid hG; have HOS := Lib.hid hos; have TW := Lib.hid ht; have HNE := Lib.hid hne
      have A1 := Lib.hid (A.out.heap hb.size (hb.block _ zA))
      clear hb hG hos GE HB2 TT ht hne
      obtain ⟨wo, rfl⟩ : ∃ x, x = wr := ⟨_, rfl⟩
      obtain ⟨qA1, qA2, qA3, qA4, qA5⟩ := A1.out
      by_cases hlt : k < q
      · skip
        have zt := TW.out.lt
        have zo := HB.out.size
        go_wp2
        clear qA1 qA2 qA3 qA4 qA5
        go_loopw [8, 9] (fun lv2 i2 wr2 => ∃ y : Nat, y ≤ q ∧ i2 = .int .i64 y ∧ OwnV wo.heap.size wr2 lv2 y (halfL (rowC tb k y)) ∧ wo.heap.size + 1 ≤ wr2.heap.size ∧ Below wo.heap.size wo wr2) (fun _ i2 _ => q - (intOf i2).toNat)
        case atStart => exact ⟨0, Nat.zero_le _, rfl, OwnV.empty wo, by simp, below1 wo _⟩
        case round =>
          obtain ⟨y, hy, rfl, hown, hz, hbi⟩ := hrel
          have HO := Lib.hid hown; have HBI := Lib.hid hbi
          have A2 := Lib.hid (A1.out.heap hbi.size (hbi.block _ (by omega)))
          have TI := Lib.hid (TW.out.heap (hbi.block _ zt))
          clear hown hbi
          obtain ⟨wi, rfl⟩ : ∃ x, x = wr := ⟨_, rfl⟩
          obtain ⟨qA1, qA2, qA3, qA4, qA5⟩ := A2.out
          by_cases hly : y < q
          · skip
            have c1 := TI.out.cell (k * 8 + y) (by rw [TN.out]; omega)
            have hsu : halfL (rowC tb k (y + 1)) = halfL (rowC tb k y) ++ [(at8 tb (k * 8 + y)).tdiv 2] := by rw [rowC_succ, Nat.mul_comm 8 k]; simp [halfL]
            have hbd := HSM.out k y (by omega) (by omega)
            rw [Nat.mul_comm 8 k] at hbd
            obtain ⟨x, hx⟩ : ∃ x, x = at8 tb (k * 8 + y) := ⟨_, rfl⟩
            rw [← hx] at c1 hsu hbd
            have hwd : IntKind.i64.wrap (x.tdiv 2) = x.tdiv 2 := IntWalk.i64_in _ (by have := tdiv2_bd hbd; omega)
            have HSU := Lib.hid hsu
            have zi := TI.out.lt
            clear hx hsu
            go_wp2_with (at_builtin; refine wpList_append_own_at _ rfl _ _ 22 rfl wo.heap.size 2 i0 (.int .i64 0) 1 8 Try.underlying22 hi hz0 hz1 hz2 rfl (by decide) _ _ _ rfl (World.ownsRow.alloc HO.out _) ⟨wi.heap.size, 0, none⟩ 1 1 [.int .i64 (x.tdiv 2)] rfl rfl (one_new wi (x.tdiv 2) _) (one_cell _) (by unfold maxLen; omega) (by omega) (by simp; omega) ?_)
            intro v' w3 hown' hgrow _ hlies
            have HO' := Lib.hid (OwnV.appended hown')
            have HB' := Lib.hid (below_appended HBI.out (by omega) HO.out hgrow)
            have hz3 : wo.heap.size + 1 ≤ w3.heap.size := by have := hgrow.size; simp at this; omega
            clear hown' hgrow hlies
            go_wp2
            go_roundw
            case rel => exact ⟨y + 1, by omega, by go_num, by rw [HSU.out]; exact HO'.out, hz3, HB'.out⟩
            case measure => simp [intOf]; omega
          · have hyq : y = q := by omega
            subst hyq
            obtain ⟨a3, c3, rfl, ho'⟩ := HO.out.form
            obtain ⟨b, hb1', hb2', hoi⟩ := own_block ho' (by omega)
            have HOI := Lib.hid hoi
            have GL := Lib.hid GG.out.lt
            have G3 := Lib.hid (GG.out.below HBI.out)
            have BB3 := Lib.hid (below_go HB.out HBI.out HB.out.size)
            have hol8 : os.length = k := by have := congrArg List.length HOS.out; rw [List.length_map, List.length_map, rowsC_len] at this; exact this
            clear ho' hoi HO
            go_wp2_with (at_builtin; refine wpList_append_own_at _ rfl _ _ 30 rfl w2.heap.size 22 i1 (.slice none 0 0) 1 24 Try.underlying30 hj hs0 hs1 hs2 rfl (by decide) _ _ _ rfl (World.ownsRow.alloc G3.out.own _) ⟨wi.heap.size, 0, none⟩ 1 1 [.slice a3 y c3] rfl rfl (cell_one_new wi _ _) (fun u hu => by simp at hu; subst hu; rfl) (by unfold maxLen; omega) (by omega) (by simp; omega) ?_)
            intro v' w5 hown' hgrow _ hat
            have hgx := G3.out.appendR HOI.out (by omega) (by omega) hb2' (fun x hx => by have := GL.out.1 x hx; omega) (fun j hj => by have := GL.out.2 j hj; omega) (by rw [hol8]; exact hown') hgrow (by simpa using hat)
            have hb5 := G3.out.appBelow (by omega) hgrow
            have BB5 : Hid (Below w2.heap.size w2 w5) := Lib.hid (BB3.out.trans (hb5.mono (by omega)))
            have TX := Lib.hid (blk_kept (TI.out.alloc _) hgrow HNE.out)
            have hne' : v'.ownBlock ≠ some (w2.heap.size + 1) := by
              rcases hat with e | e
              · rw [e]; exact HNE.out
              · rw [e]
                simp
                omega
            have HNE' := Lib.hid hne'
            have GX := Lib.hid hgx
            have HK := Lib.hid hol8
            clear hgx hown' hgrow hat hb5 hne' hol8
            go_wp2
            go_roundw
            case rel => exact ⟨k + 1, by omega, by go_num, ⟨os ++ [⟨b, a3, y, c3, halfL (rowC tb k y)⟩], by rw [List.map_append, HOS.out, rowsC_succ, List.map_append]; rfl, by rw [List.length_append]; exact GX.out⟩, TX.out, HNE'.out, BB5.out⟩
            case measure => simp [intOf]; omega
      · have hkn : k = q := by omega
        have ho := HOS.out
        rw [hkn] at ho
        obtain ⟨ad2, cd2, hve⟩ := GG.out.form
        subst hve
        have HO := Lib.hid ho; clear ho hkn
        go_wp2
        go_ret2
        exact ⟨ad2, cd2, os, rfl, HO.out, GG.out.low (by omega), BB.out.trans (HB.out.mono zz)⟩
  · rw [mLnk, if_neg hpc] at hM
    obtain ⟨rfl, rfl⟩ := Prod.mk.injEq .. ▸ hM
    have hne : (pureC s ls != 0) = true := by simp [hpc]
    obtain ⟨pc, hpcq⟩ : ∃ pc, pc = pureC s ls := ⟨_, rfl⟩
    have HPC : Hid (pureC s ls = pc) := Lib.hid hpcq.symm
    rw [← hpcq] at hne ⊢
    clear hpc hM hpcq
    go_enter Try.func35, Try.ntmps35
    go_wp2_with fail
    refine (l10Pure_any R.out HF.out hn HPC.out).mono ?_
    rintro e w1 ⟨rfl, hb⟩
    clear qA1 qA2 qA3 qA4 qA5
    replace BB := Lib.hid (below_go BB.out hb (by simp)); clear hb
    go_wp2
    go_ret2
    exact ⟨none, 0, [], rfl, rfl, GrowSS.nil _ _, BB.out⟩

end Go.Proofs.Ytmlejlediflaaaa
