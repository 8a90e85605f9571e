/- The components of a closure: the exported function of the model. -/
import Derived.Test.YtehcbamfendbaaaCmpI
namespace Go.Proofs.Ytehcbamfendbaaa
open Go.RowKit Go.ChangeShapes

theorem GrowSS.emptyAtC (w : World) (g : Nat) (hg : w.heap.size = g) : GrowSS g (w.alloc (.cells #[] 22)) (.slice (some ⟨g, 0, none⟩) 0 0) 0 [] := by
  subst hg
  exact GrowSS.empty w

/-- The numbers below y with a label. -/
noncomputable def cmpF (n : Nat) (p : List Int) (k y : Nat) : List Int := ((List.range y).filter fun x => decide (labN n p x = k)).map fun x : Nat => (x : Int)

theorem cmpF_step (n : Nat) (p : List Int) (k y : Nat) : cmpF n p k (y + 1) = cmpF n p k y ++ (if labN n p y = k then [(y : Int)] else []) := by
  unfold cmpF
  rw [List.range_succ, List.filter_append, List.map_append]
  congr 1
  by_cases h : labN n p y = k <;> simp [h]

theorem cmpF_len (n : Nat) (p : List Int) (k y : Nat) : (cmpF n p k y).length ≤ y := by
  unfold cmpF
  rw [List.length_map]
  have := List.length_filter_le (fun x => decide (labN n p x = k)) (List.range y)
  simpa using this

theorem cmpK_pos {n : Nat} {p : List Int} (h : Sim n p) (k : Nat) (hk : k < cntL n p n) : 0 < (cmpK n p k).length := by
  have e := cmpK_all h n (Nat.le_refl _)
  have h1 : ((List.range (cntL n p n)).map (cmpK n p))[k]? = some (cmpK n p k) := by simp [hk]
  have hl : k < (ldr n p n).length := hk
  rw [e, List.getElem?_map, List.getElem?_eq_getElem hl, Option.map_some] at h1
  rw [← Option.some.inj h1]
  have hm : (ldr n p n)[k] ∈ ldr n p n := List.getElem_mem hl
  simp only [ldr, List.mem_filter, List.mem_range, decide_eq_true_eq] at hm
  refine List.length_pos_of_mem (a := (((ldr n p n)[k] : Nat) : Int)) ?_
  simp only [srtN, List.mem_map, List.mem_filter, List.mem_range, decide_eq_true_eq]
  exact ⟨_, hm, rfl⟩

set_option maxRecDepth 100000 in
set_option maxHeartbeats 4000000 in
theorem specCmp_any {s : Int} {a : Option Addr} {n cap : Nat} {xs : List Int} {w : World} {r : List (List Int)} {fc : Int} (hr : Reads w a n xs) (hf : Fits xs) (hn : n ≤ 1048576) (hM : mCmp s xs = (r, fc)) :
    Calls Try.prog 17 #[.agg #[.int .i64 s, .slice a n cap]] w (RetSSN w r fc) := by
  have R := Lib.hid (hr.alloc (.cells #[.int .i64 s, .slice a n cap] 29)); clear hr
  have HF := Lib.hid hf; clear hf
  have A := Lib.hid (At2.new w (.int .i64 s) (.slice a n cap) 29)
  have BB := Lib.hid (below1 w (.cells #[.int .i64 s, .slice a n cap] 29))
  by_cases hbr : isBraid s xs = true
  · have HBR := Lib.hid hbr
    obtain ⟨N, rfl, h1, h8, hlt⟩ := braid_nat hbr
    simp only [mCmp, if_pos hbr, Prod.mk.injEq, Int.toNat_natCast] at hM
    obtain ⟨rfl, rfl⟩ := hM
    have SS := Lib.hid (permP_sim N h1 h8 xs hlt)
    have HLT := Lib.hid hlt
    clear hbr hlt
    obtain ⟨i0, hi, hz0, hz1, hz2⟩ := info_parts infoInt
    obtain ⟨i1, hj, hs0, hs1, hs2⟩ := info_parts infoSlice
    obtain ⟨qA1, qA2, qA3, qA4, qA5⟩ := A.out
    go_enter Try.func17, Try.ntmps17
    go_wp2_with fail
    refine (l01Is_any _ a n cap xs _ R.out HF.out hn).mono ?_
    rintro e w1 ⟨rfl, hb⟩
    rw [HBR.out]
    clear qA1 qA2 qA3 qA4 qA5
    replace R := Lib.hid (R.out.below hb)
    replace A := Lib.hid (A.out.below hb)
    replace BB := Lib.hid (below_go BB.out hb BB.out.size)
    clear hb
    obtain ⟨qA1, qA2, qA3, qA4, qA5⟩ := A.out
    go_wp2_with fail
    refine (l11Components_any N h1 h8 a n cap xs _ R.out HLT.out hn).mono ?_
    obtain ⟨p, hp⟩ : ∃ p, p = permP N xs := ⟨_, rfl⟩
    rw [← hp] at SS ⊢
    have HP := Lib.hid hp
    clear hp
    obtain ⟨l, hl⟩ : ∃ l, l = outC N p N 0 := ⟨_, rfl⟩
    have HLL : Hid (l.length = 8) := Lib.hid (by rw [hl]; exact outC_len _ _ _ _)
    have HLE : Hid (∀ y, y < N → at8 l y = ((labN N p y : Nat) : Int)) := Lib.hid (fun y hy => by rw [hl]; exact outC_end SS.out y hy)
    rw [← hl]
    clear hl
    obtain ⟨cn, hcn⟩ : ∃ c, c = cntL N p N := ⟨_, rfl⟩
    have hc8 : cn ≤ 8 := by have := cntL_le N p N; omega
    rw [← hcn]
    have HCN := Lib.hid hcn
    clear hcn
    rintro e w2 ⟨rfl, hb⟩
    clear qA1 qA2 qA3 qA4 qA5
    replace A := Lib.hid (A.out.below hb)
    replace BB := Lib.hid (below_go BB.out hb BB.out.size)
    clear hb R
    have zr := A.out.1
    have RL := Lib.hid ((Row8.place w2 .i64 l 54 w2.heap.size rfl HLL.out).alloc (.cells #[] 22))
    have GE := Lib.hid (GrowSS.emptyAtC (w2.alloc (.cells #[.int .i64 (at8 l 0), .int .i64 (at8 l 1), .int .i64 (at8 l 2), .int .i64 (at8 l 3), .int .i64 (at8 l 4), .int .i64 (at8 l 5), .int .i64 (at8 l 6), .int .i64 (at8 l 7)] 54)) (w2.heap.size + 1) (by simp))
    replace A := Lib.hid ((A.out.alloc (.cells #[.int .i64 (at8 l 0), .int .i64 (at8 l 1), .int .i64 (at8 l 2), .int .i64 (at8 l 3), .int .i64 (at8 l 4), .int .i64 (at8 l 5), .int .i64 (at8 l 6), .int .i64 (at8 l 7)] 54)).alloc (.cells #[] 22))
    replace BB := Lib.hid ((BB.out.alloc BB.out.size (.cells #[.int .i64 (at8 l 0), .int .i64 (at8 l 1), .int .i64 (at8 l 2), .int .i64 (at8 l 3), .int .i64 (at8 l 4), .int .i64 (at8 l 5), .int .i64 (at8 l 6), .int .i64 (at8 l 7)] 54)).alloc (by simp; omega) (.cells #[] 22))
    obtain ⟨W, hW⟩ : ∃ W, W = (w2.alloc (.cells #[.int .i64 (at8 l 0), .int .i64 (at8 l 1), .int .i64 (at8 l 2), .int .i64 (at8 l 3), .int .i64 (at8 l 4), .int .i64 (at8 l 5), .int .i64 (at8 l 6), .int .i64 (at8 l 7)] 54)).alloc (.cells #[] 22) := ⟨_, rfl⟩
    go_wp2
    rw [← hW] at RL GE A BB ⊢
    clear hW
    have zl := RL.out.lt
    obtain ⟨gl, hgl⟩ : ∃ g, g = w2.heap.size := ⟨_, rfl⟩
    rw [← hgl] at RL GE zr zl ⊢
    clear hgl
    go_loopw [6, 7] (fun lv i wr => ∃ x : Nat, x ≤ cn ∧ i = .int .i64 x ∧ (∃ rs : List RowV, rs.map RowV.xs = (List.range x).map (cmpK N p) ∧ GrowSS (gl + 1) wr lv rs.length rs) ∧ Row8 wr gl .i64 l ∧ At2 wr w.heap.size (.int .i64 N) (.slice a n cap) ∧ Below w.heap.size w wr) (fun _ i _ => cn - (intOf i).toNat)
    case atStart => exact ⟨0, Nat.zero_le _, rfl, ⟨[], rfl, GE.out⟩, RL.out, A.out, BB.out⟩
    case round =>
      obtain ⟨x, hx, rfl, ⟨rs, hrs, hG⟩, hRL, hA, hBB⟩ := hrel
      clear RL BB GE A
      have RL := Lib.hid hRL
      have BB := Lib.hid hBB
      have GG := Lib.hid hG
      have HRS := Lib.hid hrs
      have A := Lib.hid hA
      clear hRL hBB hG hrs hA
      have z1 := RL.out.lt
      have hrl : rs.length = x := by
        have := congrArg List.length HRS.out
        simpa using this
      have hlen : rs.length ≤ 8 := by omega
      clear hrl
      by_cases hlt : x < cn
      · have OE := Lib.hid (OwnV.empty wr)
        obtain ⟨W1, hW1⟩ : ∃ W1, W1 = wr.alloc (.cells #[] 2) := ⟨_, rfl⟩
        have HB1 : Hid (Below wr.heap.size wr W1) := Lib.hid (by rw [hW1]; exact (Below.refl _ _).alloc (Nat.le_refl _) _)
        have hpos : 0 < (cmpK N p x).length := cmpK_pos SS.out x (by rw [← HCN.out]; exact hlt)
        have HPOS := Lib.hid hpos; clear hpos
        go_wp2
        rw [← hW1] at OE ⊢
        clear hW1
        obtain ⟨wo, hwo⟩ : ∃ wo, wo = wr := ⟨_, rfl⟩
        rw [← hwo] at RL BB GG z1 OE HB1 A ⊢
        clear hwo
        have zA := A.out.1
        obtain ⟨C, hC⟩ : ∃ C, C = wo.heap.size := ⟨_, rfl⟩
        rw [← hC] at OE HB1 z1 zA ⊢
        have HC := Lib.hid hC
        clear hC
        go_loopw [8, 9] (fun ov i wx => ∃ y : Nat, y ≤ N ∧ i = .int .i64 y ∧ OwnV C wx ov (cmpF N p x y).length (cmpF N p x y) ∧ Below C wo wx) (fun _ i _ => N - (intOf i).toNat)
        case atStart => exact ⟨0, by omega, rfl, OE.out, HB1.out⟩
        case round =>
          obtain ⟨y, hy2, rfl, hO, hB⟩ := hrel
          obtain ⟨ba, bc, rfl, _⟩ := hO.form
          clear OE HB1
          have HO := Lib.hid hO
          have HB := Lib.hid hB
          clear hO hB
          have RY := Lib.hid (RL.out.under HB.out (by omega))
          have A2 := Lib.hid (A.out.heap HB.out.size (HB.out.block _ zA))
          obtain ⟨qA1, qA2, qA3, qA4, qA5⟩ := A2.out
          have hzb := HB.out.size
          have zC : C ≤ wr.heap.size := by rw [HC.out]; exact hzb
          have hol := cmpF_len N p x y
          by_cases hly : y < N
          · have c1 := RY.out.cell y (by omega)
            obtain ⟨u, hu⟩ : ∃ u, u = labN N p y := ⟨_, rfl⟩
            rw [HLE.out y hly, ← hu] at c1
            have HU := Lib.hid hu
            clear hu
            have HST := Lib.hid (cmpF_step N p x y)
            by_cases hd : u = x
            · have t2 : ((u : Int) == (x : Int)) = true := by simp [hd]
              have HD : Hid (labN N p y = x) := Lib.hid (by rw [← HU.out, hd])
              clear hd
              go_wp2_with (at_builtin; refine wpList_append_own _ rfl _ _ 22 rfl C 2 i0 (.int .i64 0) 1 8 Try.underlying22 hi hz0 hz1 hz2 rfl (by decide) _ _ _ rfl (World.ownsRow.alloc HO.out _) ⟨wr.heap.size, 0, none⟩ 1 1 [.int .i64 (y : Int)] rfl rfl (one_new wr (y : Int) _) (one_cell _) (by unfold maxLen; omega) (by omega) (by simp; omega) ?_)
              intro v' w1 hown' hgrow _
              have HO2 := Lib.hid (OwnV.appended hown')
              have hb := below_appended (Below.refl C wr) zC HO.out hgrow
              have HB2 : Hid (Below C wo w1) := Lib.hid (HB.out.trans hb)
              clear hown' hgrow hb
              go_wp2
              go_roundw
              case rel => exact ⟨y + 1, by omega, by go_num, by rw [HST.out, if_pos HD.out, List.length_append]; exact HO2.out, HB2.out⟩
              case measure => first | (simp [intOf]; done) | (simp [intOf]; omega)
            · have t2 : ((u : Int) == (x : Int)) = false := by rw [beq_eq_false_iff_ne]; omega
              have HD : Hid (labN N p y ≠ x) := Lib.hid (by rw [← HU.out]; exact hd)
              clear hd
              go_wp2
              go_roundw
              case rel => exact ⟨y + 1, by omega, by go_num, by rw [HST.out, if_neg HD.out, List.append_nil]; exact HO.out, HB.out⟩
              case measure => first | (simp [intOf]; done) | (simp [intOf]; omega)
          · have hyn : y = N := by omega
            subst hyn
            have hpos : 0 < (cmpF y p x y).length := HPOS.out
            obtain ⟨m, hm⟩ : ∃ m, m = (cmpF y p x y).length := ⟨_, rfl⟩
            rw [← hm] at HO hol hpos ⊢
            clear hm
            have ho : Own C wr ba m bc (cmpF y p x y) := HO.out
            obtain ⟨g, rfl, hg1, hg2⟩ := ho.block hpos
            have HOW := Lib.hid ho
            clear ho
            have G2 := Lib.hid (GG.out.below (by rw [← HC.out]; exact HB.out))
            have GL := Lib.hid GG.out.lt
            have BB2 : Hid (Below w.heap.size w wr) := Lib.hid (below_go BB.out (by rw [← HC.out]; exact HB.out) BB.out.size)
            go_wp2_with (at_builtin; refine wpList_append_own_at _ rfl _ _ 26 rfl (gl + 1) 22 i1 (.slice none 0 0) 1 24 Try.underlying26 hj hs0 hs1 hs2 rfl (by decide) _ _ _ rfl (World.ownsRow.alloc G2.out.own _) ⟨wr.heap.size, 0, none⟩ 1 1 [.slice (some ⟨g, 0, none⟩) m bc] rfl rfl (cell_one_new wr _ _) (fun u hu => by simp at hu; subst hu; rfl) (by unfold maxLen; omega) (by omega) (by simp; omega) ?_)
            intro v' w1 hown' hgrow _ hat
            have hgx := G2.out.append (HOW.out.mono (show gl + 1 ≤ C by omega)) (by omega) (fun y hy => by have := GL.out.1 y hy; have := HC.out; omega) (fun k hk => by have := GL.out.2 k hk; have := HC.out; omega) hown' hgrow hat
            have GX := Lib.hid hgx
            have hb := G2.out.appBelow (by omega) hgrow
            have RL3 := Lib.hid (RY.out.under hb (by omega))
            have A3 := Lib.hid (A2.out.heap hb.size (hb.block _ (by omega)))
            have BB3 : Hid (Below w.heap.size w w1) := Lib.hid (BB2.out.trans (hb.mono (by omega)))
            clear hgx hown' hgrow hat hb
            go_wp2
            go_roundw
            case rel =>
              refine ⟨x + 1, by omega, by go_num, ⟨rs ++ [⟨g, some ⟨g, 0, none⟩, m, bc, cmpF y p x y⟩], ?_, by rw [List.length_append]; exact GX.out⟩, RL3.out, A3.out, BB3.out⟩
              rw [List.map_append, HRS.out, List.range_succ, List.map_append]
              rfl
            case measure => first | (simp [intOf]; done) | (simp [intOf]; omega)
      · have hxn : x = cn := by omega
        subst hxn
        obtain ⟨a', cap', rfl⟩ := GG.out.form
        have HFIN : Hid (rs.map RowV.xs = cmpL N p) := Lib.hid (by rw [HRS.out, HCN.out]; exact cmpK_all SS.out N (Nat.le_refl _))
        go_wp2
        go_ret2
        exact ⟨a', cap', rs, rfl, by rw [HFIN.out, HP.out], GG.out.low (by omega), BB.out⟩
  · have hb0 : isBraid s xs = false := by simpa using hbr
    simp only [mCmp, if_neg hbr, Prod.mk.injEq] at hM
    obtain ⟨rfl, rfl⟩ := hM
    have HB0 := Lib.hid hb0
    obtain ⟨qA1, qA2, qA3, qA4, qA5⟩ := A.out
    clear hbr hb0
    go_enter Try.func17, Try.ntmps17
    go_wp2_with fail
    refine (l01Is_any s a n cap xs _ R.out HF.out hn).mono ?_
    rintro e w1 ⟨rfl, hb⟩
    rw [HB0.out]
    replace BB := Lib.hid (below_go BB.out hb BB.out.size)
    clear qA1 qA2 qA3 qA4 qA5 hb
    go_wp2
    go_ret2
    exact ⟨none, 0, [], rfl, rfl, GrowSS.nil _ _, BB.out⟩

theorem mCmp_len2 (s : Int) (xs : List Int) : (mCmp s xs).1.length ≤ 8 := by
  unfold mCmp
  split
  · rename_i h
    have h8 := hi_of_isBraid _ _ h
    show (cmpL s.toNat (permP s.toNat xs)).length ≤ 8
    rw [cmp_len]
    have := cycL_len s.toNat (permP s.toNat xs) s.toNat
    omega
  · simp

end Go.Proofs.Ytehcbamfendbaaa
