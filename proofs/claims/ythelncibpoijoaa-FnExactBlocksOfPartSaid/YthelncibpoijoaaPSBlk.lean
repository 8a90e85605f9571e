/- The model: the blocks of a part. -/
import Derived.Test.YthelncibpoijoaaPSLst
import Derived.Test.YthelncibpoijoaaQA
import Derived.Test.YthelncibpoijoaaPtO
import Derived.Test.YthelncibpoijoaaPIBlk
import Derived.Deep.DeepCutAuto
namespace Go.Proofs.Ythelncibpoijoaa
open Go.RowKit Go.ChangeShapes

theorem bytesOf {n : Nat} {p : List Int} (h : Sim n p) : Bytes8 p := fun j => by
  have := h.all j
  have := h.hi
  omega

theorem GrowSS.emptyAt (w : World) (g : Nat) (hg : w.heap.size = g) : GrowSS g (w.alloc (.cells #[] 34)) (.slice (some ⟨g, 0, none⟩) 0 0) 0 [] := by
  subst hg
  exact GrowSS.empty w

set_option maxRecDepth 100000 in
set_option maxHeartbeats 4000000 in
theorem l07Blocks_any (n : Nat) (p : List Int) (hp : Sim n p) (w : World) :
    Calls Try.prog 48 #[arr8 .u8 p, .int .i64 n] w (RetSS w (blkS n p n)) := by
  have h1 := hp.lo
  have h8 := hp.hi
  have lp := hp.len
  have HP := Lib.hid hp
  have YP := Lib.hid (bytesOf hp)
  have EP : Hid (lstM n p = lstR n p) := Lib.hid (by unfold lstM; rw [if_pos ((simB_iff _ _ hp.len).2 ⟨n, rfl, hp⟩), Int.toNat_natCast])
  clear hp
  obtain ⟨i0, hi, hz0, hz1, hz2⟩ := info_parts infoInt
  obtain ⟨i1, hj, hs0, hs1, hs2⟩ := info_parts infoSlice
  go_enter Try.func48, Try.ntmps48
  have RA := Lib.hid (Row8.place w .u8 p 24 w.heap.size rfl lp)
  have BB := Lib.hid (below1 w (.cells #[.int .u8 (at8 p 0), .int .u8 (at8 p 1), .int .u8 (at8 p 2), .int .u8 (at8 p 3), .int .u8 (at8 p 4), .int .u8 (at8 p 5), .int .u8 (at8 p 6), .int .u8 (at8 p 7)] 24))
  clear lp
  obtain ⟨⟨q0, q1, q2, q3⟩, q4, q5, q6, q7⟩ := RA.out.all
  go_wp2_with fail
  refine (l07Least_any n h1 h8 p HP.out.len YP.out _).mono ?_
  rw [EP.out]
  rintro e w2 ⟨rfl, hb⟩
  clear q0 q1 q2 q3 q4 q5 q6 q7
  replace BB := Lib.hid (below_go BB.out hb BB.out.size)
  have zr := (RA.out.below hb).lt
  clear hb RA
  have RL := Lib.hid ((Row8.place w2 .i64 (lstR n p) 67 w2.heap.size rfl (mapR_len _ _ h8)).alloc (.cells #[] 34))
  have GE := Lib.hid (GrowSS.emptyAt (w2.alloc (.cells #[.int .i64 (at8 (lstR n p) 0), .int .i64 (at8 (lstR n p) 1), .int .i64 (at8 (lstR n p) 2), .int .i64 (at8 (lstR n p) 3), .int .i64 (at8 (lstR n p) 4), .int .i64 (at8 (lstR n p) 5), .int .i64 (at8 (lstR n p) 6), .int .i64 (at8 (lstR n p) 7)] 67)) (w2.heap.size + 1) (by simp))
  replace BB := Lib.hid ((BB.out.alloc BB.out.size (.cells #[.int .i64 (at8 (lstR n p) 0), .int .i64 (at8 (lstR n p) 1), .int .i64 (at8 (lstR n p) 2), .int .i64 (at8 (lstR n p) 3), .int .i64 (at8 (lstR n p) 4), .int .i64 (at8 (lstR n p) 5), .int .i64 (at8 (lstR n p) 6), .int .i64 (at8 (lstR n p) 7)] 67)).alloc (by simp; omega) (.cells #[] 34))
  obtain ⟨W, hW⟩ : ∃ W, W = (w2.alloc (.cells #[.int .i64 (at8 (lstR n p) 0), .int .i64 (at8 (lstR n p) 1), .int .i64 (at8 (lstR n p) 2), .int .i64 (at8 (lstR n p) 3), .int .i64 (at8 (lstR n p) 4), .int .i64 (at8 (lstR n p) 5), .int .i64 (at8 (lstR n p) 6), .int .i64 (at8 (lstR n p) 7)] 67)).alloc (.cells #[] 34) := ⟨_, rfl⟩
  go_wp2
  rw [← hW] at RL GE BB ⊢
  clear hW
  have zl := RL.out.lt
  obtain ⟨gl, hgl⟩ : ∃ g, g = w2.heap.size := ⟨_, rfl⟩
  rw [← hgl] at RL GE zr zl ⊢
  clear hgl
  go_loopw [7, 8] (fun lv i wr => ∃ x : Nat, x ≤ n ∧ i = .int .i64 x ∧ (∃ rs : List RowV, rs.map RowV.xs = blkS n p x ∧ GrowSS (gl + 1) wr lv rs.length rs) ∧ Row8 wr gl .i64 (lstR n p) ∧ Below w.heap.size w wr) (fun _ i _ => n - (intOf i).toNat)
  case atStart => exact ⟨0, Nat.zero_le _, rfl, ⟨[], rfl, GE.out⟩, RL.out, BB.out⟩
  case round =>
    obtain ⟨x, hx, rfl, ⟨rs, hrs, hG⟩, hRL, hBB⟩ := hrel
    clear RL BB GE
    have RL := Lib.hid hRL
    have BB := Lib.hid hBB
    have GG := Lib.hid hG
    have HRS := Lib.hid hrs
    clear hRL hBB hG hrs
    have z1 := RL.out.lt
    by_cases hlt : x < n
    · have c1 := RL.out.cell x (by omega)
      have HL : Hid (at8 (lstR n p) x = (lstN n p x : Nat)) := Lib.hid (by unfold lstR; rw [at8_mapR, if_pos hlt])
      obtain ⟨v, hv⟩ : ∃ v, v = lstN n p x := ⟨_, rfl⟩
      rw [HL.out, ← hv] at c1
      have HV := Lib.hid hv
      clear hv
      by_cases hm : v = x
      · have t1 : ((v : Int) != (x : Int)) = false := by simp [hm]
        have HS : Hid (lstN n p x = x) := Lib.hid (by rw [← HV.out, hm])
        clear hm
        have OE := Lib.hid (OwnV.empty wr)
        obtain ⟨W1, hW1⟩ : ∃ W1, W1 = wr.alloc (.cells #[] 2) := ⟨_, rfl⟩
        have HB1 : Hid (Below wr.heap.size wr W1) := Lib.hid (by rw [hW1]; exact (Below.refl _ _).alloc (Nat.le_refl _) _)
        go_wp2
        rw [← hW1] at OE ⊢
        clear hW1 c1
        obtain ⟨wo, hwo⟩ : ∃ wo, wo = wr := ⟨_, rfl⟩
        rw [← hwo] at RL BB GG z1 OE HB1 ⊢
        clear hwo
        obtain ⟨C, hC⟩ : ∃ C, C = wo.heap.size := ⟨_, rfl⟩
        rw [← hC] at OE HB1 z1 ⊢
        have HC := Lib.hid hC
        clear hC
        go_loopw [9, 10] (fun ov i wx => ∃ y : Nat, x ≤ y ∧ y ≤ n ∧ i = .int .i64 y ∧ OwnV C wx ov (ownS n p x y).length (ownS n p x y) ∧ Below C wo wx) (fun _ i _ => n - (intOf i).toNat)
        case atStart => exact ⟨x, Nat.le_refl _, by omega, rfl, by rw [ownS_start n p x x (Nat.le_refl _)]; exact OE.out, HB1.out⟩
        case round =>
          obtain ⟨y, hy1, hy2, rfl, hO, hB⟩ := hrel
          obtain ⟨ba, bc, rfl, _⟩ := hO.form
          clear OE HB1
          have HO := Lib.hid hO
          have HB := Lib.hid hB
          clear hO hB
          have RY := Lib.hid (RL.out.under HB.out (by omega))
          have hzb := HB.out.size
          have zC : C ≤ wr.heap.size := by rw [HC.out]; exact hzb
          have hol := ownS_len n p x y
          by_cases hly : y < n
          · have c1 := RY.out.cell y (by omega)
            have HLY : Hid (at8 (lstR n p) y = (lstN n p y : Nat)) := Lib.hid (by unfold lstR; rw [at8_mapR, if_pos hly])
            obtain ⟨u, hu⟩ : ∃ u, u = lstN n p y := ⟨_, rfl⟩
            rw [HLY.out, ← hu] at c1
            have HU := Lib.hid hu
            clear hu
            have HST := Lib.hid (ownS_step n p x y hy1)
            by_cases hd : u = x
            · have t2 : ((u : Int) == (x : Int)) = true := by simp [hd]
              have HD : Hid (lstN n p y = x) := Lib.hid (by rw [← HU.out, hd])
              clear hd
              go_wp2_with (at_builtin; refine wpList_append_own _ rfl _ _ 34 rfl C 2 i0 (.int .i64 0) 1 8 Try.underlying34 hi hz0 hz1 hz2 rfl (by decide) _ _ _ rfl (World.ownsRow.alloc HO.out _) ⟨wr.heap.size, 0, none⟩ 1 1 [.int .i64 (y : Int)] rfl rfl (one_new wr (y : Int) _) (one_cell _) (by unfold maxLen; omega) (by omega) (by simp; omega) ?_)
              intro v' w1 hown' hgrow _
              have HO2 := Lib.hid (OwnV.appended hown')
              have hb := below_appended (Below.refl C wr) zC HO.out hgrow
              have HB2 : Hid (Below C wo w1) := Lib.hid (HB.out.trans hb)
              clear hown' hgrow hb
              go_wp2
              go_roundw
              case rel => exact ⟨y + 1, by omega, by omega, by go_num, by rw [HST.out, if_pos HD.out, List.length_append]; exact HO2.out, HB2.out⟩
              case measure => first | (simp [intOf]; done) | (simp [intOf]; omega)
            · have t2 : ((u : Int) == (x : Int)) = false := by rw [beq_eq_false_iff_ne]; omega
              have HD : Hid (lstN n p y ≠ x) := Lib.hid (by rw [← HU.out]; exact hd)
              clear hd
              go_wp2
              go_roundw
              case rel => exact ⟨y + 1, by omega, by omega, by go_num, by rw [HST.out, if_neg HD.out]; exact HO.out, HB.out⟩
              case measure => first | (simp [intOf]; done) | (simp [intOf]; omega)
          · have hyn : y = n := by omega
            subst hyn
            have hpos := ownS_pos x hlt HS.out
            obtain ⟨l, hl⟩ : ∃ l, l = (ownS y p x y).length := ⟨_, rfl⟩
            rw [← hl] at HO hol hpos ⊢
            clear hl
            have ho : Own C wr ba l bc (ownS y p x y) := HO.out
            obtain ⟨g, rfl, hg1, hg2⟩ := ho.block hpos
            have HOW := Lib.hid ho
            clear ho
            have hlen : rs.length ≤ 8 := by
              have h2 := cycL_len y p x
              have h3 : (rs.map RowV.xs).length = (blkS y p x).length := by rw [HRS.out]
              rw [List.length_map, blkS_len] at h3
              omega
            have G2 := Lib.hid (GG.out.below (by rw [← HC.out]; exact HB.out))
            have GL := Lib.hid GG.out.lt
            have BB2 : Hid (Below w.heap.size w wr) := Lib.hid (below_go BB.out (by rw [← HC.out]; exact HB.out) BB.out.size)
            have HCY := Lib.hid (blkS_yes y p x HS.out)
            go_wp2_with (at_builtin; refine wpList_append_own_at _ rfl _ _ 43 rfl (gl + 1) 34 i1 (.slice none 0 0) 1 24 Try.underlying43 hj hs0 hs1 hs2 rfl (by decide) _ _ _ rfl (World.ownsRow.alloc G2.out.own _) ⟨wr.heap.size, 0, none⟩ 1 1 [.slice (some ⟨g, 0, none⟩) l bc] rfl rfl (cell_one_new wr _ _) (fun u hu => by simp at hu; subst hu; rfl) (by unfold maxLen; omega) (by omega) (by simp; omega) ?_)
            intro v' w1 hown' hgrow _ hat
            have hgx := G2.out.append (HOW.out.mono (show gl + 1 ≤ C by omega)) (by omega) (fun y hy => by have := GL.out.1 y hy; have := HC.out; omega) (fun k hk => by have := GL.out.2 k hk; have := HC.out; omega) hown' hgrow hat
            have GX := Lib.hid hgx
            have hb := G2.out.appBelow (by omega) hgrow
            have RL3 := Lib.hid (RY.out.under hb (by omega))
            have BB3 : Hid (Below w.heap.size w w1) := Lib.hid (BB2.out.trans (hb.mono (by omega)))
            clear hgx hown' hgrow hat hb
            go_wp2
            go_roundw
            case rel =>
              refine ⟨x + 1, by omega, by go_num, ⟨rs ++ [⟨g, some ⟨g, 0, none⟩, l, bc, ownS y p x y⟩], ?_, by rw [List.length_append]; exact GX.out⟩, RL3.out, BB3.out⟩
              rw [List.map_append, HRS.out, HCY.out]
              rfl
            case measure => first | (simp [intOf]; done) | (simp [intOf]; omega)
      · have t1 : ((v : Int) != (x : Int)) = true := by rw [bne_iff_ne]; omega
        have HNO : Hid (lstN n p x ≠ x) := Lib.hid (by rw [← HV.out]; exact hm)
        clear hm
        go_wp2
        go_roundw
        case rel => exact ⟨x + 1, by omega, by go_num, ⟨rs, by rw [HRS.out, blkS_no _ _ _ HNO.out], GG.out⟩, RL.out, BB.out⟩
        case measure => first | (simp [intOf]; done) | (simp [intOf]; omega)
    · have hxn : x = n := by omega
      subst hxn
      obtain ⟨a, cap, rfl⟩ := GG.out.form
      go_wp2
      go_ret
      exact ⟨a, cap, rs, rfl, HRS.out, GG.out.low (by omega), BB.out⟩

end Go.Proofs.Ythelncibpoijoaa
