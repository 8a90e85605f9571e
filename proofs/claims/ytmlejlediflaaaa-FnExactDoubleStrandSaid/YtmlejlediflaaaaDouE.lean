/- DoubleStrand: the program. -/
import Derived.Test.YtmlejlediflaaaaDouI
import Derived.Test.YtmlejlediflaaaaQA
import Derived.Test.YtmlejlediflaaaaFw
namespace Go.Proofs.Ytmlejlediflaaaa
open Go.RowKit Go.ChangeShapes

set_option maxRecDepth 100000 in
set_option maxHeartbeats 1000000 in
theorem implDouble_any {s : Int} {a : Option Addr} {n cap : Nat} {xs : List Int} {x : Int} {w : World} {fs : Int} {fxs : List Int} {fc : Int} (hr : Reads w a n xs) (hf : Fits xs) (hn : n ≤ 1048576) (hx : (Lit.int .i64 x).wf = true) (hM : mDouble s xs x = (fs, fxs, fc)) :
    Calls Try.prog 42 #[.agg #[.int .i64 s, .slice a n cap], .int .i64 x] w (RetBraid w fs fxs fc) := by
  obtain ⟨i0, hi, hz0, hz1, hz2⟩ := info_parts infoInt
  have R := Lib.hid hr; clear hr
  have HF := Lib.hid hf; clear hf
  have HX := Lib.hid hx; clear hx
  by_cases hbr : isBraid s xs = true
  · have HLS := Lib.hid (letts_of_isBraid hbr)
    have g1 := lo_of_isBraid _ _ hbr
    have g2 := hi_of_isBraid _ _ hbr
    have HLEN := Lib.hid (len_of_isBraid _ _ hbr)
    by_cases hkk : 0 ≤ x ∧ x < s
    · have HM : Hid ((if (doubleL x xs).length ≤ 200 ∧ s < 8 then (s + 1, doubleL x xs, 0) else (0, [], 3)) = (fs, fxs, fc)) := Lib.hid (by rw [← hM, mDouble, if_pos hbr, if_pos hkk])
      clear hM
      obtain ⟨k1, k2⟩ := hkk
      have d1 : ¬ x < 0 := by omega
      have d2 : ¬ x ≥ s := by omega
      have HL := Lib.hid R.out.len
      have R0 := R
      go_enter Try.func42, Try.ntmps42
      replace R := Lib.hid ((R.out.alloc (.cells #[.int .i64 s, .slice a n cap] 24)).alloc (.cells #[.int .i64 0, .slice none 0 0] 24))
      have A := Lib.hid ((At2.new w (.int .i64 s) (.slice a n cap) 24).alloc (.cells #[.int .i64 0, .slice none 0 0] 24))
      have Z := Lib.hid (At2.place (w.alloc (.cells #[.int .i64 s, .slice a n cap] 24)) (.int .i64 0) (.slice none 0 0) 24 (w.heap.size + 1) (by simp))
      have BB := Lib.hid (below2 w (.cells #[.int .i64 s, .slice a n cap] 24) (.cells #[.int .i64 0, .slice none 0 0] 24))
      obtain ⟨qA1, qA2, qA3, qA4, qA5⟩ := A.out
      go_wp2_with fail
      refine (implIsBraid_any s a n cap xs _ R.out hn).mono ?_
      rintro e w1 ⟨rfl, hb⟩
      clear qA1 qA2 qA3 qA4 qA5
      replace R := Lib.hid (R.out.below hb)
      replace A := Lib.hid (A.out.below hb)
      replace Z := Lib.hid (Z.out.below hb)
      replace BB := Lib.hid (below_go BB.out hb BB.out.size)
      clear hb
      obtain ⟨qA1, qA2, qA3, qA4, qA5⟩ := A.out
      have hnl : n ≤ 200 := by have := HLEN.out; have := HL.out; omega
      go_wp2_with fail
      refine (follow_any x w1.heap.size _ rfl).mono ?_
      rintro e w2 ⟨rfl, hbx, hb, hs1⟩
      clear hbr
      have zA := A.out.1; have zZ := Z.out.1
      have zB : w.heap.size + 1 < w1.heap.size := zZ
      clear qA1 qA2 qA3 qA4 qA5
      replace R := Lib.hid (R.out.below hb)
      replace A := Lib.hid (A.out.below hb)
      replace Z := Lib.hid (Z.out.below hb)
      replace BB := Lib.hid (below_go BB.out hb BB.out.size)
      clear hb
      obtain ⟨qA1, qA2, qA3, qA4, qA5⟩ := A.out
      unfold folV
      have HBX := Lib.hid hbx; clear hbx
      have HR := R; clear R
      go_wp2
      clear qA1 qA2 qA3 qA4 qA5
      go_loopw [6, 29] (fun v i wr => ∃ k m : Nat, k ≤ n ∧ m ≤ 2 * k ∧ i = .int .i64 k ∧ OwnV (w1.heap.size + 1) wr v m (doubleL x (xs.take k)) ∧ Boxed wr w1.heap.size 2 (.int .i64 (placeL x (xs.take k))) ∧ At2 wr w.heap.size (.int .i64 s) (.slice a n cap) ∧ At2 wr (w.heap.size + 1) (.int .i64 0) (.slice none 0 0) ∧ Below w.heap.size w wr ∧ w1.heap.size + 1 ≤ wr.heap.size) (fun _ i _ => n - (intOf i).toNat)
      case atStart => exact ⟨0, 0, Nat.zero_le _, Nat.zero_le _, rfl, OwnV.nil _ _, HBX.out, A.out, Z.out, BB.out, Nat.le_of_eq hs1.symm⟩
      case round =>
        clear HBX A Z BB HR hs1
        obtain ⟨k, m, hk, hmk, rfl, ho, hbx, hA, hZ, hbl, hz3⟩ := hrel
        by_cases hlt : k < n
        · have hkl : k < xs.length := by rw [HL.out]; exact hlt
          obtain ⟨b, off, rfl, hb, hc⟩ := R0.out.cells (by omega)
          obtain ⟨l, hl⟩ : ∃ l, l = xs.getD k 0 := ⟨_, rfl⟩
          have h1 : wr.cell? ⟨b, off + k, none⟩ = some (.int .i64 l) := by rw [hl]; exact (hbl.cell (by exact hb)).trans (hc _ hlt)
          have hle : Lett s l := HLS.out l (by rw [hl]; exact getD_mem xs k hkl)
          have hpl := placeL_in k1 k2 (letts_take HLS.out k)
          have HSTF := Lib.hid (doubleL_step x xs k hkl)
          have HSTP := Lib.hid (placeL_step x xs k hkl)
          rw [← hl] at HSTF HSTP
          obtain ⟨P, hP⟩ : ∃ P, P = placeL x (xs.take k) := ⟨_, rfl⟩
          rw [← hP] at HSTF HSTP hpl hbx
          obtain ⟨zs, hzs⟩ : ∃ zs, zs = doubleL x (xs.take k) := ⟨_, rfl⟩
          rw [← hzs] at ho HSTF
          obtain ⟨ys, hys⟩ : ∃ ys, doubleP P l = ys := ⟨_, rfl⟩
          have hy2 := doubleP_len P l
          rw [hys] at HSTF hy2
          have hsm := hle.small (by omega)
          have HYS := Lib.hid hys
          clear hl hP hzs hc hys
          have HO := Lib.hid ho; have HBX := Lib.hid hbx; have HA := Lib.hid hA; have HZ := Lib.hid hZ; have HBL := Lib.hid hbl
          clear ho hbx hA hZ hbl
          obtain ⟨p1, p2⟩ := hpl
          obtain ⟨u1, u2⟩ := hsm
          go_wp2_with fail
          refine (followed_any w1.heap.size P l _ HBX.out u1 u2 p1 (by omega)).mono ?_
          rintro e w3 ⟨rfl, hw3⟩
          have HBX2 : Hid (Boxed w3 w1.heap.size 2 (.int .i64 (stepP P l))) := Lib.hid (by rw [hw3]; exact HBX.out.set _)
          have HO2 : Hid (OwnV (w1.heap.size + 1) w3 _ m zs) := Lib.hid (by rw [hw3]; exact OwnV.setCell_below HO.out (by omega) _)
          have HA2 : Hid (At2 w3 w.heap.size (.int .i64 s) (.slice (some ⟨b, off, none⟩) n cap)) := Lib.hid (by rw [hw3]; exact HA.out.setCell (by show w1.heap.size ≠ _; omega) _)
          have HZ2 : Hid (At2 w3 (w.heap.size + 1) (.int .i64 0) (.slice none 0 0)) := Lib.hid (by rw [hw3]; exact HZ.out.setCell (by show w1.heap.size ≠ _; omega) _)
          have HB2 : Hid (Below w.heap.size w w3) := Lib.hid (by rw [hw3]; exact HBL.out.setCell (p := ⟨w1.heap.size, 0, none⟩) (by show _ ≤ w1.heap.size; omega) _)
          have hz4 : w1.heap.size + 1 ≤ w3.heap.size := by rw [hw3]; simpa using hz3
          clear hw3 HBX HO HA HZ HBL
          go_wp2_with fail
          refine (doubled_any l P _ u1 u2 p1 (by omega) HYS.out).mono ?_
          rintro e w4 ⟨rfl, hw4⟩
          have HBX3 : Hid (Boxed w4 w1.heap.size 2 (.int .i64 (stepP P l))) := Lib.hid (by rw [hw4]; exact HBX2.out.alloc _)
          have HO3 : Hid (OwnV (w1.heap.size + 1) w4 _ m zs) := Lib.hid (by rw [hw4]; exact World.ownsRow.alloc HO2.out _)
          have HA3 : Hid (At2 w4 w.heap.size (.int .i64 s) (.slice (some ⟨b, off, none⟩) n cap)) := Lib.hid (by rw [hw4]; exact HA2.out.alloc _)
          have HZ3 : Hid (At2 w4 (w.heap.size + 1) (.int .i64 0) (.slice none 0 0)) := Lib.hid (by rw [hw4]; exact HZ2.out.alloc _)
          have HB3 : Hid (Below w.heap.size w w4) := Lib.hid (by rw [hw4]; exact HB2.out.alloc HB2.out.size _)
          have hz5 : w1.heap.size + 1 ≤ w4.heap.size := by rw [hw4]; simp; omega
          have HRY : Hid (Reads w4 (some ⟨w3.heap.size, 0, none⟩) ys.length ys) := Lib.hid (by rw [hw4]; exact (own_lit w3 ys (by unfold maxLen; omega)).reads)
          clear hw4 HBX2 HO2 HA2 HZ2 HB2 hz4 hz3
          obtain ⟨ym, hym⟩ : ∃ ym, ym = ys.length := ⟨_, rfl⟩
          rw [← hym] at HRY hy2 ⊢
          have HYM := Lib.hid hym; clear hym
          go_wp2_with (at_builtin; refine wpList_append_ints rfl _ _ 22 rfl (w1.heap.size + 1) i0 Try.underlying22 hi hz0 hz1 hz2 _ m zs rfl HO3.out _ _ _ ys rfl HRY.out (by omega) (by omega) ?_)
          intro v' w5 hown' hgrow
          have hW : Below (w1.heap.size + 1) w4 w5 := below_appended5 (Below.refl _ _) hz5 HO3.out hgrow
          have HO4 := Lib.hid hown'
          have HB4 := Lib.hid (HB3.out.trans (hW.mono (by omega)))
          have HBX4 : Hid (Boxed w5 w1.heap.size 2 (.int .i64 (stepP P l))) := Lib.hid ((hW.block _ (by omega)).trans HBX3.out)
          have HA4 := Lib.hid (HA3.out.heap hW.size (hW.block _ (by omega)))
          have HZ4 := Lib.hid (HZ3.out.heap hW.size (hW.block _ (by omega)))
          have hz6 : w1.heap.size + 1 ≤ w5.heap.size := Nat.le_trans hz5 hW.size
          clear hown' hgrow hW
          go_wp2
          go_roundw
          case rel => exact ⟨k + 1, m + ym, by omega, by omega, by go_num, by rw [HSTF.out]; exact HO4.out, by rw [HSTP.out]; exact HBX4.out, HA4.out, HZ4.out, HB4.out, hz6⟩
          case measure => simp [intOf]; omega
        · have hkn : k = n := by omega
          have HK := Lib.hid hkn; clear hkn
          have HT : Hid (doubleL x (xs.take k) = doubleL x xs) := Lib.hid (by rw [HK.out, List.take_of_length_le (by rw [HL.out]; omega)])
          rw [HT.out] at ho
          obtain ⟨a2, c2, rfl, ho2⟩ := ho.form
          have HDL := Lib.hid ho2.len
          have HO := Lib.hid ho2; have HZ := Lib.hid hZ; have HBL := Lib.hid hbl
          obtain ⟨qA1, qA2, qA3, qA4, qA5⟩ := hA
          obtain ⟨qZ1, qZ2, qZ3, qZ4, qZ5⟩ := hZ
          clear ho ho2 hbl hbx
          by_cases b1 : m ≤ 200
          · have n1 : ¬ ((m : Int) > 200) := by omega
            by_cases b2 : s < 8
            · have hm2 := HM.out
              rw [if_pos ⟨by rw [HDL.out]; exact b1, b2⟩] at hm2
              simp only [Prod.mk.injEq] at hm2
              obtain ⟨rfl, rfl, rfl⟩ := hm2
              have n2 : (s == 8) = false := by simp; omega
              have e0 : IntKind.i64.wrap (s + 1) = s + 1 := IntWalk.i64_in _ (by omega)
              go_wp2
              obtain ⟨_, e2, e3, _, _⟩ := HZ.out.fill (.int .i64 (s + 1)) (.slice a2 m c2)
              refine bodyPost_ret (v := .tuple #[.agg #[.int .i64 (s + 1), .slice a2 m c2], .int .i64 0]) (by simp [results, Try.results42, go_sem, e2, e3]) rfl ⟨a2, m, c2, rfl, by omega, ?_, ?_⟩
              · exact ((HO.out.setCell_below (by show w.heap.size + 1 < _; omega) _).setCell_below (by show w.heap.size + 1 < _; omega) _).mono (by omega)
              · exact (HBL.out.setCell (p := ⟨w.heap.size + 1, 0, none⟩) (by simp) _).setCell (p := ⟨w.heap.size + 1, 1, none⟩) (by simp) _
            · have hm2 := HM.out
              rw [if_neg (fun h => b2 h.2)] at hm2
              simp only [Prod.mk.injEq] at hm2
              obtain ⟨rfl, rfl, rfl⟩ := hm2
              have n2 : s = 8 := by omega
              have n3 : (s == 8) = true := by simp [n2]
              go_wp2
              obtain ⟨_, e2, e3, _, _⟩ := HZ.out.fill (.int .i64 0) (.slice none 0 0)
              refine bodyPost_ret (v := .tuple #[.agg #[.int .i64 0, .slice none 0 0], .int .i64 3]) (by simp [results, Try.results42, go_sem, e2, e3]) rfl ⟨none, 0, 0, rfl, Nat.zero_le _, Own.nil _ _, ?_⟩
              exact (HBL.out.setCell (p := ⟨w.heap.size + 1, 0, none⟩) (by simp) _).setCell (p := ⟨w.heap.size + 1, 1, none⟩) (by simp) _
          · have n1 : ((m : Int) > 200) := by omega
            have hm2 := HM.out
            rw [if_neg (fun h => b1 (by rw [← HDL.out]; exact h.1))] at hm2
            simp only [Prod.mk.injEq] at hm2
            obtain ⟨rfl, rfl, rfl⟩ := hm2
            go_wp2
            obtain ⟨_, e2, e3, _, _⟩ := HZ.out.fill (.int .i64 0) (.slice none 0 0)
            refine bodyPost_ret (v := .tuple #[.agg #[.int .i64 0, .slice none 0 0], .int .i64 3]) (by simp [results, Try.results42, go_sem, e2, e3]) rfl ⟨none, 0, 0, rfl, Nat.zero_le _, Own.nil _ _, ?_⟩
            exact (HBL.out.setCell (p := ⟨w.heap.size + 1, 0, none⟩) (by simp) _).setCell (p := ⟨w.heap.size + 1, 1, none⟩) (by simp) _
    · simp only [mDouble, if_pos hbr, if_neg hkk, Prod.mk.injEq] at hM
      obtain ⟨rfl, rfl, rfl⟩ := hM
      by_cases d1 : x < 0
      · clear hkk
        go_enter Try.func42, Try.ntmps42
        replace R := Lib.hid ((R.out.alloc (.cells #[.int .i64 s, .slice a n cap] 24)).alloc (.cells #[.int .i64 0, .slice none 0 0] 24))
        have A := Lib.hid ((At2.new w (.int .i64 s) (.slice a n cap) 24).alloc (.cells #[.int .i64 0, .slice none 0 0] 24))
        have Z := Lib.hid (At2.place (w.alloc (.cells #[.int .i64 s, .slice a n cap] 24)) (.int .i64 0) (.slice none 0 0) 24 (w.heap.size + 1) (by simp))
        have BB := Lib.hid (below2 w (.cells #[.int .i64 s, .slice a n cap] 24) (.cells #[.int .i64 0, .slice none 0 0] 24))
        obtain ⟨qA1, qA2, qA3, qA4, qA5⟩ := A.out
        go_wp2_with fail
        refine (implIsBraid_any s a n cap xs _ R.out hn).mono ?_
        rintro e w1 ⟨rfl, hb⟩
        clear qA1 qA2 qA3 qA4 qA5
        replace R := Lib.hid (R.out.below hb)
        replace A := Lib.hid (A.out.below hb)
        replace Z := Lib.hid (Z.out.below hb)
        replace BB := Lib.hid (below_go BB.out hb BB.out.size)
        clear hb
        obtain ⟨qA1, qA2, qA3, qA4, qA5⟩ := A.out
        obtain ⟨qZ1, qZ2, qZ3, qZ4, qZ5⟩ := Z.out
        go_wp2
        obtain ⟨_, e2, e3, _, _⟩ := Z.out.fill (.int .i64 0) (.slice none 0 0)
        refine bodyPost_ret (v := .tuple #[.agg #[.int .i64 0, .slice none 0 0], .int .i64 2]) (by simp [results, Try.results42, go_sem, e2, e3]) rfl ⟨none, 0, 0, rfl, Nat.zero_le _, Own.nil _ _, ?_⟩
        exact (BB.out.setCell (p := ⟨w.heap.size + 1, 0, none⟩) (by simp) _).setCell (p := ⟨w.heap.size + 1, 1, none⟩) (by simp) _
      · have d2 : x ≥ s := by omega
        clear hkk
        go_enter Try.func42, Try.ntmps42
        replace R := Lib.hid ((R.out.alloc (.cells #[.int .i64 s, .slice a n cap] 24)).alloc (.cells #[.int .i64 0, .slice none 0 0] 24))
        have A := Lib.hid ((At2.new w (.int .i64 s) (.slice a n cap) 24).alloc (.cells #[.int .i64 0, .slice none 0 0] 24))
        have Z := Lib.hid (At2.place (w.alloc (.cells #[.int .i64 s, .slice a n cap] 24)) (.int .i64 0) (.slice none 0 0) 24 (w.heap.size + 1) (by simp))
        have BB := Lib.hid (below2 w (.cells #[.int .i64 s, .slice a n cap] 24) (.cells #[.int .i64 0, .slice none 0 0] 24))
        obtain ⟨qA1, qA2, qA3, qA4, qA5⟩ := A.out
        go_wp2_with fail
        refine (implIsBraid_any s a n cap xs _ R.out hn).mono ?_
        rintro e w1 ⟨rfl, hb⟩
        clear qA1 qA2 qA3 qA4 qA5
        replace R := Lib.hid (R.out.below hb)
        replace A := Lib.hid (A.out.below hb)
        replace Z := Lib.hid (Z.out.below hb)
        replace BB := Lib.hid (below_go BB.out hb BB.out.size)
        clear hb
        obtain ⟨qA1, qA2, qA3, qA4, qA5⟩ := A.out
        obtain ⟨qZ1, qZ2, qZ3, qZ4, qZ5⟩ := Z.out
        go_wp2
        obtain ⟨_, e2, e3, _, _⟩ := Z.out.fill (.int .i64 0) (.slice none 0 0)
        refine bodyPost_ret (v := .tuple #[.agg #[.int .i64 0, .slice none 0 0], .int .i64 2]) (by simp [results, Try.results42, go_sem, e2, e3]) rfl ⟨none, 0, 0, rfl, Nat.zero_le _, Own.nil _ _, ?_⟩
        exact (BB.out.setCell (p := ⟨w.heap.size + 1, 0, none⟩) (by simp) _).setCell (p := ⟨w.heap.size + 1, 1, none⟩) (by simp) _
  · have hb0 : isBraid s xs = false := by simpa using hbr
    simp only [mDouble, if_neg hbr, Prod.mk.injEq] at hM
    obtain ⟨rfl, rfl, rfl⟩ := hM
    clear hbr
    go_enter Try.func42, Try.ntmps42
    replace R := Lib.hid ((R.out.alloc (.cells #[.int .i64 s, .slice a n cap] 24)).alloc (.cells #[.int .i64 0, .slice none 0 0] 24))
    have A := Lib.hid ((At2.new w (.int .i64 s) (.slice a n cap) 24).alloc (.cells #[.int .i64 0, .slice none 0 0] 24))
    have Z := Lib.hid (At2.place (w.alloc (.cells #[.int .i64 s, .slice a n cap] 24)) (.int .i64 0) (.slice none 0 0) 24 (w.heap.size + 1) (by simp))
    have BB := Lib.hid (below2 w (.cells #[.int .i64 s, .slice a n cap] 24) (.cells #[.int .i64 0, .slice none 0 0] 24))
    obtain ⟨qA1, qA2, qA3, qA4, qA5⟩ := A.out
    go_wp2_with fail
    refine (implIsBraid_any s a n cap xs _ R.out hn).mono ?_
    rintro e w1 ⟨rfl, hb⟩
    clear qA1 qA2 qA3 qA4 qA5
    replace R := Lib.hid (R.out.below hb)
    replace A := Lib.hid (A.out.below hb)
    replace Z := Lib.hid (Z.out.below hb)
    replace BB := Lib.hid (below_go BB.out hb BB.out.size)
    clear hb
    obtain ⟨qA1, qA2, qA3, qA4, qA5⟩ := A.out
    obtain ⟨qZ1, qZ2, qZ3, qZ4, qZ5⟩ := Z.out
    go_wp2
    obtain ⟨_, e2, e3, _, _⟩ := Z.out.fill (.int .i64 0) (.slice none 0 0)
    refine bodyPost_ret (v := .tuple #[.agg #[.int .i64 0, .slice none 0 0], .int .i64 1]) (by simp [results, Try.results42, go_sem, e2, e3]) rfl ⟨none, 0, 0, rfl, Nat.zero_le _, Own.nil _ _, ?_⟩
    exact (BB.out.setCell (p := ⟨w.heap.size + 1, 0, none⟩) (by simp) _).setCell (p := ⟨w.heap.size + 1, 1, none⟩) (by simp) _

end Go.Proofs.Ytmlejlediflaaaa
