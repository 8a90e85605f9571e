/- The powers of a braid: the model's answer. -/
import Derived.Test.YtckdhnpnkgmikaaPowQ
import Derived.WalkLawsBesides
import Derived.Test.YtckdhnpnkgmikaaKit6
import Derived.Deep.RegionHeld3
namespace Go.Proofs.Ytckdhnpnkgmikaa
open Go.RowKit Go.ChangeShapes

set_option maxHeartbeats 2000000 in
theorem specPower_any {s : Int} {a : Option Addr} {n cap : Nat} {xs : List Int} {k : Int} {w : World} {fs : Int} {fxs : List Int} {fc : Int} (hr : Reads w a n xs) (hf : Fits xs) (hn : n ≤ 1048576) (hk : (Lit.int .i64 k).wf = true) (hM : mPower s xs k = (fs, fxs, fc)) :
    Calls Try.prog 27 #[.agg #[.int .i64 s, .slice a n cap], .int .i64 k] w (RetBraid w fs fxs fc) := by
  obtain ⟨i0, hi, hz0, hz1, hz2⟩ := info_parts infoInt
  have HRO := Lib.hid hr.old
  have R := Lib.hid hr; clear hr
  have HF := Lib.hid hf; clear hf
  have HK := Lib.hid hk; clear hk
  by_cases hbr : isBraid s xs = true
  · have HSM := Lib.hid (small_of_isBraid _ _ hbr)
    have HL := Lib.hid R.out.len
    have hn200 : n ≤ 200 := by have := HL.out; have := len_of_isBraid _ _ hbr; omega
    by_cases hkk : -100 ≤ k ∧ k ≤ 100
    · simp only [mPower, if_pos hbr, if_pos hkk] at hM
      have t1 : inB k (-100) 100 = true := (inB_iff _ _ _).2 hkk
      obtain ⟨kk1, kk2⟩ := hkk
      rw [HL.out] at hM
      rcases Int.lt_or_le k 0 with hneg | hpos
      · obtain ⟨kn, hkn⟩ : ∃ kn : Nat, k = -(kn : Int) := ⟨k.natAbs, by omega⟩
        have hab : k.natAbs = kn := by omega
        rw [hab, if_pos hneg] at hM
        subst hkn
        have hk1 : 0 < (kn : Int) := by omega
        have hk100 : kn ≤ 100 := by omega
        have hmax : max (-(kn : Int)) (kn : Int) = (kn : Int) := by omega
        clear hab hneg kk1 kk2
        obtain ⟨p1, p2⟩ := mul_bounds kn n hk100 hn200
        by_cases hprod : kn * n ≤ 200
        · simp only [if_pos hprod, Prod.mk.injEq] at hM
          obtain ⟨rfl, rfl, rfl⟩ := hM
          have HP := Lib.hid hprod; clear hprod
          have p3 : (kn : Int) * (n : Int) ≤ 200 := by rw [mul_cast]; have := HP.out; omega
          go_enter Try.func27, Try.ntmps27
          replace R := Lib.hid (R.out.alloc (.cells #[.int .i64 s, .slice a n cap] 28))
          have A := Lib.hid (At2.new w (.int .i64 s) (.slice a n cap) 28)
          have BB := Lib.hid (below1 w (.cells #[.int .i64 s, .slice a n cap] 28))
          replace R := Lib.hid (R.out.alloc (.cells #[.int .i64 0, .slice none 0 0] 28))
          replace A := Lib.hid (A.out.alloc (.cells #[.int .i64 0, .slice none 0 0] 28))
          have Z := Lib.hid (At2.place (w.alloc (.cells #[.int .i64 s, .slice a n cap] 28)) (.int .i64 0) (.slice none 0 0) 28 (w.heap.size + 1) (by simp))
          replace BB := Lib.hid (BB.out.alloc (by first | omega | (simp; done) | (simp; omega)) (.cells #[.int .i64 0, .slice none 0 0] 28))
          go_wp2_with fail
          refine (l01Is_any _ _ _ _ xs _ R.out HF.out hn).mono ?_
          rintro e w1 ⟨rfl, hb⟩
          replace R := Lib.hid (R.out.below hb)
          replace A := Lib.hid (A.out.below hb)
          replace Z := Lib.hid (Z.out.below hb)
          have z1 : w.heap.size + 2 ≤ w1.heap.size := by have := hb.size; simp at this; omega
          replace BB := Lib.hid (below_go BB.out hb (by first | omega | (simp; done) | (simp; omega)))
          clear hb
          obtain ⟨qA1, qA2, qA3, qA4, qA5⟩ := A.out
          obtain ⟨qZ1, qZ2, qZ3, qZ4, qZ5⟩ := Z.out
          go_wp2_with (go_at_call 44; refine (l01In_any _ _ _ _).mono ?_; rintro e w' ⟨rfl, rfl⟩)
          go_region_held3 (fun w' => w'.cell? ⟨w.heap.size, 0, none⟩ = some (.int .i64 s) ∧ w'.cell? ⟨w.heap.size, 1, none⟩ = some (.slice a n cap)) (first | exact ⟨qA2, qA3⟩ | go_keep) (fail)
          have HC : Hid (At2 (w1.alloc (.cells #[.int .i64 s, .slice none 0 0] 28)).drew w1.heap.size (.int .i64 s) (.slice none 0 0)) := Lib.hid (At2.new w1 _ _ _)
          have HAz : Hid (At2 (w1.alloc (.cells #[.int .i64 s, .slice none 0 0] 28)).drew (w.heap.size) (.int .i64 s) (.slice a n cap)) := Lib.hid (A.out.alloc _)
          have HZz : Hid (At2 (w1.alloc (.cells #[.int .i64 s, .slice none 0 0] 28)).drew (w.heap.size + 1) (.int .i64 0) (.slice none 0 0)) := Lib.hid (Z.out.alloc _)
          have Rz : Hid (Reads (w1.alloc (.cells #[.int .i64 s, .slice none 0 0] 28)).drew a n xs) := Lib.hid (R.out.alloc _)
          have HBz : Hid (Below w.heap.size w (w1.alloc (.cells #[.int .i64 s, .slice none 0 0] 28)).drew) := Lib.hid ((BB.out.alloc (by omega) _).drew)
          have hzz : w1.heap.size + 1 ≤ ((w1.alloc (.cells #[.int .i64 s, .slice none 0 0] 28)).drew).heap.size := by show _ ≤ (w1.alloc _).heap.size; simp
          clear qA1 qA2 qA3 qA4 qA5 qZ1 qZ2 qZ3 qZ4 qZ5
          clear A Z R BB
          generalize (w1.alloc (.cells #[.int .i64 s, .slice none 0 0] 28)).drew = wz at *
          obtain ⟨qA1, qA2, qA3, qA4, qA5⟩ := HAz.out
          go_wp2_with fail
          refine (l01Inverse_any _ _ _ _ _ Rz.out HSM.out hn).mono ?_
          rintro e wl ⟨sa, sc, rfl, ho, hb⟩
          clear qA1 qA2 qA3 qA4 qA5
          replace HC := Lib.hid (HC.out.below hb)
          replace HAz := Lib.hid (HAz.out.below hb)
          replace HZz := Lib.hid (HZz.out.below hb)
          replace HBz := Lib.hid (below_go HBz.out hb (by omega))
          have HS := Lib.hid ho.within.readsIn
          have hzl : w1.heap.size + 1 ≤ wl.heap.size := Nat.le_trans hzz hb.size
          have hsd2 : wl.heap.size ≤ w1.heap.size ∨ w1.heap.size + 1 ≤ wz.heap.size := .inr hzz
          clear ho hb hzz
          obtain ⟨qA1, qA2, qA3, qA4, qA5⟩ := HAz.out
          go_wp2
          clear qA1 qA2 qA3 qA4 qA5
          go_loopw [8] (fun i wr => ∃ j : Nat, j ≤ kn ∧ i = .int .i64 ((kn : Int) - j) ∧ (∃ v m, At2 wr w1.heap.size (.int .i64 s) v ∧ OwnV wl.heap.size wr v m (rep j (inverse xs))) ∧ Wrote w1.heap.size (w1.heap.size + 1) wl wr) (fun i _ => (intOf i).toNat)
          case atStart => exact ⟨0, Nat.zero_le _, by simp, ⟨_, 0, HC.out, OwnV.nil _ _⟩, wrote_refl _ _ _⟩
          case round =>
            obtain ⟨j, hj, rfl, ⟨v, m, hC, ho⟩, hwt⟩ := hrel
            obtain ⟨av, cv, rfl, _⟩ := ho.form
            have hml : m ≤ 1048576 := by have h1 := ho.len; rw [rep_len, inverse_length, HL.out] at h1; have h2 := HP.out; have h3 := Nat.mul_le_mul_right n hj; omega
            have hzs : wl.heap.size ≤ wr.heap.size := hwt.size
            have hZ := HZz.out.wrote hwt (.inl (by omega))
            have HZ1 := Lib.hid hZ
            have HSr := Lib.hid (HS.out.wrote hwt hsd2)
            have HBr := Lib.hid (below_write HBz.out hwt (by omega) (by omega))
            have HO := Lib.hid ho; clear ho
            have HW := Lib.hid hwt; clear hwt
            have HC1 := Lib.hid hC
            obtain ⟨qC1, qC2, qC3, qC4, qC5⟩ := hC
            obtain ⟨qZ1, qZ2, qZ3, qZ4, qZ5⟩ := hZ
            by_cases hlt : j < kn
            · have j0 : 0 < (kn : Int) - j := by omega
              go_wp2_with (at_builtin; refine wpList_append_ints rfl _ _ 22 rfl wl.heap.size i0 Try.underlying22 hi hz0 hz1 hz2 _ _ _ rfl HO.out _ _ _ (inverse xs) rfl HSr.out.reads (by omega) hzs ?_)
              intro v' w5 ho' hg
              have hb5 := below_appended5 (Below.refl _ _) hzs HO.out hg
              have HC2 := Lib.hid (HC1.out.heap hb5.size (hb5.block _ (by omega)))
              have HW2 := Lib.hid (wrote_step HW.out hb5)
              obtain ⟨av', cv', rfl, _⟩ := ho'.form
              have HO' := Lib.hid ho'; clear ho' hg hb5
              clear qC1 qC2 qC3 qC4 qC5 qZ1 qZ2 qZ3 qZ4 qZ5
              obtain ⟨qC1, qC2, qC3, qC4, qC5⟩ := HC2.out
              go_wp2
              go_roundw
              case rel => exact ⟨j + 1, by omega, by go_num, ⟨_, m + n, HC2.out.store1 _, by rw [rep_succ]; exact ownsRow_setCell_below HO'.out (by simp; omega) _⟩, wrote_setCell HW2.out (by simp) (by simp) _⟩
              case measure => simp [intOf]; omega
            · have hjk : j = kn := by omega
              have HJ := Lib.hid hjk; clear hjk
              have j0 : (kn : Int) - j ≤ 0 := by omega
              go_wp2
              obtain ⟨_, _, e9, ho2⟩ := HO.out.form
              cases e9
              rw [HJ.out] at ho2
              obtain ⟨_, e2, e3, _, _⟩ := HZ1.out.fill (.int .i64 s) (.slice av m cv)
              refine bodyPost_ret (v := .tuple #[.agg #[.int .i64 s, .slice av m cv], .int .i64 0]) (by simp [results, Try.results27, go_sem, e2, e3]) rfl ⟨av, m, cv, rfl, hml, ?_, ?_⟩
              · exact ((Own.setCell_below ho2 (by simp; omega) _).setCell_below (by simp; omega) _).mono (by omega)
              · exact (HBr.out.setCell (p := ⟨w.heap.size + 1, 0, none⟩) (by simp) _).setCell (p := ⟨w.heap.size + 1, 1, none⟩) (by simp) _
        · simp only [if_neg hprod, Prod.mk.injEq] at hM
          obtain ⟨rfl, rfl, rfl⟩ := hM
          have HP := Lib.hid hprod; clear hprod
          have p3 : 200 < (kn : Int) * (n : Int) := by rw [mul_cast]; have := HP.out; omega
          go_enter Try.func27, Try.ntmps27
          replace R := Lib.hid (R.out.alloc (.cells #[.int .i64 s, .slice a n cap] 28))
          have A := Lib.hid (At2.new w (.int .i64 s) (.slice a n cap) 28)
          have BB := Lib.hid (below1 w (.cells #[.int .i64 s, .slice a n cap] 28))
          replace R := Lib.hid (R.out.alloc (.cells #[.int .i64 0, .slice none 0 0] 28))
          replace A := Lib.hid (A.out.alloc (.cells #[.int .i64 0, .slice none 0 0] 28))
          have Z := Lib.hid (At2.place (w.alloc (.cells #[.int .i64 s, .slice a n cap] 28)) (.int .i64 0) (.slice none 0 0) 28 (w.heap.size + 1) (by simp))
          replace BB := Lib.hid (BB.out.alloc (by first | omega | (simp; done) | (simp; omega)) (.cells #[.int .i64 0, .slice none 0 0] 28))
          go_wp2_with fail
          refine (l01Is_any _ _ _ _ xs _ R.out HF.out hn).mono ?_
          rintro e w1 ⟨rfl, hb⟩
          replace R := Lib.hid (R.out.below hb)
          replace A := Lib.hid (A.out.below hb)
          replace Z := Lib.hid (Z.out.below hb)
          have z1 : w.heap.size + 2 ≤ w1.heap.size := by have := hb.size; simp at this; omega
          replace BB := Lib.hid (below_go BB.out hb (by first | omega | (simp; done) | (simp; omega)))
          clear hb
          obtain ⟨qA1, qA2, qA3, qA4, qA5⟩ := A.out
          obtain ⟨qZ1, qZ2, qZ3, qZ4, qZ5⟩ := Z.out
          go_wp2_with (go_at_call 44; refine (l01In_any _ _ _ _).mono ?_; rintro e w' ⟨rfl, rfl⟩)
          obtain ⟨_, e2, e3, _, _⟩ := Z.out.fill (.int .i64 0) (.slice none 0 0)
          refine bodyPost_ret (v := .tuple #[.agg #[.int .i64 0, .slice none 0 0], .int .i64 3]) (by simp [results, Try.results27, go_sem, e2, e3]) rfl ⟨none, 0, 0, rfl, Nat.zero_le _, Own.nil _ _, ?_⟩
          exact (BB.out.setCell (p := ⟨w.heap.size + 1, 0, none⟩) (by simp) _).setCell (p := ⟨w.heap.size + 1, 1, none⟩) (by simp) _
      · obtain ⟨kn, hkn⟩ : ∃ kn : Nat, k = (kn : Int) := ⟨k.natAbs, by omega⟩
        have hab : k.natAbs = kn := by omega
        rw [hab, if_neg (show ¬ k < 0 by omega)] at hM
        subst hkn
        have hk100 : kn ≤ 100 := by omega
        have hmax : max (kn : Int) (-(kn : Int)) = (kn : Int) := by omega
        clear hab kk1 hpos
        obtain ⟨p1, p2⟩ := mul_bounds kn n hk100 hn200
        by_cases hprod : kn * n ≤ 200
        · simp only [if_pos hprod, Prod.mk.injEq] at hM
          obtain ⟨rfl, rfl, rfl⟩ := hM
          have HP := Lib.hid hprod; clear hprod
          have p3 : (kn : Int) * (n : Int) ≤ 200 := by rw [mul_cast]; have := HP.out; omega
          go_enter Try.func27, Try.ntmps27
          replace R := Lib.hid (R.out.alloc (.cells #[.int .i64 s, .slice a n cap] 28))
          have A := Lib.hid (At2.new w (.int .i64 s) (.slice a n cap) 28)
          have BB := Lib.hid (below1 w (.cells #[.int .i64 s, .slice a n cap] 28))
          replace R := Lib.hid (R.out.alloc (.cells #[.int .i64 0, .slice none 0 0] 28))
          replace A := Lib.hid (A.out.alloc (.cells #[.int .i64 0, .slice none 0 0] 28))
          have Z := Lib.hid (At2.place (w.alloc (.cells #[.int .i64 s, .slice a n cap] 28)) (.int .i64 0) (.slice none 0 0) 28 (w.heap.size + 1) (by simp))
          replace BB := Lib.hid (BB.out.alloc (by first | omega | (simp; done) | (simp; omega)) (.cells #[.int .i64 0, .slice none 0 0] 28))
          go_wp2_with fail
          refine (l01Is_any _ _ _ _ xs _ R.out HF.out hn).mono ?_
          rintro e w1 ⟨rfl, hb⟩
          replace R := Lib.hid (R.out.below hb)
          replace A := Lib.hid (A.out.below hb)
          replace Z := Lib.hid (Z.out.below hb)
          have z1 : w.heap.size + 2 ≤ w1.heap.size := by have := hb.size; simp at this; omega
          replace BB := Lib.hid (below_go BB.out hb (by first | omega | (simp; done) | (simp; omega)))
          clear hb
          obtain ⟨qA1, qA2, qA3, qA4, qA5⟩ := A.out
          obtain ⟨qZ1, qZ2, qZ3, qZ4, qZ5⟩ := Z.out
          go_wp2_with (go_at_call 44; refine (l01In_any _ _ _ _).mono ?_; rintro e w' ⟨rfl, rfl⟩)
          go_region_held3 (fun w' => w'.cell? ⟨w.heap.size, 0, none⟩ = some (.int .i64 s) ∧ w'.cell? ⟨w.heap.size, 1, none⟩ = some (.slice a n cap)) (first | exact ⟨qA2, qA3⟩ | go_keep) (fail)
          have HC : Hid (At2 (w1.alloc (.cells #[.int .i64 s, .slice none 0 0] 28)).drew w1.heap.size (.int .i64 s) (.slice none 0 0)) := Lib.hid (At2.new w1 _ _ _)
          have HAz : Hid (At2 (w1.alloc (.cells #[.int .i64 s, .slice none 0 0] 28)).drew (w.heap.size) (.int .i64 s) (.slice a n cap)) := Lib.hid (A.out.alloc _)
          have HZz : Hid (At2 (w1.alloc (.cells #[.int .i64 s, .slice none 0 0] 28)).drew (w.heap.size + 1) (.int .i64 0) (.slice none 0 0)) := Lib.hid (Z.out.alloc _)
          have Rz : Hid (Reads (w1.alloc (.cells #[.int .i64 s, .slice none 0 0] 28)).drew a n xs) := Lib.hid (R.out.alloc _)
          have HBz : Hid (Below w.heap.size w (w1.alloc (.cells #[.int .i64 s, .slice none 0 0] 28)).drew) := Lib.hid ((BB.out.alloc (by omega) _).drew)
          have hzz : w1.heap.size + 1 ≤ ((w1.alloc (.cells #[.int .i64 s, .slice none 0 0] 28)).drew).heap.size := by show _ ≤ (w1.alloc _).heap.size; simp
          clear qA1 qA2 qA3 qA4 qA5 qZ1 qZ2 qZ3 qZ4 qZ5
          clear A Z R BB
          generalize (w1.alloc (.cells #[.int .i64 s, .slice none 0 0] 28)).drew = wz at *
          obtain ⟨qA1, qA2, qA3, qA4, qA5⟩ := HAz.out
          have HS : Hid (ReadsIn 0 w.heap.size wz a n xs) := Lib.hid ⟨Rz.out, HRO.out.2⟩
          have hzl := hzz
          have hsd2 : w.heap.size ≤ w1.heap.size ∨ w1.heap.size + 1 ≤ 0 := .inl (by omega)
          go_wp2
          clear qA1 qA2 qA3 qA4 qA5
          go_loopw [8] (fun i wr => ∃ j : Nat, j ≤ kn ∧ i = .int .i64 ((kn : Int) - j) ∧ (∃ v m, At2 wr w1.heap.size (.int .i64 s) v ∧ OwnV wz.heap.size wr v m (rep j xs)) ∧ Wrote w1.heap.size (w1.heap.size + 1) wz wr) (fun i _ => (intOf i).toNat)
          case atStart => exact ⟨0, Nat.zero_le _, by simp, ⟨_, 0, HC.out, OwnV.nil _ _⟩, wrote_refl _ _ _⟩
          case round =>
            obtain ⟨j, hj, rfl, ⟨v, m, hC, ho⟩, hwt⟩ := hrel
            obtain ⟨av, cv, rfl, _⟩ := ho.form
            have hml : m ≤ 1048576 := by have h1 := ho.len; rw [rep_len, HL.out] at h1; have h2 := HP.out; have h3 := Nat.mul_le_mul_right n hj; omega
            have hzs : wz.heap.size ≤ wr.heap.size := hwt.size
            have hZ := HZz.out.wrote hwt (.inl (by omega))
            have HZ1 := Lib.hid hZ
            have HSr := Lib.hid (HS.out.wrote hwt hsd2)
            have HBr := Lib.hid (below_write HBz.out hwt (by omega) (by omega))
            have HO := Lib.hid ho; clear ho
            have HW := Lib.hid hwt; clear hwt
            have HC1 := Lib.hid hC
            obtain ⟨qC1, qC2, qC3, qC4, qC5⟩ := hC
            obtain ⟨qZ1, qZ2, qZ3, qZ4, qZ5⟩ := hZ
            by_cases hlt : j < kn
            · have j0 : 0 < (kn : Int) - j := by omega
              go_wp2_with (at_builtin; refine wpList_append_ints rfl _ _ 22 rfl wz.heap.size i0 Try.underlying22 hi hz0 hz1 hz2 _ _ _ rfl HO.out _ _ _ xs rfl HSr.out.reads (by omega) hzs ?_)
              intro v' w5 ho' hg
              have hb5 := below_appended5 (Below.refl _ _) hzs HO.out hg
              have HC2 := Lib.hid (HC1.out.heap hb5.size (hb5.block _ (by omega)))
              have HW2 := Lib.hid (wrote_step HW.out hb5)
              obtain ⟨av', cv', rfl, _⟩ := ho'.form
              have HO' := Lib.hid ho'; clear ho' hg hb5
              clear qC1 qC2 qC3 qC4 qC5 qZ1 qZ2 qZ3 qZ4 qZ5
              obtain ⟨qC1, qC2, qC3, qC4, qC5⟩ := HC2.out
              go_wp2
              go_roundw
              case rel => exact ⟨j + 1, by omega, by go_num, ⟨_, m + n, HC2.out.store1 _, by rw [rep_succ]; exact ownsRow_setCell_below HO'.out (by simp; omega) _⟩, wrote_setCell HW2.out (by simp) (by simp) _⟩
              case measure => simp [intOf]; omega
            · have hjk : j = kn := by omega
              have HJ := Lib.hid hjk; clear hjk
              have j0 : (kn : Int) - j ≤ 0 := by omega
              go_wp2
              obtain ⟨_, _, e9, ho2⟩ := HO.out.form
              cases e9
              rw [HJ.out] at ho2
              obtain ⟨_, e2, e3, _, _⟩ := HZ1.out.fill (.int .i64 s) (.slice av m cv)
              refine bodyPost_ret (v := .tuple #[.agg #[.int .i64 s, .slice av m cv], .int .i64 0]) (by simp [results, Try.results27, go_sem, e2, e3]) rfl ⟨av, m, cv, rfl, hml, ?_, ?_⟩
              · exact ((Own.setCell_below ho2 (by simp; omega) _).setCell_below (by simp; omega) _).mono (by omega)
              · exact (HBr.out.setCell (p := ⟨w.heap.size + 1, 0, none⟩) (by simp) _).setCell (p := ⟨w.heap.size + 1, 1, none⟩) (by simp) _
        · simp only [if_neg hprod, Prod.mk.injEq] at hM
          obtain ⟨rfl, rfl, rfl⟩ := hM
          have HP := Lib.hid hprod; clear hprod
          have p3 : 200 < (kn : Int) * (n : Int) := by rw [mul_cast]; have := HP.out; omega
          go_enter Try.func27, Try.ntmps27
          replace R := Lib.hid (R.out.alloc (.cells #[.int .i64 s, .slice a n cap] 28))
          have A := Lib.hid (At2.new w (.int .i64 s) (.slice a n cap) 28)
          have BB := Lib.hid (below1 w (.cells #[.int .i64 s, .slice a n cap] 28))
          replace R := Lib.hid (R.out.alloc (.cells #[.int .i64 0, .slice none 0 0] 28))
          replace A := Lib.hid (A.out.alloc (.cells #[.int .i64 0, .slice none 0 0] 28))
          have Z := Lib.hid (At2.place (w.alloc (.cells #[.int .i64 s, .slice a n cap] 28)) (.int .i64 0) (.slice none 0 0) 28 (w.heap.size + 1) (by simp))
          replace BB := Lib.hid (BB.out.alloc (by first | omega | (simp; done) | (simp; omega)) (.cells #[.int .i64 0, .slice none 0 0] 28))
          go_wp2_with fail
          refine (l01Is_any _ _ _ _ xs _ R.out HF.out hn).mono ?_
          rintro e w1 ⟨rfl, hb⟩
          replace R := Lib.hid (R.out.below hb)
          replace A := Lib.hid (A.out.below hb)
          replace Z := Lib.hid (Z.out.below hb)
          have z1 : w.heap.size + 2 ≤ w1.heap.size := by have := hb.size; simp at this; omega
          replace BB := Lib.hid (below_go BB.out hb (by first | omega | (simp; done) | (simp; omega)))
          clear hb
          obtain ⟨qA1, qA2, qA3, qA4, qA5⟩ := A.out
          obtain ⟨qZ1, qZ2, qZ3, qZ4, qZ5⟩ := Z.out
          go_wp2_with (go_at_call 44; refine (l01In_any _ _ _ _).mono ?_; rintro e w' ⟨rfl, rfl⟩)
          obtain ⟨_, e2, e3, _, _⟩ := Z.out.fill (.int .i64 0) (.slice none 0 0)
          refine bodyPost_ret (v := .tuple #[.agg #[.int .i64 0, .slice none 0 0], .int .i64 3]) (by simp [results, Try.results27, go_sem, e2, e3]) rfl ⟨none, 0, 0, rfl, Nat.zero_le _, Own.nil _ _, ?_⟩
          exact (BB.out.setCell (p := ⟨w.heap.size + 1, 0, none⟩) (by simp) _).setCell (p := ⟨w.heap.size + 1, 1, none⟩) (by simp) _
    · simp only [mPower, if_pos hbr, if_neg hkk, Prod.mk.injEq] at hM
      obtain ⟨rfl, rfl, rfl⟩ := hM
      have t1 : inB k (-100) 100 = false := (inB_not _ _ _).2 (by omega)
      clear hkk
      go_enter Try.func27, Try.ntmps27
      replace R := Lib.hid (R.out.alloc (.cells #[.int .i64 s, .slice a n cap] 28))
      have A := Lib.hid (At2.new w (.int .i64 s) (.slice a n cap) 28)
      have BB := Lib.hid (below1 w (.cells #[.int .i64 s, .slice a n cap] 28))
      replace R := Lib.hid (R.out.alloc (.cells #[.int .i64 0, .slice none 0 0] 28))
      replace A := Lib.hid (A.out.alloc (.cells #[.int .i64 0, .slice none 0 0] 28))
      have Z := Lib.hid (At2.place (w.alloc (.cells #[.int .i64 s, .slice a n cap] 28)) (.int .i64 0) (.slice none 0 0) 28 (w.heap.size + 1) (by simp))
      replace BB := Lib.hid (BB.out.alloc (by first | omega | (simp; done) | (simp; omega)) (.cells #[.int .i64 0, .slice none 0 0] 28))
      go_wp2_with fail
      refine (l01Is_any _ _ _ _ xs _ R.out HF.out hn).mono ?_
      rintro e w1 ⟨rfl, hb⟩
      replace R := Lib.hid (R.out.below hb)
      replace A := Lib.hid (A.out.below hb)
      replace Z := Lib.hid (Z.out.below hb)
      have z1 : w.heap.size + 2 ≤ w1.heap.size := by have := hb.size; simp at this; omega
      replace BB := Lib.hid (below_go BB.out hb (by first | omega | (simp; done) | (simp; omega)))
      clear hb
      obtain ⟨qA1, qA2, qA3, qA4, qA5⟩ := A.out
      obtain ⟨qZ1, qZ2, qZ3, qZ4, qZ5⟩ := Z.out
      go_wp2_with (go_at_call 44; refine (l01In_any _ _ _ _).mono ?_; rintro e w' ⟨rfl, rfl⟩)
      obtain ⟨_, e2, e3, _, _⟩ := Z.out.fill (.int .i64 0) (.slice none 0 0)
      refine bodyPost_ret (v := .tuple #[.agg #[.int .i64 0, .slice none 0 0], .int .i64 2]) (by simp [results, Try.results27, go_sem, e2, e3]) rfl ⟨none, 0, 0, rfl, Nat.zero_le _, Own.nil _ _, ?_⟩
      exact (BB.out.setCell (p := ⟨w.heap.size + 1, 0, none⟩) (by simp; try omega) _).setCell (p := ⟨w.heap.size + 1, 1, none⟩) (by simp; try omega) _
  · have hb0 : isBraid s xs = false := by simpa using hbr
    simp only [mPower, if_neg hbr, Prod.mk.injEq] at hM
    obtain ⟨rfl, rfl, rfl⟩ := hM
    clear hbr
    go_enter Try.func27, Try.ntmps27
    replace R := Lib.hid (R.out.alloc (.cells #[.int .i64 s, .slice a n cap] 28))
    have A := Lib.hid (At2.new w (.int .i64 s) (.slice a n cap) 28)
    have BB := Lib.hid (below1 w (.cells #[.int .i64 s, .slice a n cap] 28))
    replace R := Lib.hid (R.out.alloc (.cells #[.int .i64 0, .slice none 0 0] 28))
    replace A := Lib.hid (A.out.alloc (.cells #[.int .i64 0, .slice none 0 0] 28))
    have Z := Lib.hid (At2.place (w.alloc (.cells #[.int .i64 s, .slice a n cap] 28)) (.int .i64 0) (.slice none 0 0) 28 (w.heap.size + 1) (by simp))
    replace BB := Lib.hid (BB.out.alloc (by first | omega | (simp; done) | (simp; omega)) (.cells #[.int .i64 0, .slice none 0 0] 28))
    go_wp2_with fail
    refine (l01Is_any _ _ _ _ xs _ R.out HF.out hn).mono ?_
    rintro e w1 ⟨rfl, hb⟩
    replace R := Lib.hid (R.out.below hb)
    replace A := Lib.hid (A.out.below hb)
    replace Z := Lib.hid (Z.out.below hb)
    have z1 : w.heap.size + 2 ≤ w1.heap.size := by have := hb.size; simp at this; omega
    replace BB := Lib.hid (below_go BB.out hb (by first | omega | (simp; done) | (simp; omega)))
    clear hb
    obtain ⟨qA1, qA2, qA3, qA4, qA5⟩ := A.out
    obtain ⟨qZ1, qZ2, qZ3, qZ4, qZ5⟩ := Z.out
    go_wp2
    obtain ⟨_, e2, e3, _, _⟩ := Z.out.fill (.int .i64 0) (.slice none 0 0)
    refine bodyPost_ret (v := .tuple #[.agg #[.int .i64 0, .slice none 0 0], .int .i64 1]) (by simp [results, Try.results27, go_sem, e2, e3]) rfl ⟨none, 0, 0, rfl, Nat.zero_le _, Own.nil _ _, ?_⟩
    exact (BB.out.setCell (p := ⟨w.heap.size + 1, 0, none⟩) (by simp; try omega) _).setCell (p := ⟨w.heap.size + 1, 1, none⟩) (by simp; try omega) _

end Go.Proofs.Ytckdhnpnkgmikaa