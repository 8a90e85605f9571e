/- The program's PowerOf. -/
import Derived.Test.YtckdhnpnkgmikaaPwd
import Derived.Test.YtckdhnpnkgmikaaPowQ
import Derived.Test.YtckdhnpnkgmikaaIs2
import Derived.Test.YtckdhnpnkgmikaaKit6
import Derived.WalkLawsBesides
namespace Go.Proofs.Ytckdhnpnkgmikaa
open Go.RowKit Go.ChangeShapes

set_option maxHeartbeats 1000000 in
theorem implPower_any {s : Int} {a : Option Addr} {n cap : Nat} {xs : List Int} {k : Int} {w : World} {fs : Int} {fxs : List Int} {fc : Int} (hr : Reads w a n xs) (_hf : Fits xs) (hn : n ≤ 1048576) (_hk : (Lit.int .i64 k).wf = true) (hM : mPower s xs k = (fs, fxs, fc)) :
    Calls Try.prog 28 #[.agg #[.int .i64 s, .slice a n cap], .int .i64 k] w (RetBraid w fs fxs fc) := by
  have R := Lib.hid hr; clear hr
  have HL := Lib.hid R.out.len
  by_cases hbr : isBraid s xs = true
  · have HSM := Lib.hid (small_of_isBraid _ _ hbr)
    have hn200 : n ≤ 200 := by have := HL.out; have := len_of_isBraid _ _ hbr; omega
    by_cases hkk : -100 ≤ k ∧ k ≤ 100
    · simp only [mPower, if_pos hbr, if_pos hkk] at hM
      obtain ⟨kk1, kk2⟩ := hkk
      rw [HL.out] at hM
      have kk3 : ¬ k < -100 := by omega
      have kk4 : ¬ 100 < k := by omega
      rcases Int.lt_or_le k 0 with hneg | hpos
      · obtain ⟨kn, hkn⟩ : ∃ kn : Nat, k = (-(kn : Int)) := ⟨k.natAbs, by omega⟩
        have HKN : Hid (k.natAbs = kn) := Lib.hid (by omega)
        subst hkn
        rw [HKN.out] at hM
        have hlt0 : -(kn : Int) < (kn : Int) := by omega
        have hk100 : kn ≤ 100 := by omega
        obtain ⟨p1, p2⟩ := mul_bounds kn n hk100 hn200
        by_cases hprod : kn * n ≤ 200
        · simp only [if_pos hprod, Prod.mk.injEq] at hM
          obtain ⟨rfl, rfl, rfl⟩ := hM
          have p3 : (kn : Int) * (n : Int) ≤ 200 := by rw [mul_cast]; omega
          have HP := Lib.hid hprod; clear hprod
          go_enter Try.func28, Try.ntmps28
          replace R := Lib.hid ((R.out.alloc (.cells #[.int .i64 s, .slice a n cap] 28)).alloc (.cells #[.int .i64 0, .slice none 0 0] 28))
          have A := Lib.hid ((At2.new w (.int .i64 s) (.slice a n cap) 28).alloc (.cells #[.int .i64 0, .slice none 0 0] 28))
          have Z := Lib.hid (At2.place (w.alloc (.cells #[.int .i64 s, .slice a n cap] 28)) (.int .i64 0) (.slice none 0 0) 28 (w.heap.size + 1) (by simp))
          have BB := Lib.hid (below2 w (.cells #[.int .i64 s, .slice a n cap] 28) (.cells #[.int .i64 0, .slice none 0 0] 28))
          obtain ⟨qA1, qA2, qA3, qA4, qA5⟩ := A.out
          obtain ⟨qZ1, qZ2, qZ3, qZ4, qZ5⟩ := Z.out
          go_wp2_with fail
          refine (implIsBraid_any _ _ _ _ xs _ R.out hn).mono ?_
          rintro e w1 ⟨rfl, hb⟩
          clear qA1 qA2 qA3 qA4 qA5 qZ1 qZ2 qZ3 qZ4 qZ5
          replace R := Lib.hid (R.out.below hb)
          replace A := Lib.hid (A.out.below hb)
          replace Z := Lib.hid (Z.out.below hb)
          replace BB := Lib.hid (below_go BB.out hb BB.out.size)
          clear hb
          have zz := Z.out.1
          obtain ⟨qA1, qA2, qA3, qA4, qA5⟩ := A.out
          obtain ⟨qZ1, qZ2, qZ3, qZ4, qZ5⟩ := Z.out
          go_wp2_with fail
          refine (powered_any _ _ _ _ xs (-(kn : Int)) _ R.out HSM.out hn (by rw [HKN.out]; omega) (by rw [HKN.out]; have := HP.out; omega)).mono ?_
          rintro e w2 ⟨a2, n2, c2, rfl, ho, hb⟩
          clear qA1 qA2 qA3 qA4 qA5 qZ1 qZ2 qZ3 qZ4 qZ5
          replace R := Lib.hid (R.out.below hb)
          replace A := Lib.hid (A.out.below hb)
          replace Z := Lib.hid (Z.out.below hb)
          replace BB := Lib.hid (below_go BB.out hb BB.out.size)
          have HO : Hid (Own (w.heap.size + 1 + 1) w2 a2 n2 c2 (rep kn (inverse xs))) := Lib.hid (by have h := ho.mono (B' := w.heap.size + 1 + 1) (by omega); unfold pwd at h; rw [HKN.out, if_pos hneg] at h; exact h)
          have hl2 : n2 ≤ 1048576 := by have h1 := ho.len; rw [pwd_len, HL.out, HKN.out] at h1; have := HP.out; omega
          clear ho hb
          obtain ⟨qA1, qA2, qA3, qA4, qA5⟩ := A.out
          obtain ⟨qZ1, qZ2, qZ3, qZ4, qZ5⟩ := Z.out
          go_wp2
          obtain ⟨_, e2, e3, _, _⟩ := Z.out.fill (.int .i64 s) (.slice a2 n2 c2)
          refine bodyPost_ret (v := .tuple #[.agg #[.int .i64 s, .slice a2 n2 c2], .int .i64 0]) (by simp [results, Try.results28, go_sem, e2, e3]) rfl ⟨a2, n2, c2, rfl, hl2, ?_, ?_⟩
          · exact ((HO.out.setCell_below (by simp; try omega) _).setCell_below (by simp; try omega) _).mono (by omega)
          · exact ((BB.out.setCell (p := ⟨w.heap.size + 1, 0, none⟩) (by simp) _).setCell (p := ⟨w.heap.size + 1, 1, none⟩) (by simp) _)
        · simp only [if_neg hprod, Prod.mk.injEq] at hM
          obtain ⟨rfl, rfl, rfl⟩ := hM
          have p3 : 200 < (kn : Int) * (n : Int) := by rw [mul_cast]; omega
          clear hprod
          go_enter Try.func28, Try.ntmps28
          replace R := Lib.hid ((R.out.alloc (.cells #[.int .i64 s, .slice a n cap] 28)).alloc (.cells #[.int .i64 0, .slice none 0 0] 28))
          have A := Lib.hid ((At2.new w (.int .i64 s) (.slice a n cap) 28).alloc (.cells #[.int .i64 0, .slice none 0 0] 28))
          have Z := Lib.hid (At2.place (w.alloc (.cells #[.int .i64 s, .slice a n cap] 28)) (.int .i64 0) (.slice none 0 0) 28 (w.heap.size + 1) (by simp))
          have BB := Lib.hid (below2 w (.cells #[.int .i64 s, .slice a n cap] 28) (.cells #[.int .i64 0, .slice none 0 0] 28))
          obtain ⟨qA1, qA2, qA3, qA4, qA5⟩ := A.out
          obtain ⟨qZ1, qZ2, qZ3, qZ4, qZ5⟩ := Z.out
          go_wp2_with fail
          refine (implIsBraid_any _ _ _ _ xs _ R.out hn).mono ?_
          rintro e w1 ⟨rfl, hb⟩
          clear qA1 qA2 qA3 qA4 qA5 qZ1 qZ2 qZ3 qZ4 qZ5
          replace R := Lib.hid (R.out.below hb)
          replace A := Lib.hid (A.out.below hb)
          replace Z := Lib.hid (Z.out.below hb)
          replace BB := Lib.hid (below_go BB.out hb BB.out.size)
          clear hb
          obtain ⟨qA1, qA2, qA3, qA4, qA5⟩ := A.out
          obtain ⟨qZ1, qZ2, qZ3, qZ4, qZ5⟩ := Z.out
          go_wp2
          obtain ⟨_, e2, e3, _, _⟩ := Z.out.fill (.int .i64 0) (.slice none 0 0)
          refine bodyPost_ret (v := .tuple #[.agg #[.int .i64 0, .slice none 0 0], .int .i64 3]) (by simp [results, Try.results28, go_sem, e2, e3]) rfl ⟨none, 0, 0, rfl, Nat.zero_le _, ?_, ?_⟩
          · exact Own.nil _ _
          · exact ((BB.out.setCell (p := ⟨w.heap.size + 1, 0, none⟩) (by simp) _).setCell (p := ⟨w.heap.size + 1, 1, none⟩) (by simp) _)
      · obtain ⟨kn, hkn⟩ : ∃ kn : Nat, k = (kn : Int) := ⟨k.natAbs, by omega⟩
        have HKN : Hid (k.natAbs = kn) := Lib.hid (by omega)
        subst hkn
        rw [HKN.out] at hM
        have hlt0 : ¬ (kn : Int) < -(kn : Int) := by omega
        have hk100 : kn ≤ 100 := by omega
        obtain ⟨p1, p2⟩ := mul_bounds kn n hk100 hn200
        by_cases hprod : kn * n ≤ 200
        · simp only [if_pos hprod, Prod.mk.injEq] at hM
          obtain ⟨rfl, rfl, rfl⟩ := hM
          have p3 : (kn : Int) * (n : Int) ≤ 200 := by rw [mul_cast]; omega
          have HP := Lib.hid hprod; clear hprod
          go_enter Try.func28, Try.ntmps28
          replace R := Lib.hid ((R.out.alloc (.cells #[.int .i64 s, .slice a n cap] 28)).alloc (.cells #[.int .i64 0, .slice none 0 0] 28))
          have A := Lib.hid ((At2.new w (.int .i64 s) (.slice a n cap) 28).alloc (.cells #[.int .i64 0, .slice none 0 0] 28))
          have Z := Lib.hid (At2.place (w.alloc (.cells #[.int .i64 s, .slice a n cap] 28)) (.int .i64 0) (.slice none 0 0) 28 (w.heap.size + 1) (by simp))
          have BB := Lib.hid (below2 w (.cells #[.int .i64 s, .slice a n cap] 28) (.cells #[.int .i64 0, .slice none 0 0] 28))
          obtain ⟨qA1, qA2, qA3, qA4, qA5⟩ := A.out
          obtain ⟨qZ1, qZ2, qZ3, qZ4, qZ5⟩ := Z.out
          go_wp2_with fail
          refine (implIsBraid_any _ _ _ _ xs _ R.out hn).mono ?_
          rintro e w1 ⟨rfl, hb⟩
          clear qA1 qA2 qA3 qA4 qA5 qZ1 qZ2 qZ3 qZ4 qZ5
          replace R := Lib.hid (R.out.below hb)
          replace A := Lib.hid (A.out.below hb)
          replace Z := Lib.hid (Z.out.below hb)
          replace BB := Lib.hid (below_go BB.out hb BB.out.size)
          clear hb
          have zz := Z.out.1
          obtain ⟨qA1, qA2, qA3, qA4, qA5⟩ := A.out
          obtain ⟨qZ1, qZ2, qZ3, qZ4, qZ5⟩ := Z.out
          go_wp2_with fail
          refine (powered_any _ _ _ _ xs (kn : Int) _ R.out HSM.out hn (by rw [HKN.out]; omega) (by rw [HKN.out]; have := HP.out; omega)).mono ?_
          rintro e w2 ⟨a2, n2, c2, rfl, ho, hb⟩
          clear qA1 qA2 qA3 qA4 qA5 qZ1 qZ2 qZ3 qZ4 qZ5
          replace R := Lib.hid (R.out.below hb)
          replace A := Lib.hid (A.out.below hb)
          replace Z := Lib.hid (Z.out.below hb)
          replace BB := Lib.hid (below_go BB.out hb BB.out.size)
          have HO : Hid (Own (w.heap.size + 1 + 1) w2 a2 n2 c2 (rep kn (if (kn : Int) < 0 then inverse xs else xs))) := Lib.hid (by have h := ho.mono (B' := w.heap.size + 1 + 1) (by omega); unfold pwd at h; rw [HKN.out] at h; exact h)
          have hl2 : n2 ≤ 1048576 := by have h1 := ho.len; rw [pwd_len, HL.out, HKN.out] at h1; have := HP.out; omega
          clear ho hb
          obtain ⟨qA1, qA2, qA3, qA4, qA5⟩ := A.out
          obtain ⟨qZ1, qZ2, qZ3, qZ4, qZ5⟩ := Z.out
          go_wp2
          obtain ⟨_, e2, e3, _, _⟩ := Z.out.fill (.int .i64 s) (.slice a2 n2 c2)
          refine bodyPost_ret (v := .tuple #[.agg #[.int .i64 s, .slice a2 n2 c2], .int .i64 0]) (by simp [results, Try.results28, go_sem, e2, e3]) rfl ⟨a2, n2, c2, rfl, hl2, ?_, ?_⟩
          · exact ((HO.out.setCell_below (by simp; try omega) _).setCell_below (by simp; try omega) _).mono (by omega)
          · exact ((BB.out.setCell (p := ⟨w.heap.size + 1, 0, none⟩) (by simp) _).setCell (p := ⟨w.heap.size + 1, 1, none⟩) (by simp) _)
        · simp only [if_neg hprod, Prod.mk.injEq] at hM
          obtain ⟨rfl, rfl, rfl⟩ := hM
          have p3 : 200 < (kn : Int) * (n : Int) := by rw [mul_cast]; omega
          clear hprod
          go_enter Try.func28, Try.ntmps28
          replace R := Lib.hid ((R.out.alloc (.cells #[.int .i64 s, .slice a n cap] 28)).alloc (.cells #[.int .i64 0, .slice none 0 0] 28))
          have A := Lib.hid ((At2.new w (.int .i64 s) (.slice a n cap) 28).alloc (.cells #[.int .i64 0, .slice none 0 0] 28))
          have Z := Lib.hid (At2.place (w.alloc (.cells #[.int .i64 s, .slice a n cap] 28)) (.int .i64 0) (.slice none 0 0) 28 (w.heap.size + 1) (by simp))
          have BB := Lib.hid (below2 w (.cells #[.int .i64 s, .slice a n cap] 28) (.cells #[.int .i64 0, .slice none 0 0] 28))
          obtain ⟨qA1, qA2, qA3, qA4, qA5⟩ := A.out
          obtain ⟨qZ1, qZ2, qZ3, qZ4, qZ5⟩ := Z.out
          go_wp2_with fail
          refine (implIsBraid_any _ _ _ _ xs _ R.out hn).mono ?_
          rintro e w1 ⟨rfl, hb⟩
          clear qA1 qA2 qA3 qA4 qA5 qZ1 qZ2 qZ3 qZ4 qZ5
          replace R := Lib.hid (R.out.below hb)
          replace A := Lib.hid (A.out.below hb)
          replace Z := Lib.hid (Z.out.below hb)
          replace BB := Lib.hid (below_go BB.out hb BB.out.size)
          clear hb
          obtain ⟨qA1, qA2, qA3, qA4, qA5⟩ := A.out
          obtain ⟨qZ1, qZ2, qZ3, qZ4, qZ5⟩ := Z.out
          go_wp2
          obtain ⟨_, e2, e3, _, _⟩ := Z.out.fill (.int .i64 0) (.slice none 0 0)
          refine bodyPost_ret (v := .tuple #[.agg #[.int .i64 0, .slice none 0 0], .int .i64 3]) (by simp [results, Try.results28, go_sem, e2, e3]) rfl ⟨none, 0, 0, rfl, Nat.zero_le _, ?_, ?_⟩
          · exact Own.nil _ _
          · exact ((BB.out.setCell (p := ⟨w.heap.size + 1, 0, none⟩) (by simp) _).setCell (p := ⟨w.heap.size + 1, 1, none⟩) (by simp) _)
    · simp only [mPower, if_pos hbr, if_neg hkk, Prod.mk.injEq] at hM
      obtain ⟨rfl, rfl, rfl⟩ := hM
      by_cases k1 : k < -100
      · clear hkk
        go_enter Try.func28, Try.ntmps28
        replace R := Lib.hid ((R.out.alloc (.cells #[.int .i64 s, .slice a n cap] 28)).alloc (.cells #[.int .i64 0, .slice none 0 0] 28))
        have A := Lib.hid ((At2.new w (.int .i64 s) (.slice a n cap) 28).alloc (.cells #[.int .i64 0, .slice none 0 0] 28))
        have Z := Lib.hid (At2.place (w.alloc (.cells #[.int .i64 s, .slice a n cap] 28)) (.int .i64 0) (.slice none 0 0) 28 (w.heap.size + 1) (by simp))
        have BB := Lib.hid (below2 w (.cells #[.int .i64 s, .slice a n cap] 28) (.cells #[.int .i64 0, .slice none 0 0] 28))
        obtain ⟨qA1, qA2, qA3, qA4, qA5⟩ := A.out
        obtain ⟨qZ1, qZ2, qZ3, qZ4, qZ5⟩ := Z.out
        go_wp2_with fail
        refine (implIsBraid_any _ _ _ _ xs _ R.out hn).mono ?_
        rintro e w1 ⟨rfl, hb⟩
        clear qA1 qA2 qA3 qA4 qA5 qZ1 qZ2 qZ3 qZ4 qZ5
        replace R := Lib.hid (R.out.below hb)
        replace A := Lib.hid (A.out.below hb)
        replace Z := Lib.hid (Z.out.below hb)
        replace BB := Lib.hid (below_go BB.out hb BB.out.size)
        clear hb
        obtain ⟨qA1, qA2, qA3, qA4, qA5⟩ := A.out
        obtain ⟨qZ1, qZ2, qZ3, qZ4, qZ5⟩ := Z.out
        go_wp2
        obtain ⟨_, e2, e3, _, _⟩ := Z.out.fill (.int .i64 0) (.slice none 0 0)
        refine bodyPost_ret (v := .tuple #[.agg #[.int .i64 0, .slice none 0 0], .int .i64 2]) (by simp [results, Try.results28, go_sem, e2, e3]) rfl ⟨none, 0, 0, rfl, Nat.zero_le _, ?_, ?_⟩
        · exact Own.nil _ _
        · exact ((BB.out.setCell (p := ⟨w.heap.size + 1, 0, none⟩) (by simp) _).setCell (p := ⟨w.heap.size + 1, 1, none⟩) (by simp) _)
      · have k2 : 100 < k := by omega
        clear hkk
        go_enter Try.func28, Try.ntmps28
        replace R := Lib.hid ((R.out.alloc (.cells #[.int .i64 s, .slice a n cap] 28)).alloc (.cells #[.int .i64 0, .slice none 0 0] 28))
        have A := Lib.hid ((At2.new w (.int .i64 s) (.slice a n cap) 28).alloc (.cells #[.int .i64 0, .slice none 0 0] 28))
        have Z := Lib.hid (At2.place (w.alloc (.cells #[.int .i64 s, .slice a n cap] 28)) (.int .i64 0) (.slice none 0 0) 28 (w.heap.size + 1) (by simp))
        have BB := Lib.hid (below2 w (.cells #[.int .i64 s, .slice a n cap] 28) (.cells #[.int .i64 0, .slice none 0 0] 28))
        obtain ⟨qA1, qA2, qA3, qA4, qA5⟩ := A.out
        obtain ⟨qZ1, qZ2, qZ3, qZ4, qZ5⟩ := Z.out
        go_wp2_with fail
        refine (implIsBraid_any _ _ _ _ xs _ R.out hn).mono ?_
        rintro e w1 ⟨rfl, hb⟩
        clear qA1 qA2 qA3 qA4 qA5 qZ1 qZ2 qZ3 qZ4 qZ5
        replace R := Lib.hid (R.out.below hb)
        replace A := Lib.hid (A.out.below hb)
        replace Z := Lib.hid (Z.out.below hb)
        replace BB := Lib.hid (below_go BB.out hb BB.out.size)
        clear hb
        obtain ⟨qA1, qA2, qA3, qA4, qA5⟩ := A.out
        obtain ⟨qZ1, qZ2, qZ3, qZ4, qZ5⟩ := Z.out
        go_wp2
        obtain ⟨_, e2, e3, _, _⟩ := Z.out.fill (.int .i64 0) (.slice none 0 0)
        refine bodyPost_ret (v := .tuple #[.agg #[.int .i64 0, .slice none 0 0], .int .i64 2]) (by simp [results, Try.results28, go_sem, e2, e3]) rfl ⟨none, 0, 0, rfl, Nat.zero_le _, ?_, ?_⟩
        · exact Own.nil _ _
        · exact ((BB.out.setCell (p := ⟨w.heap.size + 1, 0, none⟩) (by simp) _).setCell (p := ⟨w.heap.size + 1, 1, none⟩) (by simp) _)
  · have hb0 : isBraid s xs = false := by simpa using hbr
    simp only [mPower, if_neg hbr, Prod.mk.injEq] at hM
    obtain ⟨rfl, rfl, rfl⟩ := hM
    clear hbr
    go_enter Try.func28, Try.ntmps28
    replace R := Lib.hid ((R.out.alloc (.cells #[.int .i64 s, .slice a n cap] 28)).alloc (.cells #[.int .i64 0, .slice none 0 0] 28))
    have A := Lib.hid ((At2.new w (.int .i64 s) (.slice a n cap) 28).alloc (.cells #[.int .i64 0, .slice none 0 0] 28))
    have Z := Lib.hid (At2.place (w.alloc (.cells #[.int .i64 s, .slice a n cap] 28)) (.int .i64 0) (.slice none 0 0) 28 (w.heap.size + 1) (by simp))
    have BB := Lib.hid (below2 w (.cells #[.int .i64 s, .slice a n cap] 28) (.cells #[.int .i64 0, .slice none 0 0] 28))
    obtain ⟨qA1, qA2, qA3, qA4, qA5⟩ := A.out
    obtain ⟨qZ1, qZ2, qZ3, qZ4, qZ5⟩ := Z.out
    go_wp2_with fail
    refine (implIsBraid_any _ _ _ _ xs _ R.out hn).mono ?_
    rintro e w1 ⟨rfl, hb⟩
    clear qA1 qA2 qA3 qA4 qA5 qZ1 qZ2 qZ3 qZ4 qZ5
    replace R := Lib.hid (R.out.below hb)
    replace A := Lib.hid (A.out.below hb)
    replace Z := Lib.hid (Z.out.below hb)
    replace BB := Lib.hid (below_go BB.out hb BB.out.size)
    clear hb
    obtain ⟨qA1, qA2, qA3, qA4, qA5⟩ := A.out
    obtain ⟨qZ1, qZ2, qZ3, qZ4, qZ5⟩ := Z.out
    go_wp2
    obtain ⟨_, e2, e3, _, _⟩ := Z.out.fill (.int .i64 0) (.slice none 0 0)
    refine bodyPost_ret (v := .tuple #[.agg #[.int .i64 0, .slice none 0 0], .int .i64 1]) (by simp [results, Try.results28, go_sem, e2, e3]) rfl ⟨none, 0, 0, rfl, Nat.zero_le _, ?_, ?_⟩
    · exact Own.nil _ _
    · exact ((BB.out.setCell (p := ⟨w.heap.size + 1, 0, none⟩) (by simp) _).setCell (p := ⟨w.heap.size + 1, 1, none⟩) (by simp) _)

end Go.Proofs.Ytckdhnpnkgmikaa
