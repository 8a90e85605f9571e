/- Half turns and full turns: the model's answers and the program's. -/
import Derived.Test.YteafnbkdejkjiaaHalf
namespace Go.Proofs.Yteafnbkdejkjiaa
open Go.RowKit Go.ChangeShapes

/-- The half turn of n strands, and the code; the full turn. -/
def mHalf (n : Int) : Int × List Int × Int := if 1 ≤ n ∧ n ≤ 8 then (n, halfFrom (n - 1).toNat, 0) else (0, [], 2)
def mFull (n : Int) : Int × List Int × Int := if 1 ≤ n ∧ n ≤ 8 then (n, halfFrom (n - 1).toNat ++ halfFrom (n - 1).toNat, 0) else (0, [], 2)

set_option maxHeartbeats 1000000 in
theorem specFull_any {n : Int} {w : World} {fs : Int} {fxs : List Int} {fc : Int} (_hk : (Lit.int .i64 n).wf = true) (hM : mFull n = (fs, fxs, fc)) :
    Calls Try.prog 4 #[.int .i64 n] w (RetBraid w fs fxs fc) := by
  obtain ⟨i0, hi, hz0, hz1, hz2⟩ := info_parts infoInt
  by_cases hk : 1 ≤ n ∧ n ≤ 8
  · simp only [mFull, if_pos hk, Prod.mk.injEq] at hM
    obtain ⟨rfl, rfl, rfl⟩ := hM
    obtain ⟨k1, k2⟩ := hk
    obtain ⟨m, hm⟩ : ∃ m : Nat, n = (m : Int) + 1 := ⟨(n - 1).toNat, by omega⟩
    have hm7 : m ≤ 7 := by omega
    have hmn : (n - 1).toNat = m := by omega
    rw [hmn]
    have HMN := Lib.hid hm; clear hm hmn
    have hl28 := halfFrom_len m hm7
    have t1 : inB n 1 8 = true := (inB_iff _ _ _).2 ⟨k1, k2⟩
    have C1 := fun W => l01Half_any n m W HMN.out hm7
    obtain ⟨lh, hlh⟩ : ∃ lh, lh = halfFrom m := ⟨_, rfl⟩
    rw [← hlh] at C1 hl28 ⊢
    have HC1 := Lib.hid C1; clear C1 hlh
    go_enter Try.func4, Try.ntmps4
    have Z := Lib.hid (At2.new w (.int .i64 0) (.slice none 0 0) 24)
    have BB := Lib.hid (below1 w (.cells #[.int .i64 0, .slice none 0 0] 24))
    go_wp2_with (first | (go_at_call 9; refine (l01In_any _ _ _ _).mono ?_; rintro e w' ⟨rfl, rfl⟩))
    refine (HC1.out _).mono ?_
    rintro e w1 ⟨a1, c1, rfl, ho, hb⟩
    have P1 : Hid (OwnIn (w.heap.size + 1) w1.heap.size w1 a1 lh.length c1 lh) := Lib.hid (by simpa using ho.within); clear ho
    replace Z := Lib.hid (Z.out.below hb)
    have z1 : w.heap.size + 1 ≤ w1.heap.size := by have := hb.size; simp at this; omega
    replace BB := Lib.hid (below_go BB.out hb (by first | omega | (simp; done) | (simp; omega)))
    clear hb
    obtain ⟨qZ1, qZ2, qZ3, qZ4, qZ5⟩ := Z.out
    go_wp2_with fail
    refine (HC1.out _).mono ?_
    rintro e w2 ⟨a2, c2, rfl, ho, hb⟩
    clear qZ1 qZ2 qZ3 qZ4 qZ5
    have P2 : Hid (OwnIn w1.heap.size w2.heap.size w2 a2 lh.length c2 lh) := Lib.hid ho.within; clear ho
    replace Z := Lib.hid (Z.out.below hb)
    replace P1 := Lib.hid (P1.out.below hb)
    have z2 : w1.heap.size ≤ w2.heap.size := hb.size
    replace BB := Lib.hid (below_go BB.out hb (by omega))
    clear hb
    obtain ⟨qZ1, qZ2, qZ3, qZ4, qZ5⟩ := Z.out
    go_wp2_with (at_builtin; refine wpList_append_ints rfl _ _ 22 rfl (w.heap.size + 1) i0 Try.underlying22 hi hz0 hz1 hz2 _ _ _ rfl (show OwnV (w.heap.size + 1) w2 _ lh.length lh from P1.out.1) _ _ _ lh rfl P2.out.reads (by omega) (by omega) ?_)
    intro v' w3 ho' hg
    have hb3 := below_appended5 (Below.refl (w.heap.size + 1) w2) (by omega) (show OwnV (w.heap.size + 1) w2 _ lh.length lh from P1.out.1) hg
    obtain ⟨av, cv, rfl, ho3⟩ := ho'.form
    replace Z := Lib.hid (Z.out.heap hb3.size (hb3.block _ (by omega)))
    replace BB := Lib.hid (BB.out.trans (hb3.mono (by omega)))
    have P3 := Lib.hid ho3
    clear qZ1 qZ2 qZ3 qZ4 qZ5
    clear ho' hg hb3 ho3 P1 P2
    obtain ⟨qZ1, qZ2, qZ3, qZ4, qZ5⟩ := Z.out
    go_wp2
    obtain ⟨_, e2, e3, _, _⟩ := Z.out.fill (.int .i64 n) (.slice av (lh.length + lh.length) cv)
    refine bodyPost_ret (v := .tuple #[.agg #[.int .i64 n, .slice av (lh.length + lh.length) cv], .int .i64 0]) (by simp [results, Try.results4, go_sem, e2, e3]) rfl ⟨av, _, cv, rfl, by omega, ?_, ?_⟩
    · exact ((P3.out.setCell_below (by first | (simp; done) | (simp; omega)) _).setCell_below (by first | (simp; done) | (simp; omega)) _).mono (by omega)
    · exact (BB.out.setCell (p := ⟨w.heap.size, 0, none⟩) (by simp) _).setCell (p := ⟨w.heap.size, 1, none⟩) (by simp) _
  · simp only [mFull, if_neg hk, Prod.mk.injEq] at hM
    obtain ⟨rfl, rfl, rfl⟩ := hM
    have t1 : inB n 1 8 = false := (inB_not _ _ _).2 (by omega)
    go_enter Try.func4, Try.ntmps4
    have Z := Lib.hid (At2.new w (.int .i64 0) (.slice none 0 0) 24)
    have BB := Lib.hid (below1 w (.cells #[.int .i64 0, .slice none 0 0] 24))
    go_wp2_with (first | (go_at_call 9; refine (l01In_any _ _ _ _).mono ?_; rintro e w' ⟨rfl, rfl⟩))
    refine bodyPost_ret (v := .tuple #[.agg #[.int .i64 0, .slice none 0 0], .int .i64 2]) (by simp [results, Try.results4, go_sem]) rfl ⟨none, 0, 0, rfl, Nat.zero_le _, Own.nil _ _, ?_⟩
    exact below1 w _

set_option maxHeartbeats 1000000 in
theorem implHalf_any {n : Int} {w : World} {fs : Int} {fxs : List Int} {fc : Int} (_hk : (Lit.int .i64 n).wf = true) (hM : mHalf n = (fs, fxs, fc)) :
    Calls Try.prog 11 #[.int .i64 n] w (RetBraid w fs fxs fc) := by
  obtain ⟨i0, hi, hz0, hz1, hz2⟩ := info_parts infoInt
  by_cases hk : 1 ≤ n ∧ n ≤ 8
  · simp only [mHalf, if_pos hk, Prod.mk.injEq] at hM
    obtain ⟨rfl, rfl, rfl⟩ := hM
    obtain ⟨k1, k2⟩ := hk
    obtain ⟨m, hm⟩ : ∃ m : Nat, n = (m : Int) + 1 := ⟨(n - 1).toNat, by omega⟩
    have hm7 : m ≤ 7 := by omega
    have hmn : (n - 1).toNat = m := by omega
    rw [hmn]
    have HMN := Lib.hid hm; clear hm hmn
    have hl28 := halfFrom_len m hm7
    have t1 : inB n 1 8 = true := (inB_iff _ _ _).2 ⟨k1, k2⟩
    clear t1
    have HLEN := Lib.hid hl28; clear hl28
    go_enter Try.func11, Try.ntmps11
    obtain ⟨w1, hw1⟩ : ∃ w1, w1 = w.alloc (.cells #[.int .i64 0, .slice none 0 0] 24) := ⟨_, rfl⟩
    have Z := Lib.hid (At2.new w (.int .i64 0) (.slice none 0 0) 24)
    have BB := Lib.hid (below1 w (.cells #[.int .i64 0, .slice none 0 0] 24))
    rw [← hw1] at Z BB
    have z1 : w.heap.size + 1 ≤ w1.heap.size := by rw [hw1]; simp
    go_wp2
    rw [← hw1]
    clear hw1
    go_loopw [4, 5] (fun v i wr => ∃ k : Nat, k ≤ m ∧ i = .int .i64 k ∧ (∃ l pre, OwnV w1.heap.size wr v l pre ∧ Hid (pre ++ halfFrom k = halfFrom m)) ∧ Below w1.heap.size w1 wr) (fun _ i _ => (intOf i).toNat)
    case atStart => exact ⟨m, Nat.le_refl _, by have := HMN.out; rw [this]; go_num, ⟨0, [], OwnV.nil _ _, Lib.hid rfl⟩, Below.refl _ _⟩
    case round =>
      obtain ⟨wo, rfl⟩ : ∃ wo : World, wo = wr := ⟨_, rfl⟩
      obtain ⟨k, hk, rfl, ⟨l, pre, ho, HP⟩, hbl⟩ := hrel
      by_cases hlt : 0 < k
      · have g0 : 1 ≤ (k : Int) := by omega
        have HO := Lib.hid ho; clear ho
        have HB := Lib.hid hbl; clear hbl
        have hpl : pre.length ≤ 28 := by have h1 := HP.out; have h2 := HLEN.out; rw [← h1, List.length_append] at h2; omega
        have HPL := Lib.hid hpl; clear hpl
        go_wp2
        go_loopw [4, 6] (fun v i wr => ∃ j : Nat, j ≤ k ∧ i = .int .i64 ((j : Int) + 1) ∧ (∃ l, OwnV w1.heap.size wr v l (pre ++ upTo j)) ∧ Below w1.heap.size w1 wr) (fun _ i _ => k + 1 - (intOf i).toNat)
        case atStart => exact ⟨0, Nat.zero_le _, by simp, ⟨l, by simpa [upTo] using HO.out⟩, HB.out⟩
        case round =>
          obtain ⟨j, hj, rfl, ⟨l2, ho⟩, hbl⟩ := hrel
          have hz : w1.heap.size ≤ wr.heap.size := hbl.size
          have hl2 : l2 ≤ 100 := by have h1 := ho.len; have h2 := HPL.out; rw [List.length_append, upTo_len] at h1; omega
          have HO2 := Lib.hid ho; clear ho
          have HB2 := Lib.hid hbl; clear hbl
          by_cases hjk : j < k
          · have g1 : (j : Int) + 1 ≤ (k : Int) := by omega
            go_wp2_with (at_builtin; refine wpList_append_own _ rfl _ _ 22 rfl w1.heap.size 2 i0 (.int .i64 0) 1 8 Try.underlying22 hi hz0 hz1 hz2 rfl (by decide) _ _ _ rfl (World.ownsRow.alloc HO2.out _) ⟨wr.heap.size, 0, none⟩ 1 1 [.int .i64 ((j : Int) + 1)] rfl rfl (one_new wr ((j : Int) + 1) _) (one_cell _) (by unfold maxLen; omega) (by omega) (by simp; omega) ?_)
            intro v' w2 hown' hgrow _
            have HO' := Lib.hid (OwnV.appended hown')
            have HB' := Lib.hid (below_appended HB2.out hz HO2.out hgrow)
            clear hown' hgrow
            go_wp2
            go_roundw
            case rel => exact ⟨j + 1, by omega, by go_num, ⟨_, by rw [upTo_succ, ← List.append_assoc]; exact HO'.out⟩, HB'.out⟩
            case measure => simp [intOf]; omega
          · have hje : j = k := by omega
            have HJ := Lib.hid hje; clear hje
            have g1 : (k : Int) < (j : Int) + 1 := by omega
            go_wp2
            go_roundw
            case rel =>
              obtain ⟨k2, rfl⟩ : ∃ k2, k = k2 + 1 := ⟨k - 1, by omega⟩
              refine ⟨k2, by omega, by go_num, ⟨l2, pre ++ upTo (k2 + 1), by rw [← HJ.out]; exact HO2.out, Lib.hid ?_⟩, HB2.out⟩
              rw [List.append_assoc]
              exact HP.out
            case measure => simp [intOf]; omega
      · have hk0 : k = 0 := by omega
        have HK := Lib.hid hk0; clear hk0
        have g0 : (k : Int) < 1 := by omega
        obtain ⟨av, cv, hv, _⟩ := ho.form
        rw [hv]
        rw [hv] at ho
        have hZ := Z.out.below hbl
        have HZ := Lib.hid hZ
        obtain ⟨q1, q2, q3, q4, q5⟩ := hZ
        clear hv
        go_wp2
        have hp := HP.out
        rw [HK.out] at hp
        simp only [halfFrom, List.append_nil] at hp
        rw [hp] at ho
        have hl := ho.len
        have hlen := HLEN.out
        obtain ⟨_, e2, e3, _, _⟩ := HZ.out.fill (.int .i64 n) (.slice av l cv)
        refine bodyPost_ret (v := .tuple #[.agg #[.int .i64 n, .slice av l cv], .int .i64 0]) (by simp [results, Try.results11, go_sem, e2, e3]) rfl ⟨av, l, cv, rfl, by omega, ?_, ?_⟩
        · exact ((Own.setCell_below ho (by simp; omega) _).setCell_below (by simp; omega) _).mono (by omega)
        · exact ((BB.out.trans (hbl.mono (by omega))).setCell (p := ⟨w.heap.size, 0, none⟩) (by simp) _).setCell (p := ⟨w.heap.size, 1, none⟩) (by simp) _
  · simp only [mHalf, if_neg hk, Prod.mk.injEq] at hM
    obtain ⟨rfl, rfl, rfl⟩ := hM
    rcases Int.lt_or_le n 1 with h1 | h1
    · skip
      clear hk
      go_enter Try.func11, Try.ntmps11
      go_wp2
      refine bodyPost_ret (v := .tuple #[.agg #[.int .i64 0, .slice none 0 0], .int .i64 2]) (by simp [results, Try.results11, go_sem]) rfl ⟨none, 0, 0, rfl, Nat.zero_le _, Own.nil _ _, ?_⟩
      exact below1 w _
    · have h2 : 8 < n := by omega
      clear hk
      go_enter Try.func11, Try.ntmps11
      go_wp2
      refine bodyPost_ret (v := .tuple #[.agg #[.int .i64 0, .slice none 0 0], .int .i64 2]) (by simp [results, Try.results11, go_sem]) rfl ⟨none, 0, 0, rfl, Nat.zero_le _, Own.nil _ _, ?_⟩
      exact below1 w _

end Go.Proofs.Yteafnbkdejkjiaa