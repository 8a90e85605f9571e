/- Half turns and full turns: the model's answers and the program's. -/
import Derived.Test.YtckdhnpnkgmikaaDoorHalf
namespace Go.Proofs.YtckdhnpnkgmikaaDoor
open Go.RowKit Go.ChangeShapes

/-- The half turn of n strands, and the code; the full turn. -/
def mHalf (n : Int) : Int × List Int × Int := if 1 ≤ n ∧ n ≤ 8 then (n, halfFrom (n - 1).toNat, 0) else (0, [], 2)
def mFull (n : Int) : Int × List Int × Int := if 1 ≤ n ∧ n ≤ 8 then (n, halfFrom (n - 1).toNat ++ halfFrom (n - 1).toNat, 0) else (0, [], 2)

set_option maxHeartbeats 1000000 in
theorem implHalf_any {n : Int} {w : World} {fs : Int} {fxs : List Int} {fc : Int} (_hk : (Lit.int .i64 n).wf = true) (hM : mHalf n = (fs, fxs, fc)) :
    Calls Tryd.prog 61 #[.int .i64 n] w (RetBraid w fs fxs fc) := by
  obtain ⟨i0, hi, hz0, hz1, hz2⟩ := info_parts infoInt
  by_cases hk : 1 ≤ n ∧ n ≤ 8
  · simp only [mHalf, if_pos hk, Prod.mk.injEq] at hM
    obtain ⟨rfl, rfl, rfl⟩ := hM
    obtain ⟨k1, k2⟩ := hk
    obtain ⟨m, hm⟩ : ∃ m : Nat, n = (m : Int) + 1 := ⟨(n - 1).toNat, by omega⟩
    have hm7 : m ≤ 7 := by omega
    have hmn : (n - 1).toNat = m := by omega
    rw [hmn]
    have HMN := Lib.hid hm; clear hm hmn
    have hl28 := halfFrom_len m hm7
    have t1 : inB n 1 8 = true := (inB_iff _ _ _).2 ⟨k1, k2⟩
    clear t1
    have HLEN := Lib.hid hl28; clear hl28
    go_enter Tryd.func61, Tryd.ntmps61
    obtain ⟨w1, hw1⟩ : ∃ w1, w1 = w.alloc (.cells #[.int .i64 0, .slice none 0 0] 26) := ⟨_, rfl⟩
    have Z := Lib.hid (At2.new w (.int .i64 0) (.slice none 0 0) 26)
    have BB := Lib.hid (below1 w (.cells #[.int .i64 0, .slice none 0 0] 26))
    rw [← hw1] at Z BB
    have z1 : w.heap.size + 1 ≤ w1.heap.size := by rw [hw1]; simp
    go_wp2
    rw [← hw1]
    clear hw1
    go_loopw [4, 5] (fun v i wr => ∃ k : Nat, k ≤ m ∧ i = .int .i64 k ∧ (∃ l pre, OwnV w1.heap.size wr v l pre ∧ Hid (pre ++ halfFrom k = halfFrom m)) ∧ Below w1.heap.size w1 wr) (fun _ i _ => (intOf i).toNat)
    case atStart => exact ⟨m, Nat.le_refl _, by have := HMN.out; rw [this]; go_num, ⟨0, [], OwnV.nil _ _, Lib.hid rfl⟩, Below.refl _ _⟩
    case round =>
      obtain ⟨wo, rfl⟩ : ∃ wo : World, wo = wr := ⟨_, rfl⟩
      obtain ⟨k, hk, rfl, ⟨l, pre, ho, HP⟩, hbl⟩ := hrel
      by_cases hlt : 0 < k
      · have g0 : 1 ≤ (k : Int) := by omega
        have HO := Lib.hid ho; clear ho
        have HB := Lib.hid hbl; clear hbl
        have hpl : pre.length ≤ 28 := by have h1 := HP.out; have h2 := HLEN.out; rw [← h1, List.length_append] at h2; omega
        have HPL := Lib.hid hpl; clear hpl
        go_wp2
        go_loopw [4, 6] (fun v i wr => ∃ j : Nat, j ≤ k ∧ i = .int .i64 ((j : Int) + 1) ∧ (∃ l, OwnV w1.heap.size wr v l (pre ++ upTo j)) ∧ Below w1.heap.size w1 wr) (fun _ i _ => k + 1 - (intOf i).toNat)
        case atStart => exact ⟨0, Nat.zero_le _, by simp, ⟨l, by simpa [upTo] using HO.out⟩, HB.out⟩
        case round =>
          obtain ⟨j, hj, rfl, ⟨l2, ho⟩, hbl⟩ := hrel
          have hz : w1.heap.size ≤ wr.heap.size := hbl.size
          have hl2 : l2 ≤ 100 := by have h1 := ho.len; have h2 := HPL.out; rw [List.length_append, upTo_len] at h1; omega
          have HO2 := Lib.hid ho; clear ho
          have HB2 := Lib.hid hbl; clear hbl
          by_cases hjk : j < k
          · have g1 : (j : Int) + 1 ≤ (k : Int) := by omega
            go_wp2_with (at_builtin; refine wpList_append_own _ rfl _ _ 22 rfl w1.heap.size 2 i0 (.int .i64 0) 1 8 Tryd.underlying22 hi hz0 hz1 hz2 rfl (by decide) _ _ _ rfl (World.ownsRow.alloc HO2.out _) ⟨wr.heap.size, 0, none⟩ 1 1 [.int .i64 ((j : Int) + 1)] rfl rfl (one_new wr ((j : Int) + 1) _) (one_cell _) (by unfold maxLen; omega) (by omega) (by simp; omega) ?_)
            intro v' w2 hown' hgrow _
            have HO' := Lib.hid (OwnV.appended hown')
            have HB' := Lib.hid (below_appended HB2.out hz HO2.out hgrow)
            clear hown' hgrow
            go_wp2
            go_roundw
            case rel => exact ⟨j + 1, by omega, by go_num, ⟨_, by rw [upTo_succ, ← List.append_assoc]; exact HO'.out⟩, HB'.out⟩
            case measure => simp [intOf]; omega
          · have hje : j = k := by omega
            have HJ := Lib.hid hje; clear hje
            have g1 : (k : Int) < (j : Int) + 1 := by omega
            go_wp2
            go_roundw
            case rel =>
              obtain ⟨k2, rfl⟩ : ∃ k2, k = k2 + 1 := ⟨k - 1, by omega⟩
              refine ⟨k2, by omega, by go_num, ⟨l2, pre ++ upTo (k2 + 1), by rw [← HJ.out]; exact HO2.out, Lib.hid ?_⟩, HB2.out⟩
              rw [List.append_assoc]
              exact HP.out
            case measure => simp [intOf]; omega
      · have hk0 : k = 0 := by omega
        have HK := Lib.hid hk0; clear hk0
        have g0 : (k : Int) < 1 := by omega
        obtain ⟨av, cv, hv, _⟩ := ho.form
        rw [hv]
        rw [hv] at ho
        have hZ := Z.out.below hbl
        have HZ := Lib.hid hZ
        obtain ⟨q1, q2, q3, q4, q5⟩ := hZ
        clear hv
        go_wp2
        have hp := HP.out
        rw [HK.out] at hp
        simp only [halfFrom, List.append_nil] at hp
        rw [hp] at ho
        have hl := ho.len
        have hlen := HLEN.out
        obtain ⟨_, e2, e3, _, _⟩ := HZ.out.fill (.int .i64 n) (.slice av l cv)
        refine bodyPost_ret (v := .tuple #[.agg #[.int .i64 n, .slice av l cv], .int .i64 0]) (by simp [results, Tryd.results61, go_sem, e2, e3]) rfl ⟨av, l, cv, rfl, by omega, ?_, ?_⟩
        · exact ((Own.setCell_below ho (by simp; omega) _).setCell_below (by simp; omega) _).mono (by omega)
        · exact ((BB.out.trans (hbl.mono (by omega))).setCell (p := ⟨w.heap.size, 0, none⟩) (by simp) _).setCell (p := ⟨w.heap.size, 1, none⟩) (by simp) _
  · simp only [mHalf, if_neg hk, Prod.mk.injEq] at hM
    obtain ⟨rfl, rfl, rfl⟩ := hM
    rcases Int.lt_or_le n 1 with h1 | h1
    · skip
      clear hk
      go_enter Tryd.func61, Tryd.ntmps61
      go_wp2
      refine bodyPost_ret (v := .tuple #[.agg #[.int .i64 0, .slice none 0 0], .int .i64 2]) (by simp [results, Tryd.results61, go_sem]) rfl ⟨none, 0, 0, rfl, Nat.zero_le _, Own.nil _ _, ?_⟩
      exact below1 w _
    · have h2 : 8 < n := by omega
      clear hk
      go_enter Tryd.func61, Tryd.ntmps61
      go_wp2
      refine bodyPost_ret (v := .tuple #[.agg #[.int .i64 0, .slice none 0 0], .int .i64 2]) (by simp [results, Tryd.results61, go_sem]) rfl ⟨none, 0, 0, rfl, Nat.zero_le _, Own.nil _ _, ?_⟩
      exact below1 w _

end Go.Proofs.YtckdhnpnkgmikaaDoor