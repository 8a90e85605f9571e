/- Torus braids: the model and the program. -/
import Derived.Test.YtehcbamfendbaaaIBrd
import Derived.Test.YtehcbamfendbaaaFw
namespace Go.Proofs.Ytehcbamfendbaaa
open Go.RowKit Go.ChangeShapes

/-- The letters 1, 2, .., k. -/
def oneTo (k : Nat) : List Int := (List.range k).map (fun x : Nat => (x : Int) + 1)

theorem oneTo_step (k : Nat) : oneTo (k + 1) = oneTo k ++ [(k : Int) + 1] := by simp [oneTo, List.range_succ]
theorem oneTo_len (k : Nat) : (oneTo k).length = k := by simp [oneTo]

/-- Torus braids, and the code. -/
def mTor (p q : Int) : Int × List Int × Int :=
  if (1 ≤ p ∧ p ≤ 8) ∧ (0 ≤ q ∧ q ≤ 200) then (if q * (p - 1) ≤ 200 then (p, rep q.toNat (oneTo (p - 1).toNat), 0) else (0, [], 3)) else (0, [], 2)

set_option maxRecDepth 100000 in
set_option maxHeartbeats 1000000 in
theorem implTorusBraid_any {p q : Int} {w : World} {fs : Int} {fxs : List Int} {fc : Int} (_hp : (Lit.int .i64 p).wf = true) (_hq : (Lit.int .i64 q).wf = true) (hM : mTor p q = (fs, fxs, fc)) :
    Calls Try.prog 39 #[.int .i64 p, .int .i64 q] w (RetBraid w fs fxs fc) := by
  obtain ⟨i0, hi, hz0, hz1, hz2⟩ := info_parts infoInt
  have Z := Lib.hid (At2.new w (.int .i64 0) (.slice none 0 0) 29)
  have BB := Lib.hid (below1 w (.cells #[.int .i64 0, .slice none 0 0] 29))
  by_cases hk : (1 ≤ p ∧ p ≤ 8) ∧ (0 ≤ q ∧ q ≤ 200)
  · have HM : Hid ((if q * (p - 1) ≤ 200 then (p, rep q.toNat (oneTo (p - 1).toNat), 0) else (0, [], 3)) = (fs, fxs, fc)) := Lib.hid (by rw [← hM, mTor, if_pos hk])
    clear hM
    obtain ⟨⟨k1, k2⟩, k3, k4⟩ := hk
    obtain ⟨m, hm⟩ : ∃ m : Nat, p = (m : Int) + 1 := ⟨(p - 1).toNat, by omega⟩
    obtain ⟨r, hr⟩ : ∃ r : Nat, q = (r : Int) := ⟨q.toNat, by omega⟩
    subst hm hr
    have hm7 : m ≤ 7 := by omega
    have hr200 : r ≤ 200 := by omega
    have wp : IntKind.i64.wrap ((m : Int) + 1 - 1) = (m : Int) := (IntWalk.i64_in _ (by omega)).trans (by omega)
    have hml : r * m ≤ 200 * 7 := Nat.mul_le_mul hr200 hm7
    have hx1 : (r : Int) * (m : Int) = ((r * m : Nat) : Int) := (Int.natCast_mul r m).symm
    have HMM : Hid ((if r * m ≤ 200 then ((m : Int) + 1, rep r (oneTo m), 0) else (0, [], 3)) = (fs, fxs, fc)) := Lib.hid (by
      rw [← HM.out]
      rw [show ((m : Int) + 1 - 1) = (m : Int) by omega, hx1, Int.toNat_natCast, Int.toNat_natCast]
      by_cases h : r * m ≤ 200
      · rw [if_pos h, if_pos (by omega)]
      · rw [if_neg h, if_neg (by omega)])
    clear HM
    have wm : IntKind.i64.wrap ((r : Int) * (m : Int)) = ((r * m : Nat) : Int) := by rw [hx1]; exact IntWalk.i64_in _ (by omega)
    have d1 : ¬ (m : Int) + 1 < 1 := by omega
    have d2 : ¬ (m : Int) + 1 > 8 := by omega
    have d3 : ¬ (r : Int) < 0 := by omega
    have d4 : ¬ (r : Int) > 200 := by omega
    by_cases hlim : r * m ≤ 200
    · have hM := HMM.out
      rw [if_pos hlim] at hM
      simp only [Prod.mk.injEq] at hM
      obtain ⟨rfl, rfl, rfl⟩ := hM
      have HLIM := Lib.hid hlim
      have d5 : ¬ (((r * m : Nat) : Int) > 200) := by omega
      obtain ⟨z, hz⟩ : ∃ z : Int, z = ((r * m : Nat) : Int) := ⟨_, rfl⟩
      rw [← hz] at d5 wm
      clear hz
      clear hlim hx1 hml _hp _hq HMM
      go_enter Try.func39, Try.ntmps39
      have C := Lib.hid (At2.place (w.alloc (.cells #[.int .i64 0, .slice none 0 0] 29)) (.int .i64 ((m : Int) + 1)) (.slice none 0 0) 29 (w.heap.size + 1) (by simp))
      replace Z := Lib.hid (Z.out.alloc (.cells #[.int .i64 ((m : Int) + 1), .slice none 0 0] 29))
      replace BB := Lib.hid (BB.out.alloc (by simp) (.cells #[.int .i64 ((m : Int) + 1), .slice none 0 0] 29))
      go_wp2
      go_loopw [7] (fun i wr => ∃ k : Nat, k ≤ m ∧ i = .int .i64 ((k : Int) + 1) ∧ (∃ v, At2 wr (w.heap.size + 1) (.int .i64 ((m : Int) + 1)) v ∧ OwnV (w.heap.size + 2) wr v k (oneTo k)) ∧ At2 wr w.heap.size (.int .i64 0) (.slice none 0 0) ∧ Below w.heap.size w wr) (fun i _ => m + 1 - (intOf i).toNat)
      case atStart => exact ⟨0, Nat.zero_le _, rfl, ⟨_, C.out, OwnV.nil _ _⟩, Z.out, BB.out⟩
      case round =>
        obtain ⟨k, hk, rfl, ⟨v, hC, ho⟩, hZ, hbl⟩ := hrel
        obtain ⟨av, cv, rfl, _⟩ := ho.form
        clear Z C BB
        have hz : w.heap.size + 2 ≤ wr.heap.size := hC.1
        have HC := Lib.hid hC; have HZ := Lib.hid hZ; have HO := Lib.hid ho; have HB := Lib.hid hbl
        clear hC hZ ho hbl
        obtain ⟨cC1, cC2, cC3, cC4, cC5⟩ := HC.out
        have HST := Lib.hid (oneTo_step k)
        by_cases hlt : k < m
        · clear wp wm d5 d1 d2 d3 d4
          have wk : IntKind.i64.wrap ((k : Int) + 1 + 1) = (k : Int) + 1 + 1 := IntWalk.i64_in _ (by omega)
          have k1 : (k : Int) + 1 < (m : Int) + 1 := by omega
          go_wp2_with (at_builtin; refine wpList_append_own _ rfl _ _ 22 rfl (w.heap.size + 2) 2 i0 (.int .i64 0) 1 8 Try.underlying22 hi hz0 hz1 hz2 rfl (by decide) _ _ _ rfl (World.ownsRow.alloc HO.out _) ⟨wr.heap.size, 0, none⟩ 1 1 [.int .i64 ((k : Int) + 1)] rfl rfl (one_new wr ((k : Int) + 1) _) (one_cell _) (by unfold maxLen; omega) (by omega) (by simp; omega) ?_)
          intro v' w1 hown' hgrow _
          have hb := below_appended (B := w.heap.size + 2) (Below.refl _ _) hz HO.out hgrow
          have hov := OwnV.appended hown'
          obtain ⟨av2, cv2, rfl, _⟩ := hov.form
          have HO2 := Lib.hid hov
          clear hov
          have HC2 := Lib.hid (HC.out.heap hb.size (hb.block _ (by omega)))
          have HZ2 := Lib.hid (HZ.out.heap hb.size (hb.block _ (by omega)))
          have HB2 := Lib.hid (HB.out.trans (hb.mono (by omega)))
          clear hown' hgrow hb
          obtain ⟨cC1, cC2, cC3, cC4, cC5⟩ := HC2.out
          go_wp2
          go_roundw
          case rel => exact ⟨k + 1, by omega, by go_num, ⟨_, HC2.out.store1 _, by rw [HST.out]; exact ownsRow_setCell_below HO2.out (by simp) _⟩, HZ2.out.setCell (p := ⟨w.heap.size + 1, 1, none⟩) (by simp) _, HB2.out.setCell (p := ⟨w.heap.size + 1, 1, none⟩) (by simp) _⟩
          case measure => simp [intOf]; omega
        · have hkm : k = m := by omega
          subst hkm
          obtain ⟨_, _, e9, ho2⟩ := HO.out.form
          cases e9
          have O2 := Lib.hid ho2; clear ho2
          have hlm := HLIM.out
          go_wp2_with fail
          refine (repeated_any _ _ k _ (oneTo k) r _ O2.out.reads (by omega) (by omega) (by omega)).mono ?_
          rintro e w3 ⟨a3, n3, c3, rfl, ho, hb⟩
          have HZ3 := Lib.hid (HZ.out.below hb)
          have HB3 := Lib.hid (below_go HB.out hb (by omega))
          have hl3 : n3 ≤ 200 := by rw [← ho.len, rep_len, oneTo_len]; exact hlm
          clear hlm
          have O3 := Lib.hid ho; clear ho hb
          obtain ⟨qZ1, qZ2, qZ3, qZ4, qZ5⟩ := HZ3.out
          go_wp2
          obtain ⟨_, e2, e3, _, _⟩ := HZ3.out.fill (.int .i64 ((k : Int) + 1)) (.slice a3 n3 c3)
          refine bodyPost_ret (v := .tuple #[.agg #[.int .i64 ((k : Int) + 1), .slice a3 n3 c3], .int .i64 0]) (by simp [results, Try.results39, go_sem, e2, e3]) rfl ⟨a3, n3, c3, rfl, by omega, ?_, ?_⟩
          · exact ((O3.out.setCell_below (by simp; omega) _).setCell_below (by simp; omega) _).mono (by omega)
          · exact (HB3.out.setCell (p := ⟨w.heap.size, 0, none⟩) (by simp) _).setCell (p := ⟨w.heap.size, 1, none⟩) (by simp) _
    · have hM := HMM.out
      rw [if_neg hlim] at hM
      simp only [Prod.mk.injEq] at hM
      obtain ⟨rfl, rfl, rfl⟩ := hM
      have d5 : ((r * m : Nat) : Int) > 200 := by omega
      obtain ⟨z, hz⟩ : ∃ z : Int, z = ((r * m : Nat) : Int) := ⟨_, rfl⟩
      rw [← hz] at d5 wm
      clear hz hx1 hml hlim
      go_enter Try.func39, Try.ntmps39
      obtain ⟨qZ1, qZ2, qZ3, qZ4, qZ5⟩ := Z.out
      go_wp2
      refine bodyPost_ret (v := .tuple #[.agg #[.int .i64 0, .slice none 0 0], .int .i64 3]) (by simp [results, Try.results39, go_sem]) rfl ⟨none, 0, 0, rfl, Nat.zero_le _, Own.nil _ _, ?_⟩
      exact BB.out
  · simp only [mTor, if_neg hk, Prod.mk.injEq] at hM
    obtain ⟨rfl, rfl, rfl⟩ := hM
    by_cases d1 : p < 1
    · clear hk
      go_enter Try.func39, Try.ntmps39
      obtain ⟨qZ1, qZ2, qZ3, qZ4, qZ5⟩ := Z.out
      go_wp2
      refine bodyPost_ret (v := .tuple #[.agg #[.int .i64 0, .slice none 0 0], .int .i64 2]) (by simp [results, Try.results39, go_sem]) rfl ⟨none, 0, 0, rfl, Nat.zero_le _, Own.nil _ _, ?_⟩
      exact BB.out
    · by_cases d2 : p > 8
      · clear hk
        go_enter Try.func39, Try.ntmps39
        obtain ⟨qZ1, qZ2, qZ3, qZ4, qZ5⟩ := Z.out
        go_wp2
        refine bodyPost_ret (v := .tuple #[.agg #[.int .i64 0, .slice none 0 0], .int .i64 2]) (by simp [results, Try.results39, go_sem]) rfl ⟨none, 0, 0, rfl, Nat.zero_le _, Own.nil _ _, ?_⟩
        exact BB.out
      · by_cases d3 : q < 0
        · clear hk
          go_enter Try.func39, Try.ntmps39
          obtain ⟨qZ1, qZ2, qZ3, qZ4, qZ5⟩ := Z.out
          go_wp2
          refine bodyPost_ret (v := .tuple #[.agg #[.int .i64 0, .slice none 0 0], .int .i64 2]) (by simp [results, Try.results39, go_sem]) rfl ⟨none, 0, 0, rfl, Nat.zero_le _, Own.nil _ _, ?_⟩
          exact BB.out
        · have d4 : q > 200 := by omega
          clear hk
          go_enter Try.func39, Try.ntmps39
          obtain ⟨qZ1, qZ2, qZ3, qZ4, qZ5⟩ := Z.out
          go_wp2
          refine bodyPost_ret (v := .tuple #[.agg #[.int .i64 0, .slice none 0 0], .int .i64 2]) (by simp [results, Try.results39, go_sem]) rfl ⟨none, 0, 0, rfl, Nat.zero_le _, Own.nil _ _, ?_⟩
          exact BB.out

set_option maxRecDepth 100000 in
set_option maxHeartbeats 1000000 in
theorem specTorusBraid_any {p q : Int} {w : World} {fs : Int} {fxs : List Int} {fc : Int} (_hp : (Lit.int .i64 p).wf = true) (_hq : (Lit.int .i64 q).wf = true) (hM : mTor p q = (fs, fxs, fc)) :
    Calls Try.prog 38 #[.int .i64 p, .int .i64 q] w (RetBraid w fs fxs fc) := by
  obtain ⟨i0, hi, hz0, hz1, hz2⟩ := info_parts infoInt
  have Z := Lib.hid (At2.new w (.int .i64 0) (.slice none 0 0) 29)
  have BB := Lib.hid (below1 w (.cells #[.int .i64 0, .slice none 0 0] 29))
  by_cases hk : (1 ≤ p ∧ p ≤ 8) ∧ (0 ≤ q ∧ q ≤ 200)
  · have HM : Hid ((if q * (p - 1) ≤ 200 then (p, rep q.toNat (oneTo (p - 1).toNat), 0) else (0, [], 3)) = (fs, fxs, fc)) := Lib.hid (by rw [← hM, mTor, if_pos hk])
    clear hM
    obtain ⟨⟨k1, k2⟩, k3, k4⟩ := hk
    obtain ⟨m, hm⟩ : ∃ m : Nat, p = (m : Int) + 1 := ⟨(p - 1).toNat, by omega⟩
    obtain ⟨r, hr⟩ : ∃ r : Nat, q = (r : Int) := ⟨q.toNat, by omega⟩
    subst hm hr
    have hm7 : m ≤ 7 := by omega
    have hr200 : r ≤ 200 := by omega
    have wp : IntKind.i64.wrap ((m : Int) + 1 - 1) = (m : Int) := (IntWalk.i64_in _ (by omega)).trans (by omega)
    have hml : r * m ≤ 200 * 7 := Nat.mul_le_mul hr200 hm7
    have hx1 : (r : Int) * (m : Int) = ((r * m : Nat) : Int) := (Int.natCast_mul r m).symm
    have HMM : Hid ((if r * m ≤ 200 then ((m : Int) + 1, rep r (oneTo m), 0) else (0, [], 3)) = (fs, fxs, fc)) := Lib.hid (by
      rw [← HM.out]
      rw [show ((m : Int) + 1 - 1) = (m : Int) by omega, hx1, Int.toNat_natCast, Int.toNat_natCast]
      by_cases h : r * m ≤ 200
      · rw [if_pos h, if_pos (by omega)]
      · rw [if_neg h, if_neg (by omega)])
    clear HM
    have wm : IntKind.i64.wrap ((m : Int) * (r : Int)) = ((r * m : Nat) : Int) := by rw [Int.mul_comm, hx1]; exact IntWalk.i64_in _ (by omega)
    have t1 : inB ((m : Int) + 1) 1 8 = true := (inB_iff _ _ _).2 ⟨by omega, by omega⟩
    have t2 : inB (r : Int) 0 200 = true := (inB_iff _ _ _).2 ⟨by omega, by omega⟩
    by_cases hlim : r * m ≤ 200
    · have hM := HMM.out
      rw [if_pos hlim] at hM
      simp only [Prod.mk.injEq] at hM
      obtain ⟨rfl, rfl, rfl⟩ := hM
      have HLIM := Lib.hid hlim
      have d5 : ¬ (((r * m : Nat) : Int) > 200) := by omega
      obtain ⟨z, hz⟩ : ∃ z : Int, z = ((r * m : Nat) : Int) := ⟨_, rfl⟩
      rw [← hz] at d5 wm
      clear hz
      clear hlim hx1 hml _hp _hq HMM
      go_enter Try.func38, Try.ntmps38
      have C := Lib.hid (At2.place (w.alloc (.cells #[.int .i64 0, .slice none 0 0] 29)) (.int .i64 ((m : Int) + 1)) (.slice none 0 0) 29 (w.heap.size + 1) (by simp))
      replace Z := Lib.hid (Z.out.alloc (.cells #[.int .i64 ((m : Int) + 1), .slice none 0 0] 29))
      replace BB := Lib.hid (BB.out.alloc (by simp) (.cells #[.int .i64 ((m : Int) + 1), .slice none 0 0] 29))
      go_wp2_with (first | (go_at_call 76; refine (l01In_any _ _ _ _).mono ?_; rintro e w' ⟨rfl, rfl⟩))
      go_loopw [1] (fun i wr => ∃ t : Nat, t ≤ r ∧ i = .int .i64 ((r : Int) - t) ∧ (∃ v n, At2 wr (w.heap.size + 1) (.int .i64 ((m : Int) + 1)) v ∧ OwnV (w.heap.size + 2) wr v n (rep t (oneTo m))) ∧ At2 wr w.heap.size (.int .i64 0) (.slice none 0 0) ∧ Below w.heap.size w wr) (fun i _ => (intOf i).toNat)
      case atStart => exact ⟨0, Nat.zero_le _, by simp, ⟨_, 0, C.out, OwnV.nil _ _⟩, Z.out, BB.out⟩
      case round =>
        obtain ⟨t, ht, rfl, ⟨v, n, hC, ho⟩, hZ, hbl⟩ := hrel
        obtain ⟨av, cv, rfl, _⟩ := ho.form
        clear Z C BB
        have hz : w.heap.size + 2 ≤ wr.heap.size := hC.1
        have HC := Lib.hid hC; have HZ := Lib.hid hZ; have HO := Lib.hid ho; have HB := Lib.hid hbl
        clear hC hZ ho hbl
        obtain ⟨cC1, cC2, cC3, cC4, cC5⟩ := HC.out
        have HLN : Hid (n = t * m) := Lib.hid (by rw [← HO.out.len, rep_len, oneTo_len])
        have HRS := Lib.hid (rep_succ t (oneTo m))
        clear wp wm d5 t1 t2
        by_cases hlt : t < r
        · have hnm : n + m ≤ 200 := by
            have h1 : (t + 1) * m ≤ r * m := Nat.mul_le_mul_right m hlt
            have h2 := HLIM.out
            rw [Nat.succ_mul] at h1
            have := HLN.out
            omega
          have wt : IntKind.i64.wrap ((r : Int) - t - 1) = (r : Int) - t - 1 := IntWalk.i64_in _ (by omega)
          have k1 : (r : Int) - t > 0 := by omega
          obtain ⟨Y, hY⟩ : ∃ Y, Y = rep t (oneTo m) := ⟨_, rfl⟩
          rw [← hY] at HO HRS
          clear hY
          go_wp2
          go_loopw [7] (fun i wr => ∃ k : Nat, k ≤ m ∧ i = .int .i64 ((k : Int) + 1) ∧ (∃ v, At2 wr (w.heap.size + 1) (.int .i64 ((m : Int) + 1)) v ∧ OwnV (w.heap.size + 2) wr v (n + k) (Y ++ oneTo k)) ∧ At2 wr w.heap.size (.int .i64 0) (.slice none 0 0) ∧ Below w.heap.size w wr) (fun i _ => m + 1 - (intOf i).toNat)
          case atStart => exact ⟨0, Nat.zero_le _, rfl, ⟨_, HC.out, by simpa [oneTo] using HO.out⟩, HZ.out, HB.out⟩
          case round =>
            obtain ⟨k, hk, rfl, ⟨v, hC, ho⟩, hZ, hbl⟩ := hrel
            obtain ⟨av3, cv3, rfl, _⟩ := ho.form
            clear HC HZ HO HB cC1 cC2 cC3 cC4 cC5 hz
            obtain ⟨wq, hwq⟩ : ∃ x, x = wr := ⟨_, rfl⟩
            have hz : w.heap.size + 2 ≤ wr.heap.size := hC.1
            have HC3 := Lib.hid hC; have HZ3 := Lib.hid hZ; have HO3 := Lib.hid ho; have HB3 := Lib.hid hbl
            clear hC hZ ho hbl hwq wq
            obtain ⟨cC1, cC2, cC3, cC4, cC5⟩ := HC3.out
            have HST := Lib.hid (oneTo_step k)
            by_cases hltk : k < m
            · have wk : IntKind.i64.wrap ((k : Int) + 1 + 1) = (k : Int) + 1 + 1 := IntWalk.i64_in _ (by omega)
              have k1' : (k : Int) + 1 < (m : Int) + 1 := by omega
              go_wp2_with (at_builtin; refine wpList_append_own _ rfl _ _ 22 rfl (w.heap.size + 2) 2 i0 (.int .i64 0) 1 8 Try.underlying22 hi hz0 hz1 hz2 rfl (by decide) _ _ _ rfl (World.ownsRow.alloc HO3.out _) ⟨wr.heap.size, 0, none⟩ 1 1 [.int .i64 ((k : Int) + 1)] rfl rfl (one_new wr ((k : Int) + 1) _) (one_cell _) (by unfold maxLen; omega) (by omega) (by simp; omega) ?_)
              intro v' w1 hown' hgrow _
              have hb := below_appended (B := w.heap.size + 2) (Below.refl _ _) hz HO3.out hgrow
              have hov := OwnV.appended hown'
              obtain ⟨av2, cv2, rfl, _⟩ := hov.form
              have HO2 := Lib.hid hov
              clear hov
              have HC2 := Lib.hid (HC3.out.heap hb.size (hb.block _ (by omega)))
              have HZ2 := Lib.hid (HZ3.out.heap hb.size (hb.block _ (by omega)))
              have HB2 := Lib.hid (HB3.out.trans (hb.mono (by omega)))
              clear hown' hgrow hb
              obtain ⟨cC1, cC2, cC3, cC4, cC5⟩ := HC2.out
              go_wp2
              go_roundw
              case rel => exact ⟨k + 1, by omega, by go_num, ⟨_, HC2.out.store1 _, by rw [HST.out, ← List.append_assoc]; exact ownsRow_setCell_below HO2.out (by simp) _⟩, HZ2.out.setCell (p := ⟨w.heap.size + 1, 1, none⟩) (by simp) _, HB2.out.setCell (p := ⟨w.heap.size + 1, 1, none⟩) (by simp) _⟩
              case measure => simp [intOf]; omega
            · have hkm : k = m := by omega
              subst hkm
              have k1' : ¬ (k : Int) + 1 < (k : Int) + 1 := by omega
              go_wp2
              go_roundw
              case rel => exact ⟨t + 1, by omega, by go_num, ⟨_, _, HC3.out, by rw [HRS.out]; exact HO3.out⟩, HZ3.out, HB3.out⟩
              case measure => simp [intOf]; omega
        · have htr : t = r := by omega
          subst htr
          obtain ⟨_, _, e9, ho2⟩ := HO.out.form
          cases e9
          have O2 := Lib.hid ho2; clear ho2
          have hlm : n ≤ 200 := by have := HLIM.out; have := HLN.out; omega
          obtain ⟨qZ1, qZ2, qZ3, qZ4, qZ5⟩ := HZ.out
          go_wp2
          obtain ⟨_, e2, e3, _, _⟩ := HZ.out.fill (.int .i64 ((m : Int) + 1)) (.slice av n cv)
          refine bodyPost_ret (v := .tuple #[.agg #[.int .i64 ((m : Int) + 1), .slice av n cv], .int .i64 0]) (by simp [results, Try.results38, go_sem, e2, e3]) rfl ⟨av, n, cv, rfl, by omega, ?_, ?_⟩
          · exact ((O2.out.setCell_below (by simp) _).setCell_below (by simp) _).mono (by omega)
          · exact (HB.out.setCell (p := ⟨w.heap.size, 0, none⟩) (by simp) _).setCell (p := ⟨w.heap.size, 1, none⟩) (by simp) _
    · have hM := HMM.out
      rw [if_neg hlim] at hM
      simp only [Prod.mk.injEq] at hM
      obtain ⟨rfl, rfl, rfl⟩ := hM
      have d5 : ((r * m : Nat) : Int) > 200 := by omega
      obtain ⟨z, hz⟩ : ∃ z : Int, z = ((r * m : Nat) : Int) := ⟨_, rfl⟩
      rw [← hz] at d5 wm
      clear hz hx1 hml hlim
      go_enter Try.func38, Try.ntmps38
      obtain ⟨qZ1, qZ2, qZ3, qZ4, qZ5⟩ := Z.out
      go_wp2_with (first | (go_at_call 76; refine (l01In_any _ _ _ _).mono ?_; rintro e w' ⟨rfl, rfl⟩))
      refine bodyPost_ret (v := .tuple #[.agg #[.int .i64 0, .slice none 0 0], .int .i64 3]) (by simp [results, Try.results38, go_sem]) rfl ⟨none, 0, 0, rfl, Nat.zero_le _, Own.nil _ _, ?_⟩
      exact BB.out
  · simp only [mTor, if_neg hk, Prod.mk.injEq] at hM
    obtain ⟨rfl, rfl, rfl⟩ := hM
    by_cases d1 : 1 ≤ p ∧ p ≤ 8
    · have t1 : inB p 1 8 = true := (inB_iff _ _ _).2 d1
      have t2 : inB q 0 200 = false := (inB_not _ _ _).2 (by omega)
      clear hk d1
      go_enter Try.func38, Try.ntmps38
      obtain ⟨qZ1, qZ2, qZ3, qZ4, qZ5⟩ := Z.out
      go_wp2_with (first | (go_at_call 76; refine (l01In_any _ _ _ _).mono ?_; rintro e w' ⟨rfl, rfl⟩))
      refine bodyPost_ret (v := .tuple #[.agg #[.int .i64 0, .slice none 0 0], .int .i64 2]) (by simp [results, Try.results38, go_sem]) rfl ⟨none, 0, 0, rfl, Nat.zero_le _, Own.nil _ _, ?_⟩
      exact BB.out
    · have t1 : inB p 1 8 = false := (inB_not _ _ _).2 (by omega)
      clear hk d1
      go_enter Try.func38, Try.ntmps38
      obtain ⟨qZ1, qZ2, qZ3, qZ4, qZ5⟩ := Z.out
      go_wp2_with (first | (go_at_call 76; refine (l01In_any _ _ _ _).mono ?_; rintro e w' ⟨rfl, rfl⟩))
      refine bodyPost_ret (v := .tuple #[.agg #[.int .i64 0, .slice none 0 0], .int .i64 2]) (by simp [results, Try.results38, go_sem]) rfl ⟨none, 0, 0, rfl, Nat.zero_le _, Own.nil _ _, ?_⟩
      exact BB.out

end Go.Proofs.Ytehcbamfendbaaa
