/- The model's MirrorOf. -/
import Derived.Test.YtmiihjhhbjpalaaInverse2
import Derived.Deep.AppendLies
import Derived.Deep.RegionLaw
import Derived.Deep.RegionHeld3
namespace Go.Proofs.Ytmiihjhhbjpalaa
open Go.RowKit Go.ChangeShapes

set_option maxHeartbeats 1000000 in
theorem specMirror_any {s : Int} {a : Option Addr} {n cap : Nat} {xs : List Int} {w : World} {fs : Int} {fxs : List Int} {fc : Int} (hr : Reads w a n xs) (hf : Fits xs) (hn : n ≤ 1048576) (hM : mMirror s xs = (fs, fxs, fc)) :
    Calls Try.prog 24 #[.agg #[.int .i64 s, .slice a n cap]] w (RetBraid w fs fxs fc) := by
  have R := Lib.hid hr; clear hr
  have HF := Lib.hid hf; clear hf
  obtain ⟨i0, hi, hz0, hz1, hz2⟩ := info_parts infoInt
  by_cases hbr : isBraid s xs = true
  · have HSM := Lib.hid (small_of_isBraid _ _ hbr)
    have HL := Lib.hid R.out.len
    have hl200 := len_of_isBraid _ _ hbr
    simp only [mMirror, if_pos hbr, Prod.mk.injEq] at hM
    obtain ⟨rfl, rfl, rfl⟩ := hM
    rcases Nat.eq_zero_or_pos n with h0 | h0
    · subst h0
      go_enter Try.func24, Try.ntmps24
      replace R := Lib.hid (R.out.alloc (.cells #[.int .i64 s, .slice a 0 cap] 27))
      have A := Lib.hid (At2.new w (.int .i64 s) (.slice a 0 cap) 27)
      have BB := Lib.hid (below1 w (.cells #[.int .i64 s, .slice a 0 cap] 27))
      replace R := Lib.hid (R.out.alloc (.cells #[.int .i64 0, .slice none 0 0] 27))
      replace A := Lib.hid (A.out.alloc (.cells #[.int .i64 0, .slice none 0 0] 27))
      have Z := Lib.hid (At2.place (w.alloc (.cells #[.int .i64 s, .slice a 0 cap] 27)) (.int .i64 0) (.slice none 0 0) 27 (w.heap.size + 1) (by simp))
      replace BB := Lib.hid (BB.out.alloc (by first | omega | (simp; done) | (simp; omega)) (.cells #[.int .i64 0, .slice none 0 0] 27))
      go_wp2_with fail
      refine (l01Is_any _ _ _ _ xs _ R.out HF.out hn).mono ?_
      rintro e w1 ⟨rfl, hb⟩
      replace R := Lib.hid (R.out.below hb)
      replace A := Lib.hid (A.out.below hb)
      replace Z := Lib.hid (Z.out.below hb)
      have z1 : w.heap.size + 2 ≤ w1.heap.size := by have := hb.size; simp at this; omega
      replace BB := Lib.hid (below_go BB.out hb (by first | omega | (simp; done) | (simp; omega)))
      clear hb
      obtain ⟨qA1, qA2, qA3, qA4, qA5⟩ := A.out
      obtain ⟨qZ1, qZ2, qZ3, qZ4, qZ5⟩ := Z.out
      have HZ := Z; have HB := BB
      replace R := Lib.hid (R.out.alloc (.cells #[.int .i64 s, .slice none 0 0] 27))
      replace A := Lib.hid (A.out.alloc (.cells #[.int .i64 s, .slice none 0 0] 27))
      replace Z := Lib.hid (Z.out.alloc (.cells #[.int .i64 s, .slice none 0 0] 27))
      have C := Lib.hid (At2.new w1 (.int .i64 s) (.slice none 0 0) 27)
      replace BB := Lib.hid (BB.out.alloc (by first | omega | (simp; done) | (simp; omega)) (.cells #[.int .i64 s, .slice none 0 0] 27))
      go_wp2
      refine wp_loop_rounds 1 ?_; rw [rounds_succ]
      go_wp2
      have HZf := (HZ.out.fill (.int .i64 s) (.slice none 0 0)).alloc (.cells #[.int .i64 s, .slice none 0 0] 27)
      obtain ⟨_, e2, e3, _, _⟩ := HZf
      have hx : xs = [] := List.eq_nil_of_length_eq_zero HL.out
      rw [hx]
      refine bodyPost_ret (v := .tuple #[.agg #[.int .i64 s, .slice none 0 0], .int .i64 0]) (by simp [results, Try.results24, go_sem, e2, e3]) rfl ⟨none, 0, 0, rfl, Nat.zero_le _, Own.nil _ _, ?_⟩
      exact ((HB.out.setCell (p := ⟨w.heap.size + 1, 0, none⟩) (by simp) _).setCell (p := ⟨w.heap.size + 1, 1, none⟩) (by simp) _).alloc (by simp; omega) _
    · obtain ⟨b, off, rfl, hb0, hc⟩ := R.out.cells h0
      have HC := Lib.hid hc; clear hc
      go_enter Try.func24, Try.ntmps24
      replace R := Lib.hid (R.out.alloc (.cells #[.int .i64 s, .slice (some ⟨b, off, none⟩) n cap] 27))
      have A := Lib.hid (At2.new w (.int .i64 s) (.slice (some ⟨b, off, none⟩) n cap) 27)
      have BB := Lib.hid (below1 w (.cells #[.int .i64 s, .slice (some ⟨b, off, none⟩) n cap] 27))
      replace R := Lib.hid (R.out.alloc (.cells #[.int .i64 0, .slice none 0 0] 27))
      replace A := Lib.hid (A.out.alloc (.cells #[.int .i64 0, .slice none 0 0] 27))
      have Z := Lib.hid (At2.place (w.alloc (.cells #[.int .i64 s, .slice (some ⟨b, off, none⟩) n cap] 27)) (.int .i64 0) (.slice none 0 0) 27 (w.heap.size + 1) (by simp))
      replace BB := Lib.hid (BB.out.alloc (by first | omega | (simp; done) | (simp; omega)) (.cells #[.int .i64 0, .slice none 0 0] 27))
      go_wp2_with fail
      refine (l01Is_any _ _ _ _ xs _ R.out HF.out hn).mono ?_
      rintro e w1 ⟨rfl, hb⟩
      replace R := Lib.hid (R.out.below hb)
      replace A := Lib.hid (A.out.below hb)
      replace Z := Lib.hid (Z.out.below hb)
      have z1 : w.heap.size + 2 ≤ w1.heap.size := by have := hb.size; simp at this; omega
      replace BB := Lib.hid (below_go BB.out hb (by first | omega | (simp; done) | (simp; omega)))
      clear hb
      obtain ⟨qA1, qA2, qA3, qA4, qA5⟩ := A.out
      obtain ⟨qZ1, qZ2, qZ3, qZ4, qZ5⟩ := Z.out
      have HA := A; have HZ := Z; have HB := BB
      replace R := Lib.hid (R.out.alloc (.cells #[.int .i64 s, .slice none 0 0] 27))
      replace A := Lib.hid (A.out.alloc (.cells #[.int .i64 s, .slice none 0 0] 27))
      replace Z := Lib.hid (Z.out.alloc (.cells #[.int .i64 s, .slice none 0 0] 27))
      have C := Lib.hid (At2.new w1 (.int .i64 s) (.slice none 0 0) 27)
      replace BB := Lib.hid (BB.out.alloc (by first | omega | (simp; done) | (simp; omega)) (.cells #[.int .i64 s, .slice none 0 0] 27))
      go_wp2
      clear qA1 qA2 qA3 qA4 qA5 qZ1 qZ2 qZ3 qZ4 qZ5
      go_loopw [5] (fun i wr => ∃ k : Nat, k ≤ n ∧ i = .int .i64 k ∧ (∃ v, At2 wr w1.heap.size (.int .i64 s) v ∧ OwnV (w1.heap.size + 1) wr v k ((xs.map fun x => -x).take k)) ∧ Below w1.heap.size w1 wr) (fun i _ => n - (intOf i).toNat)
      case atStart => exact ⟨0, Nat.zero_le _, rfl, ⟨_, C.out, OwnV.nil _ _⟩, (Below.refl _ _).alloc (Nat.le_refl _) _⟩
      case round =>
        obtain ⟨k, hk, rfl, ⟨v, hC, ho⟩, hbl⟩ := hrel
        obtain ⟨av, cv, rfl, _⟩ := ho.form
        clear A Z C BB R
        have hA := HA.out.below hbl
        have hZ := HZ.out.below hbl
        have hzz : w1.heap.size + 1 ≤ wr.heap.size := hC.1
        have HC1 := Lib.hid hC; have HA1 := Lib.hid hA; have HZ1 := Lib.hid hZ; have HO := Lib.hid ho
        have HBL := Lib.hid hbl
        clear ho
        obtain ⟨qA1, qA2, qA3, qA4, qA5⟩ := hA
        obtain ⟨qC1, qC2, qC3, qC4, qC5⟩ := hC
        obtain ⟨qZ1, qZ2, qZ3, qZ4, qZ5⟩ := hZ
        by_cases hlt : k < n
        · have hm := HSM.out _ (getD_mem xs k (by rw [HL.out]; omega))
          obtain ⟨x, hx⟩ : ∃ x, x = xs.getD k 0 := ⟨_, rfl⟩
          have h1 : wr.cell? ⟨b, off + k, none⟩ = some (.int .i64 x) := by rw [hx]; exact (hbl.cell (by show b < w1.heap.size; omega)).trans ((HB.out.cell (by exact hb0)).trans (HC.out _ (by omega)))
          rw [← hx] at hm
          have HX := Lib.hid hx; clear hx hbl
          obtain ⟨hm1, hm2⟩ := hm
          have e0 : IntKind.i64.wrap (-x) = -x := IntWalk.i64_in _ (by omega)
          have j0 : 0 ≤ (k : Int) := by omega
          have j1 : (k : Int) < (n : Int) := by omega
          go_wp2
          go_region_law (first
              | (refine step_append_lies _ rfl (.tmp 21) (.tmp 28) 22 rfl (w1.heap.size + 1) 2 i0 (.int .i64 0) 1 8 Try.underlying22 hi hz0 hz1 hz2 rfl (by decide) _ _ _ rfl (World.ownsRow.alloc (World.ownsRow.drew HO.out) _) ⟨wr.heap.size, 0, none⟩ 1 1 [.int .i64 (-x)] rfl rfl (one_new wr.drew (-x) _) (one_cell _) (by decide) (by unfold maxLen; omega) (by omega) (by simp; omega) _ rfl ?_; intro g2 cap2 w2 hown hgrow _ _; have hb := below_appended (B := w1.heap.size + 1) (Below.refl _ _) (by show _ ≤ wr.heap.size; omega) (show OwnV (w1.heap.size + 1) wr.drew _ _ _ from HO.out) hgrow; obtain ⟨rC1, rC2, rC3, rC4, rC5⟩ := HC1.out.drew.heap hb.size (hb.block _ (by omega))))
          all_goals
            have ho' : OwnV (w1.heap.size + 1) w2 (.slice (some ⟨g2, 0, none⟩) (k + 1) cap2) (k + 1) ((xs.map fun x => -x).take k ++ [(-x)]) := OwnV.appended hown
            have HO' := Lib.hid ho'; clear ho' hown hgrow
            have HC2 : Hid (At2 w2 w1.heap.size (.int .i64 s) (.slice av k cv)) := Lib.hid ⟨rC1, rC2, rC3, rC4, rC5⟩
            have HB2 := Lib.hid (HBL.out.drew.trans (hb.mono (by omega))); clear hb rC1 rC2 rC3 rC4 rC5
            go_wp2
            go_roundw
            case rel =>
              have e1 := map_step xs (fun x => -x) k (by rw [HL.out]; exact hlt); rw [← HX.out] at e1
              refine ⟨k + 1, by omega, by go_num, ⟨_, HC2.out.store1 _, ?_⟩, HB2.out.setCell (p := ⟨w1.heap.size, 1, none⟩) (by simp) _⟩
              rw [e1]
              exact ownsRow_setCell_below HO'.out (by simp) _
            case measure => simp [intOf]; omega
        · have hkn : k = n := by omega
          have HK := Lib.hid hkn; clear hkn hbl
          go_wp2
          have ho := HO.out
          have hh := HL.out
          rw [HK.out, List.take_of_length_le (by simp; omega)] at ho
          obtain ⟨_, _, e9, ho2⟩ := ho.form
          cases e9
          obtain ⟨_, e2, e3, _, _⟩ := HZ1.out.fill (.int .i64 s) (.slice av k cv)
          refine bodyPost_ret (v := .tuple #[.agg #[.int .i64 s, .slice av k cv], .int .i64 0]) (by simp [results, Try.results24, go_sem, e2, e3]) rfl ⟨av, k, cv, rfl, by omega, ?_, ?_⟩
          · rw [HK.out]; exact ((ho2.setCell_below (by simp; omega) _).setCell_below (by simp; omega) _).mono (by omega)
          · exact ((HB.out.trans (HBL.out.mono (by omega))).setCell (p := ⟨w.heap.size + 1, 0, none⟩) (by simp) _).setCell (p := ⟨w.heap.size + 1, 1, none⟩) (by simp) _
  · have hb0 : isBraid s xs = false := by simpa using hbr
    simp only [mMirror, if_neg hbr, Prod.mk.injEq] at hM
    obtain ⟨rfl, rfl, rfl⟩ := hM
    clear hbr
    go_enter Try.func24, Try.ntmps24
    replace R := Lib.hid (R.out.alloc (.cells #[.int .i64 s, .slice a n cap] 27))
    have A := Lib.hid (At2.new w (.int .i64 s) (.slice a n cap) 27)
    have BB := Lib.hid (below1 w (.cells #[.int .i64 s, .slice a n cap] 27))
    replace R := Lib.hid (R.out.alloc (.cells #[.int .i64 0, .slice none 0 0] 27))
    replace A := Lib.hid (A.out.alloc (.cells #[.int .i64 0, .slice none 0 0] 27))
    have Z := Lib.hid (At2.place (w.alloc (.cells #[.int .i64 s, .slice a n cap] 27)) (.int .i64 0) (.slice none 0 0) 27 (w.heap.size + 1) (by simp))
    replace BB := Lib.hid (BB.out.alloc (by first | omega | (simp; done) | (simp; omega)) (.cells #[.int .i64 0, .slice none 0 0] 27))
    go_wp2_with fail
    refine (l01Is_any _ _ _ _ xs _ R.out HF.out hn).mono ?_
    rintro e w1 ⟨rfl, hb⟩
    replace R := Lib.hid (R.out.below hb)
    replace A := Lib.hid (A.out.below hb)
    replace Z := Lib.hid (Z.out.below hb)
    have z1 : w.heap.size + 2 ≤ w1.heap.size := by have := hb.size; simp at this; omega
    replace BB := Lib.hid (below_go BB.out hb (by first | omega | (simp; done) | (simp; omega)))
    clear hb
    obtain ⟨qA1, qA2, qA3, qA4, qA5⟩ := A.out
    obtain ⟨qZ1, qZ2, qZ3, qZ4, qZ5⟩ := Z.out
    go_wp2
    obtain ⟨_, e2, e3, _, _⟩ := Z.out.fill (.int .i64 0) (.slice none 0 0)
    refine bodyPost_ret (v := .tuple #[.agg #[.int .i64 0, .slice none 0 0], .int .i64 1]) (by simp [results, Try.results24, go_sem, e2, e3]) rfl ⟨none, 0, 0, rfl, Nat.zero_le _, Own.nil _ _, ?_⟩
    exact (BB.out.setCell (p := ⟨w.heap.size + 1, 0, none⟩) (by simp) _).setCell (p := ⟨w.heap.size + 1, 1, none⟩) (by simp) _

end Go.Proofs.Ytmiihjhhbjpalaa