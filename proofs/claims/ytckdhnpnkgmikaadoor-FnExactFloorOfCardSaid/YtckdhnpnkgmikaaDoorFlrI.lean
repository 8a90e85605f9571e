/- The floor of a braid: the program's exported function. -/
import Derived.Test.YtckdhnpnkgmikaaDoorFlr
namespace Go.Proofs.YtckdhnpnkgmikaaDoor
open Go.RowKit Go.ChangeShapes

set_option maxRecDepth 100000 in
set_option maxHeartbeats 2000000 in
theorem implFlr_any {s : Int} {a : Option Addr} {n cap : Nat} {xs : List Int} {w : World} {ep : Value} {fv fc : Int} (hr : Reads w a n xs) (_hf : Fits xs) (hn : n ≤ 1048576)
    (hg : w.cell? ⟨0, 0, none⟩ = some (.iface 90 ep)) (hM : mFloor s xs = (fv, fc)) :
    Calls Tryd.prog 32 #[.agg #[.int .i64 s, .slice a n cap]] w fun e w' => e = .returned (.tuple #[.int .i64 fv, .int .i64 fc]) ∧ Below w.heap.size w w' := by
  have R := Lib.hid hr; clear hr
  have HG := Lib.hid hg; clear hg
  by_cases hbr : isBraid s xs = true
  · have HX := Lib.hid (lt8_of_isBraid hbr)
    have hn200 : n ≤ 200 := by have := len_of_isBraid _ _ hbr; have := R.out.len; omega
    have hs1 := lo_of_isBraid _ _ hbr
    have hs8 := hi_of_isBraid _ _ hbr
    rw [mFloor, if_pos hbr] at hM
    by_cases hs2 : s < 2
    · rw [if_pos hs2, Prod.mk.injEq] at hM
      obtain ⟨rfl, rfl⟩ := hM
      go_enter Tryd.func32, Tryd.ntmps32
      go_wp2_with fail
      refine (implIsBraid_any _ _ _ _ xs _ (R.out.alloc _) hn).mono ?_
      rintro e w1 ⟨rfl, hb⟩
      obtain ⟨q1, q2, q3, q4, q5⟩ := (At2.new w (.int .i64 s) (.slice a n cap) 26).below hb
      have BB := Lib.hid (below_go (below1 w _) hb (by simp)); clear hb
      go_wp2
      go_ret2
      exact ⟨rfl, BB.out⟩
    · rw [if_neg hs2] at hM
      obtain ⟨q, hq⟩ : ∃ q : Nat, s = (q : Int) + 1 := ⟨(s - 1).toNat, by omega⟩
      have hq7 : q ≤ 7 := by omega
      have hfull : mFull s = (s, fullQ q, 0) := by
        unfold mFull
        rw [if_pos ⟨by omega, by omega⟩, show (s - 1).toNat = q by omega]
        rfl
      rw [show (s - 1).toNat = q by omega] at hM
      have hwf : (Lit.int .i64 s).wf = true := small_fits [s] (fun x hx => by simp at hx; omega) s (by simp)
      have HQ := Lib.hid hq; clear hq
      have HFU := Lib.hid hfull; clear hfull
      have HM := Lib.hid hM; clear hM
      have HF8 := Lib.hid (lt8_fullQ q hq7)
      have HFL := Lib.hid (fullQ_len q hq7)
      go_enter Tryd.func32, Tryd.ntmps32
      go_wp2_with fail
      refine (implIsBraid_any _ _ _ _ xs _ (R.out.alloc _) hn).mono ?_
      rintro e w1 ⟨rfl, hb⟩
      have A := Lib.hid ((At2.new w (.int .i64 s) (.slice a n cap) 26).below hb)
      replace R := Lib.hid ((R.out.alloc (.cells #[.int .i64 s, .slice a n cap] 26)).below hb)
      have BB := Lib.hid (below_go (below1 w _) hb (by simp)); clear hb
      obtain ⟨q1, q2, q3, q4, q5⟩ := A.out
      go_wp2_with fail
      refine (implFull_any hwf HFU.out).mono ?_
      rintro e w2 ⟨b2, l2, c2, rfl, hl2, ho, hb⟩
      clear q1 q2 q3 q4 q5
      replace A := Lib.hid ((A.out.below hb).alloc (.cells #[.int .i64 s, .slice b2 l2 c2] 26))
      replace R := Lib.hid ((R.out.below hb).alloc (.cells #[.int .i64 s, .slice b2 l2 c2] 26))
      have F := Lib.hid (ho.reads.alloc (.cells #[.int .i64 s, .slice b2 l2 c2] 26))
      have C := Lib.hid (At2.place w2 (.int .i64 s) (.slice b2 l2 c2) 26 w2.heap.size rfl)
      have BB2 := below_go BB.out hb BB.out.size
      replace BB := Lib.hid (BB2.alloc BB2.size (.cells #[.int .i64 s, .slice b2 l2 c2] 26))
      have hl56 : l2 ≤ 56 := by have h1 := ho.len; have h2 := HFL.out; omega
      clear ho hb BB2 hl2
      obtain ⟨gC, hgC⟩ : ∃ gC, gC = w2.heap.size := ⟨_, rfl⟩
      obtain ⟨W, hW⟩ : ∃ W, W = w2.alloc (.cells #[.int .i64 s, .slice b2 l2 c2] 26) := ⟨_, rfl⟩
      rw [← hW] at A R F C BB
      rw [← hgC] at C
      obtain ⟨q1, q2, q3, q4, q5⟩ := A.out
      obtain ⟨y1, y2, y3, y4, y5⟩ := C.out
      go_wp2
      rw [← hW, ← hgC]
      clear q1 q2 q3 q4 q5 y1 y2 y3 y4 y5 hW hgC
      go_loopw [6] (fun i wr => ∃ j : Nat, j ≤ 14 ∧ i = .int .i64 ((j : Int) - 7) ∧ Hid (flo xs (fullQ q) (14 - j) ((j : Int) - 6) = (fv, fc)) ∧ At2 wr w.heap.size (.int .i64 s) (.slice a n cap) ∧ At2 wr gC (.int .i64 s) (.slice b2 l2 c2) ∧ Reads wr a n xs ∧ Reads wr b2 l2 (fullQ q) ∧ Below w.heap.size w wr) (fun i _ => (8 - intOf i).toNat)
      case atStart => exact ⟨0, by omega, by go_num, HM, A.out, C.out, R.out, F.out, BB.out⟩
      case round =>
        obtain ⟨j, hj, rfl, HE, ha, hc, hr, hf, bb⟩ := hrel
        clear A R BB HM C F
        have A := Lib.hid ha
        have C := Lib.hid hc
        have R := Lib.hid hr
        have F := Lib.hid hf
        have BB := Lib.hid bb
        clear ha hr bb hc hf
        by_cases hlt : j < 14
        · obtain ⟨f, hff⟩ : ∃ f, 14 - j = f + 1 := ⟨13 - j, by omega⟩
          have hst : flo xs (fullQ q) (f + 1) ((j : Int) - 6) = match cmpL xs (pwd (fullQ q) ((j : Int) - 6)) with | none => (0, 3) | some v => if v < 0 then (if (j : Int) - 6 = -6 then (0, 3) else ((j : Int) - 6 - 1, 0)) else flo xs (fullQ q) f ((j : Int) - 6 + 1) := rfl
          have he := HE.out
          rw [hff, hst] at he
          have hfj : f = 14 - (j + 1) := by omega
          subst hfj
          clear hst hff HE
          obtain ⟨mm, hmm⟩ : ∃ mm, mm = (j : Int) - 7 := ⟨_, rfl⟩
          rw [show (j : Int) - 6 = mm + 1 by omega] at he
          rw [← hmm]
          have m1 : -7 ≤ mm := by omega
          have m2 : mm ≤ 6 := by omega
          have HMM := Lib.hid hmm; clear hmm
          have HE := Lib.hid he; clear he
          obtain ⟨v, ok, hv⟩ := cmpL_val xs (pwd (fullQ q) (mm + 1))
          have HV := Lib.hid hv; clear hv
          obtain ⟨c, hc⟩ : ∃ c : Int, c = if ok = true then 0 else 3 := ⟨_, rfl⟩
          have HC := Lib.hid hc; clear hc
          have hpl2 : (pwd (fullQ q) (mm + 1)).length ≤ 1000 := by
            rw [pwd_len]
            have h1 : (mm + 1).natAbs ≤ 7 := by omega
            have h2 := HFL.out
            have := Nat.mul_le_mul h1 h2
            omega
          have HPL := Lib.hid hpl2; clear hpl2
          have hmul : (mm + 1).natAbs * l2 ≤ 1048576 := by
            have h1 : (mm + 1).natAbs ≤ 7 := by omega
            have := Nat.mul_le_mul h1 hl56
            omega
          have HMU := Lib.hid hmul; clear hmul
          have e1 : IntKind.i64.wrap (mm + 1) = mm + 1 := IntWalk.i64_in _ (by omega)
          go_upto_region 8 with fail
          replace A := Lib.hid A.out.drew
          replace C := Lib.hid C.out.drew
          replace R := Lib.hid R.out.drew
          replace F := Lib.hid F.out.drew
          replace BB := Lib.hid BB.out.drew
          go_region_held3 (fun w' => w'.cell? ⟨w.heap.size, 0, none⟩ = some (.int .i64 s) ∧ w'.cell? ⟨w.heap.size, 1, none⟩ = some (.slice a n cap) ∧ w'.cell? ⟨gC, 0, none⟩ = some (.int .i64 s) ∧ w'.cell? ⟨gC, 1, none⟩ = some (.slice b2 l2 c2)) (with_reducible exact ⟨At2.k0 A.out, At2.k1 A.out, At2.k0 C.out, At2.k1 C.out⟩)
            (first
              | (go_at_call 48; refine (powered_any _ _ _ _ (fullQ q) (mm + 1) _ F.out (small_of_lt8 HF8.out) (by omega) (by omega) HMU.out).mono ?_; rintro e w2 ⟨b3, n3, c3, rfl, ho, g1⟩; have hn3 : n3 ≤ 1000 := (by have h1 := ho.len; have h2 := HPL.out; omega); have HO := Lib.hid ho.reads; replace A := Lib.hid (A.out.below g1); replace C := Lib.hid (C.out.below g1); replace R := Lib.hid (R.out.below g1); replace F := Lib.hid (F.out.below g1); replace BB := Lib.hid (below_go BB.out g1 BB.out.size); clear ho g1)
              | (go_at_call 45; refine (compared_val _ _ _ _ xs _ _ _ _ (pwd (fullQ q) (mm + 1)) ep _ R.out HX.out (by omega) HO.out (lt8_pwd HF8.out (mm + 1)) hn3 (gvar BB.out HG.out) HV.out c HC.out).mono ?_; rintro e w3 ⟨rfl, g1⟩; replace A := Lib.hid (A.out.below g1); replace C := Lib.hid (C.out.below g1); replace R := Lib.hid (R.out.below g1); replace F := Lib.hid (F.out.below g1); replace BB := Lib.hid (below_go BB.out g1 BB.out.size); clear g1))
          rcases HV.out with ⟨h1, rfl⟩ | ⟨h1, rfl, rfl⟩
          · replace HE := HE.out; rw [h1] at HE; simp only at HE; replace HE := Lib.hid HE
            have hc0 := HC.out
            rw [if_pos rfl] at hc0
            subst hc0
            clear h1 HV HC
            by_cases hneg : v < 0
            · replace HE := HE.out; rw [if_pos hneg] at HE
              by_cases h6 : mm + 1 = -6
              · rw [if_pos h6, Prod.mk.injEq] at HE
                obtain ⟨rfl, rfl⟩ := HE
                have e6 : mm < -6 := by omega
                clear h6
                go_wp2
                go_ret2
                exact ⟨rfl, BB.out⟩
              · rw [if_neg h6, Prod.mk.injEq, show mm + 1 - 1 = mm by omega] at HE
                obtain ⟨rfl, rfl⟩ := HE
                have e6 : ¬ mm < -6 := by omega
                have e7 : ¬ 6 < mm := by omega
                clear h6
                go_wp2
                go_ret2
                exact ⟨rfl, BB.out⟩
            · replace HE := HE.out; rw [if_neg hneg] at HE; replace HE := Lib.hid HE
              go_wp2
              go_roundw
              case rel => exact ⟨j + 1, by omega, by rw [HMM.out]; go_num, Lib.hid (by have h := HE.out; rw [HMM.out] at h; rw [← h]; congr 1; omega), A.out, C.out, R.out, F.out, BB.out⟩
              case measure => simp [intOf]; omega
          · replace HE := HE.out; rw [h1] at HE; simp only [Prod.mk.injEq] at HE
            have hc0 := HC.out
            rw [if_neg (by simp)] at hc0
            subst hc0
            obtain ⟨rfl, rfl⟩ := HE
            clear h1 HV HC
            go_wp2
            go_ret2
            exact ⟨rfl, BB.out⟩
        · have hj14 : j = 14 := by omega
          subst hj14
          have he := HE.out
          rw [show (14 - 14 : Nat) = 0 from rfl] at he
          simp only [flo, Prod.mk.injEq] at he
          obtain ⟨rfl, rfl⟩ := he
          go_wp2
          go_ret2
          exact ⟨rfl, BB.out⟩
  · have hb0 : isBraid s xs = false := by simpa using hbr
    rw [mFloor, if_neg hbr, Prod.mk.injEq] at hM
    obtain ⟨rfl, rfl⟩ := hM
    clear hbr
    go_enter Tryd.func32, Tryd.ntmps32
    go_wp2_with (go_at_call 38; refine (implIsBraid_any _ _ _ _ xs _ (R.out.alloc _) hn).mono ?_; rintro e w1 ⟨rfl, hb⟩)
    go_ret2
    exact ⟨rfl, below_go (below1 w _) hb (by simp)⟩

end Go.Proofs.YtckdhnpnkgmikaaDoor
