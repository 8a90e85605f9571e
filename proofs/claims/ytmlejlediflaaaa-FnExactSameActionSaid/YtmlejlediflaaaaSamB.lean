/- Braids that act alike: the exported functions. -/
import Derived.Test.YtmlejlediflaaaaSamA
namespace Go.Proofs.Ytmlejlediflaaaa
open Go.RowKit Go.ChangeShapes

theorem mImgs_cases (n : Nat) (ls : List Int) : (∃ l, imgs ls n = some l ∧ mImgs n ls = (l, 0)) ∨ (imgs ls n = none ∧ mImgs n ls = ([], 3)) := by
  unfold mImgs
  cases h : imgs ls n with
  | none => exact .inr ⟨rfl, rfl⟩
  | some l => exact .inl ⟨l, rfl, rfl⟩

theorem mSA_both {n : Nat} {xs ys : List Int} {l1 l2 : List (List Int)} (h1 : imgs xs n = some l1) (h2 : imgs ys n = some l2) : mSA n xs ys = (decide (l1 = l2), 0) := by unfold mSA; rw [h1, h2]
theorem mSA_first {n : Nat} {xs ys : List Int} (h1 : imgs xs n = none) : mSA n xs ys = (false, 3) := by unfold mSA; rw [h1]
theorem mSA_second {n : Nat} {xs ys : List Int} (h2 : imgs ys n = none) : mSA n xs ys = (false, 3) := by
  unfold mSA
  rw [h2]
  split <;> rfl

set_option maxRecDepth 100000 in
set_option maxHeartbeats 2000000 in
theorem implSameAction_any (s : Int) (a : Option Addr) (n ca : Nat) (xs : List Int) (t : Int) (b : Option Addr) (k cb : Nat) (ys : List Int) (w : World) (hr : Reads w a n xs) (_hf : Fits xs) (hn : n ≤ 1048576) (hr2 : Reads w b k ys) (_hf2 : Fits ys) (hk : k ≤ 1048576) (fb : Bool) (fc : Int) (hM : mSameAct s xs t ys = (fb, fc)) :
    Calls Try.prog 56 #[.agg #[.int .i64 s, .slice a n ca], .agg #[.int .i64 t, .slice b k cb]] w fun e w' => e = .returned (.tuple #[.bool fb, .int .i64 fc]) ∧ Below w.heap.size w w' := by
  have R := Lib.hid ((hr.alloc (.cells #[.int .i64 s, .slice a n ca] 24)).alloc (.cells #[.int .i64 t, .slice b k cb] 24))
  have Q := Lib.hid ((hr2.alloc (.cells #[.int .i64 s, .slice a n ca] 24)).alloc (.cells #[.int .i64 t, .slice b k cb] 24))
  have A := Lib.hid ((At2.new w (.int .i64 s) (.slice a n ca) 24).alloc (.cells #[.int .i64 t, .slice b k cb] 24))
  have C := Lib.hid (At2.place (w.alloc (.cells #[.int .i64 s, .slice a n ca] 24)) (.int .i64 t) (.slice b k cb) 24 (w.heap.size + 1) (by simp))
  have BB := Lib.hid (below2 w (.cells #[.int .i64 s, .slice a n ca] 24) (.cells #[.int .i64 t, .slice b k cb] 24))
  clear hr hr2 _hf _hf2
  have hcd := codeBs_pair s t a b n k ca cb xs ys
  obtain ⟨cd, hcde⟩ : ∃ c, c = codeBs [⟨s, a, n, ca, xs⟩, ⟨t, b, k, cb, ys⟩] := ⟨_, rfl⟩
  have HCDE := Lib.hid hcde
  rw [← hcde] at hcd
  clear hcde
  have hco : mSameAct s xs t ys = if cd = 0 then mSA s.toNat xs ys else (false, cd) := by
    unfold mSameAct
    rw [hcd]
    by_cases h1 : isBraid s xs = true ∧ isBraid t ys = true
    · rw [if_pos h1, if_pos h1]
      by_cases h2 : s = t
      · rw [if_pos h2, if_pos h2, if_pos rfl]
      · rw [if_neg h2, if_neg h2, if_neg (by omega)]
    · rw [if_neg h1, if_neg h1, if_neg (by omega)]
  obtain ⟨qA1, qA2, qA3, qA4, qA5⟩ := A.out
  obtain ⟨qC1, qC2, qC3, qC4, qC5⟩ := C.out
  go_enter Try.func56, Try.ntmps56
  go_wp2_with fail
  have RP := Lib.hid (readsB_pair _ (w.heap.size + 1 + 1) (by simp) s t a b n k ca cb xs ys R.out hn Q.out hk)
  refine (braidsCode_any _ _ _ _ _ RP.out (by omega)).mono ?_
  rintro e w1 ⟨rfl, hb⟩
  rw [← HCDE.out]
  clear qA1 qA2 qA3 qA4 qA5 qC1 qC2 qC3 qC4 qC5 RP
  replace R := Lib.hid ((R.out.alloc _).below hb)
  replace Q := Lib.hid ((Q.out.alloc _).below hb)
  replace A := Lib.hid ((A.out.alloc _).below hb)
  replace C := Lib.hid ((C.out.alloc _).below hb)
  replace BB := Lib.hid (below_go (BB.out.alloc BB.out.size _) hb (by have := BB.out.size; simp at *; omega))
  clear hb
  by_cases h0 : cd = 0
  · have t0 : (cd != 0) = false := by simp [h0]
    rw [hco, if_pos h0] at hM
    have hbr : isBraid s xs = true ∧ isBraid t ys = true ∧ s = t := by
      by_cases h1 : isBraid s xs = true ∧ isBraid t ys = true
      · rw [if_pos h1] at hcd
        by_cases h2 : s = t
        · exact ⟨h1.1, h1.2, h2⟩
        · rw [if_neg h2] at hcd; omega
      · rw [if_neg h1] at hcd; omega
    obtain ⟨hb1, hb2, rfl⟩ := hbr
    obtain ⟨i1, i2, _, _⟩ := (isBraid_iff s xs).1 hb1
    obtain ⟨q, rfl⟩ : ∃ q : Nat, s = (q : Int) := ⟨s.toNat, by omega⟩
    rw [Int.toNat_natCast] at hM
    have hq8 : q ≤ 8 := by omega
    have HX := Lib.hid (letters_bd hb1); have HY := Lib.hid (letters_bd hb2)
    have HM := Lib.hid hM
    clear hM hco hcd h0 hb1 hb2 i1 i2
    obtain ⟨qA1, qA2, qA3, qA4, qA5⟩ := A.out
    obtain ⟨qC1, qC2, qC3, qC4, qC5⟩ := C.out
    rcases mImgs_cases q xs with ⟨l1, hi1, hm1⟩ | ⟨hi1, hm1⟩
    · have HI1 := Lib.hid hi1; have HM1 := Lib.hid hm1; clear hi1 hm1
      go_wp2_with fail
      refine (imagesOf_any q a n ca xs _ hq8 R.out hn HX.out HM1.out).mono ?_
      rintro e w2 ⟨ad, d1, rs, rfl, hrs, hg, hb⟩
      clear qA1 qA2 qA3 qA4 qA5 qC1 qC2 qC3 qC4 qC5
      have t1 : ((0 : Int) != 0) = false := by simp
      replace Q := Lib.hid (Q.out.below hb); replace A := Lib.hid (A.out.below hb); replace C := Lib.hid (C.out.below hb)
      replace BB := Lib.hid (below_go BB.out hb BB.out.size)
      have G1 := Lib.hid hg.ownSS.reads; have HRS := Lib.hid hrs; clear hg hrs hb
      have HRL : Hid (rs.length = q) := Lib.hid (by have := imgs_len xs q l1 HI1.out; rw [← HRS.out, List.length_map] at this; exact this)
      obtain ⟨qA1, qA2, qA3, qA4, qA5⟩ := A.out
      obtain ⟨qC1, qC2, qC3, qC4, qC5⟩ := C.out
      rcases mImgs_cases q ys with ⟨l2, hi2, hm2⟩ | ⟨hi2, hm2⟩
      · have HI2 := Lib.hid hi2; have HM2 := Lib.hid hm2; clear hi2 hm2
        go_wp2_with fail
        refine (imagesOf_any q b k cb ys _ hq8 Q.out hk HY.out HM2.out).mono ?_
        rintro e w3 ⟨bd, d2, ts, rfl, hts, hg, hb⟩
        clear qA1 qA2 qA3 qA4 qA5 qC1 qC2 qC3 qC4 qC5
        replace G1 := Lib.hid (G1.out.below hb)
        replace BB := Lib.hid (below_go BB.out hb BB.out.size)
        have G2 := Lib.hid hg.ownSS.reads; have HTS := Lib.hid hts; clear hg hts hb
        have htl : ts.length = rs.length := by have := imgs_len ys q l2 HI2.out; rw [← HTS.out, List.length_map] at this; rw [HRL.out]; exact this
        rw [htl] at G2 ⊢
        have hrl8 : rs.length ≤ 8 := by rw [HRL.out]; exact hq8
        clear htl
        have hfin := HM.out
        rw [mSA_both HI1.out HI2.out, ← HRS.out, ← HTS.out] at hfin
        obtain ⟨rfl, rfl⟩ := Prod.mk.injEq .. ▸ hfin
        clear hfin
        go_wp2_with fail
        refine (equalFunc_any ad bd rs.length d1 d2 rs ts _ G1.out G2.out (by omega)).mono ?_
        rintro e w4 ⟨rfl, hb⟩
        replace BB := Lib.hid (below_go BB.out hb BB.out.size); clear hb
        go_wp2
        go_ret2
        exact ⟨rfl, BB.out⟩
      · have HM2 := Lib.hid hm2; clear hm2
        have hfin := HM.out
        rw [mSA_second hi2] at hfin
        obtain ⟨rfl, rfl⟩ := Prod.mk.injEq .. ▸ hfin
        clear hfin hi2
        have t2 : ((3 : Int) != 0) = true := by simp
        go_wp2_with fail
        refine (imagesOf_any q b k cb ys _ hq8 Q.out hk HY.out HM2.out).mono ?_
        rintro e w3 ⟨bd, d2, ts, rfl, hts, hg, hb⟩
        clear qA1 qA2 qA3 qA4 qA5 qC1 qC2 qC3 qC4 qC5
        replace BB := Lib.hid (below_go BB.out hb BB.out.size); clear hg hts hb
        go_wp2
        go_ret2
        exact ⟨rfl, BB.out⟩
    · have HM1 := Lib.hid hm1; clear hm1
      have hfin := HM.out
      rw [mSA_first hi1] at hfin
      obtain ⟨rfl, rfl⟩ := Prod.mk.injEq .. ▸ hfin
      clear hfin hi1
      have t2 : ((3 : Int) != 0) = true := by simp
      go_wp2_with fail
      refine (imagesOf_any q a n ca xs _ hq8 R.out hn HX.out HM1.out).mono ?_
      rintro e w2 ⟨ad, d1, rs, rfl, hrs, hg, hb⟩
      clear qA1 qA2 qA3 qA4 qA5 qC1 qC2 qC3 qC4 qC5
      replace BB := Lib.hid (below_go BB.out hb BB.out.size); clear hg hrs hb
      go_wp2
      go_ret2
      exact ⟨rfl, BB.out⟩
  · have t0 : (cd != 0) = true := by simp [h0]
    rw [hco, if_neg h0] at hM
    obtain ⟨rfl, rfl⟩ := Prod.mk.injEq .. ▸ hM
    clear hM hco hcd h0
    go_wp2
    go_ret2
    exact ⟨rfl, BB.out⟩

end Go.Proofs.Ytmlejlediflaaaa
