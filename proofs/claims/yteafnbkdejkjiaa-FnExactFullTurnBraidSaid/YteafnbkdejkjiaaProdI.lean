/- The products of braids: the program's answer. -/
import Derived.Test.YteafnbkdejkjiaaProdS
import Derived.Test.YteafnbkdejkjiaaBrs
namespace Go.Proofs.Yteafnbkdejkjiaa
open Go.RowKit Go.ChangeShapes

set_option maxHeartbeats 2000000 in
theorem implProduct_any {s : Int} {a : Option Addr} {n cap : Nat} {xs : List Int} {t : Int} {b : Option Addr} {m cap2 : Nat} {ys : List Int} {w : World} {fs : Int} {fxs : List Int} {fc : Int} (hr : Reads w a n xs) (_hf : Fits xs) (hn : n ≤ 1048576) (hr2 : Reads w b m ys) (_hf2 : Fits ys) (hn2 : m ≤ 1048576) (hM : mProduct s xs t ys = (fs, fxs, fc)) :
    Calls Try.prog 12 #[.agg #[.int .i64 s, .slice a n cap], .agg #[.int .i64 t, .slice b m cap2]] w (RetBraid w fs fxs fc) := by
  obtain ⟨i0, hi, hz0, hz1, hz2⟩ := info_parts infoInt
  have HSO := Lib.hid hr2.old
  have R := Lib.hid hr; clear hr
  have Q := Lib.hid hr2; clear hr2

  have HL := Lib.hid R.out.len
  have HM2 := Lib.hid Q.out.len
  have HCD0 : Hid (codeBs [⟨s, a, n, cap, xs⟩, ⟨t, b, m, cap2, ys⟩] = if isBraid s xs = true ∧ isBraid t ys = true then (if s = t then 0 else 2) else 1) := Lib.hid (codeBs_pair s t a b n m cap cap2 xs ys)
  by_cases hbr : isBraid s xs = true ∧ isBraid t ys = true
  · have hn200 : n ≤ 200 := by have := HL.out; have := len_of_isBraid _ _ hbr.1; omega
    have hm200 : m ≤ 200 := by have := HM2.out; have := len_of_isBraid _ _ hbr.2; omega
    simp only [mProduct, if_pos hbr] at hM
    rw [if_pos hbr] at HCD0
    clear hbr
    by_cases hst : s = t
    · rw [if_pos hst] at HCD0
      have HCD := HCD0; clear HCD0
      rw [if_pos hst, HL.out, HM2.out] at hM
      have HST := Lib.hid hst; clear hst
      by_cases hlen : n + m ≤ 200
      · simp only [if_pos hlen, Prod.mk.injEq] at hM
        obtain ⟨rfl, rfl, rfl⟩ := hM
        have hlen2 : ¬ (200 : Int) < (n : Int) + (m : Int) := by omega
        go_enter Try.func12, Try.ntmps12
        replace R := Lib.hid (((R.out.alloc (.cells #[.int .i64 s, .slice a n cap] 24)).alloc (.cells #[.int .i64 t, .slice b m cap2] 24)).alloc (.cells #[.int .i64 0, .slice none 0 0] 24))
        replace Q := Lib.hid (((Q.out.alloc (.cells #[.int .i64 s, .slice a n cap] 24)).alloc (.cells #[.int .i64 t, .slice b m cap2] 24)).alloc (.cells #[.int .i64 0, .slice none 0 0] 24))
        have A := Lib.hid (((At2.new w (.int .i64 s) (.slice a n cap) 24).alloc (.cells #[.int .i64 t, .slice b m cap2] 24)).alloc (.cells #[.int .i64 0, .slice none 0 0] 24))
        have C := Lib.hid ((At2.place (w.alloc (.cells #[.int .i64 s, .slice a n cap] 24)) (.int .i64 t) (.slice b m cap2) 24 (w.heap.size + 1) (by simp)).alloc (.cells #[.int .i64 0, .slice none 0 0] 24))
        have Z := Lib.hid (At2.place ((w.alloc (.cells #[.int .i64 s, .slice a n cap] 24)).alloc (.cells #[.int .i64 t, .slice b m cap2] 24)) (.int .i64 0) (.slice none 0 0) 24 (w.heap.size + 1 + 1) (by simp))
        have BB := Lib.hid (below3 w (.cells #[.int .i64 s, .slice a n cap] 24) (.cells #[.int .i64 t, .slice b m cap2] 24) (.cells #[.int .i64 0, .slice none 0 0] 24))
        have RP := Lib.hid (readsB_pair _ (w.heap.size + 1 + 1 + 1) (by simp) s t a b n m cap cap2 xs ys R.out hn Q.out hn2)
        obtain ⟨qA1, qA2, qA3, qA4, qA5⟩ := A.out
        obtain ⟨qC1, qC2, qC3, qC4, qC5⟩ := C.out
        obtain ⟨qZ1, qZ2, qZ3, qZ4, qZ5⟩ := Z.out
        go_wp2_with fail
        refine (braidsCode_any _ _ _ _ _ RP.out (by omega)).mono ?_
        rintro e w2 ⟨rfl, hb⟩
        clear qA1 qA2 qA3 qA4 qA5 qC1 qC2 qC3 qC4 qC5 qZ1 qZ2 qZ3 qZ4 qZ5
        clear RP
        replace R := Lib.hid ((R.out.alloc _).below hb)
        replace Q := Lib.hid ((Q.out.alloc _).below hb)
        replace A := Lib.hid ((A.out.alloc _).below hb)
        replace C := Lib.hid ((C.out.alloc _).below hb)
        replace Z := Lib.hid ((Z.out.alloc _).below hb)
        replace BB := Lib.hid (below_go (BB.out.alloc BB.out.size _) hb (by have := BB.out.size; simp at *; omega))
        clear hb
        rw [HCD.out]
        have z2 : w.heap.size + 3 ≤ w2.heap.size := Z.out.1
        obtain ⟨qA1, qA2, qA3, qA4, qA5⟩ := A.out
        obtain ⟨qC1, qC2, qC3, qC4, qC5⟩ := C.out
        obtain ⟨qZ1, qZ2, qZ3, qZ4, qZ5⟩ := Z.out
        · skip
          have hzl : w.heap.size + 3 ≤ w2.heap.size := by omega
          have hzQ : Hid (ReadsIn 0 w.heap.size w2 b m ys) := Lib.hid ⟨Q.out, HSO.out.2⟩
          go_wp2_with fail
          refine (repeated_any _ _ _ _ xs 1 _ R.out hn (by decide) (by omega)).mono ?_
          rintro e w3 ⟨a3, n3, c3, rfl, ho, hb⟩
          clear qA1 qA2 qA3 qA4 qA5 qC1 qC2 qC3 qC4 qC5 qZ1 qZ2 qZ3 qZ4 qZ5
          rw [rep_one] at ho
          have O3 := Lib.hid ho; clear ho
          have hl3 : n3 = n := by have := O3.out.len; have := HL.out; omega
          subst hl3
          replace R := Lib.hid (R.out.below hb)
          replace Q := Lib.hid (Q.out.below hb)
          replace A := Lib.hid (A.out.below hb)
          replace C := Lib.hid (C.out.below hb)
          replace Z := Lib.hid (Z.out.below hb)
          have z3 : w2.heap.size ≤ w3.heap.size := hb.size
          replace BB := Lib.hid (below_go BB.out hb (by omega))
          clear hb
          obtain ⟨qA1, qA2, qA3, qA4, qA5⟩ := A.out
          obtain ⟨qC1, qC2, qC3, qC4, qC5⟩ := C.out
          obtain ⟨qZ1, qZ2, qZ3, qZ4, qZ5⟩ := Z.out
          replace R := Lib.hid (R.out.alloc (.cells #[.int .i64 s, .slice a3 n3 c3] 24))
          replace Q := Lib.hid (Q.out.alloc (.cells #[.int .i64 s, .slice a3 n3 c3] 24))
          replace A := Lib.hid (A.out.alloc (.cells #[.int .i64 s, .slice a3 n3 c3] 24))
          replace C := Lib.hid (C.out.alloc (.cells #[.int .i64 s, .slice a3 n3 c3] 24))
          replace Z := Lib.hid (Z.out.alloc (.cells #[.int .i64 s, .slice a3 n3 c3] 24))
          have P := Lib.hid (At2.new w3 (.int .i64 s) (.slice a3 n3 c3) 24)
          replace BB := Lib.hid (BB.out.alloc (by first | omega | (simp; done) | (simp; omega)) (.cells #[.int .i64 s, .slice a3 n3 c3] 24))
          have O3P := Lib.hid (O3.out.alloc (.cells #[.int .i64 s, .slice a3 n3 c3] 24))
          have hzp : w3.heap.size + 1 ≤ (w3.alloc (.cells #[.int .i64 s, .slice a3 n3 c3] 24)).heap.size := by simp
          obtain ⟨wp, hwp⟩ : ∃ wp, wp = (w3.alloc (.cells #[.int .i64 s, .slice a3 n3 c3] 24)) := ⟨_, rfl⟩
          rw [← hwp] at R Q A C Z P O3P BB hzp
          go_wp2_with (at_builtin; rw [← hwp]; refine wpList_append_ints rfl _ _ 22 rfl w2.heap.size i0 Try.underlying22 hi hz0 hz1 hz2 _ _ _ rfl (show OwnV w2.heap.size wp _ n3 xs from O3P.out) _ _ _ ys rfl Q.out (by omega) (by omega) ?_)
          intro v' w5 ho' hg
          rw [← hwp] at hg
          have hb5 := below_appended5 (Below.refl w2.heap.size wp) (by omega) (show OwnV w2.heap.size wp _ n3 xs from O3P.out) hg
          have hblk : w5.heap[w3.heap.size]? = some (.cells #[.int .i64 s, .slice a3 n3 c3] 24) := by rw [hg.block _ (by omega) (O3.out.far (Nat.le_refl _)), hwp]; exact heap_alloc_new _ _
          have HP5 := Lib.hid (P.out.heap hg.size (hg.block _ (by omega) (O3.out.far (Nat.le_refl _))))
          have HA5 := Lib.hid (A.out.heap hb5.size (hb5.block _ (by omega)))
          have HC5 := Lib.hid (C.out.heap hb5.size (hb5.block _ (by omega)))
          have HZ5 := Lib.hid (Z.out.heap hb5.size (hb5.block _ (by omega)))
          have HB5 := Lib.hid (BB.out.trans (hb5.mono (by omega)))
          obtain ⟨av, cv, rfl, _⟩ := ho'.form
          have HO6 := Lib.hid (OwnV.setCell_other ho' (p := ⟨w3.heap.size, 1, none⟩) hblk (.slice av (n3 + m) cv))
          have hz5 : w3.heap.size + 1 ≤ w5.heap.size := Nat.le_trans hzp hg.size
          clear qA1 qA2 qA3 qA4 qA5 qC1 qC2 qC3 qC4 qC5 qZ1 qZ2 qZ3 qZ4 qZ5
          clear ho' hg hb5 hblk R Q A C Z P O3P BB O3
          clear hwp
          obtain ⟨y1, y2, y3, y4, y5⟩ := HP5.out
          obtain ⟨v1, v2, v3, v4, v5⟩ := HZ5.out
          go_wp2
          have HZ6 := Lib.hid (HZ5.out.setCell (p := ⟨w3.heap.size, 1, none⟩) (by simp; omega) (.slice av (n3 + m) cv))
          have HB6 := Lib.hid (HB5.out.setCell (p := ⟨w3.heap.size, 1, none⟩) (by simp; omega) (.slice av (n3 + m) cv))
          obtain ⟨_, e2, e3, _, _⟩ := HZ6.out.fill (.int .i64 s) (.slice av (n3 + m) cv)
          obtain ⟨_, _, e9, ho6⟩ := HO6.out.form
          cases e9
          refine bodyPost_ret (v := .tuple #[.agg #[.int .i64 s, .slice av (n3 + m) cv], .int .i64 0]) (by simp [results, Try.results12, go_sem, e2, e3]) rfl ⟨av, n3 + m, cv, rfl, by omega, ?_, ?_⟩
          · exact ((Own.setCell_below ho6 (by simp; omega) _).setCell_below (by simp; omega) _).mono (by omega)
          · exact (HB6.out.setCell (p := ⟨w.heap.size + 1 + 1, 0, none⟩) (by simp; omega) _).setCell (p := ⟨w.heap.size + 1 + 1, 1, none⟩) (by simp; omega) _
      · simp only [if_neg hlen, Prod.mk.injEq] at hM
        obtain ⟨rfl, rfl, rfl⟩ := hM
        have hlen2 : (200 : Int) < (n : Int) + (m : Int) := by omega
        go_enter Try.func12, Try.ntmps12
        replace R := Lib.hid (((R.out.alloc (.cells #[.int .i64 s, .slice a n cap] 24)).alloc (.cells #[.int .i64 t, .slice b m cap2] 24)).alloc (.cells #[.int .i64 0, .slice none 0 0] 24))
        replace Q := Lib.hid (((Q.out.alloc (.cells #[.int .i64 s, .slice a n cap] 24)).alloc (.cells #[.int .i64 t, .slice b m cap2] 24)).alloc (.cells #[.int .i64 0, .slice none 0 0] 24))
        have A := Lib.hid (((At2.new w (.int .i64 s) (.slice a n cap) 24).alloc (.cells #[.int .i64 t, .slice b m cap2] 24)).alloc (.cells #[.int .i64 0, .slice none 0 0] 24))
        have C := Lib.hid ((At2.place (w.alloc (.cells #[.int .i64 s, .slice a n cap] 24)) (.int .i64 t) (.slice b m cap2) 24 (w.heap.size + 1) (by simp)).alloc (.cells #[.int .i64 0, .slice none 0 0] 24))
        have Z := Lib.hid (At2.place ((w.alloc (.cells #[.int .i64 s, .slice a n cap] 24)).alloc (.cells #[.int .i64 t, .slice b m cap2] 24)) (.int .i64 0) (.slice none 0 0) 24 (w.heap.size + 1 + 1) (by simp))
        have BB := Lib.hid (below3 w (.cells #[.int .i64 s, .slice a n cap] 24) (.cells #[.int .i64 t, .slice b m cap2] 24) (.cells #[.int .i64 0, .slice none 0 0] 24))
        have RP := Lib.hid (readsB_pair _ (w.heap.size + 1 + 1 + 1) (by simp) s t a b n m cap cap2 xs ys R.out hn Q.out hn2)
        obtain ⟨qA1, qA2, qA3, qA4, qA5⟩ := A.out
        obtain ⟨qC1, qC2, qC3, qC4, qC5⟩ := C.out
        obtain ⟨qZ1, qZ2, qZ3, qZ4, qZ5⟩ := Z.out
        go_wp2_with fail
        refine (braidsCode_any _ _ _ _ _ RP.out (by omega)).mono ?_
        rintro e w2 ⟨rfl, hb⟩
        clear qA1 qA2 qA3 qA4 qA5 qC1 qC2 qC3 qC4 qC5 qZ1 qZ2 qZ3 qZ4 qZ5
        clear RP
        replace R := Lib.hid ((R.out.alloc _).below hb)
        replace Q := Lib.hid ((Q.out.alloc _).below hb)
        replace A := Lib.hid ((A.out.alloc _).below hb)
        replace C := Lib.hid ((C.out.alloc _).below hb)
        replace Z := Lib.hid ((Z.out.alloc _).below hb)
        replace BB := Lib.hid (below_go (BB.out.alloc BB.out.size _) hb (by have := BB.out.size; simp at *; omega))
        clear hb
        rw [HCD.out]
        have z2 : w.heap.size + 3 ≤ w2.heap.size := Z.out.1
        obtain ⟨qA1, qA2, qA3, qA4, qA5⟩ := A.out
        obtain ⟨qC1, qC2, qC3, qC4, qC5⟩ := C.out
        obtain ⟨qZ1, qZ2, qZ3, qZ4, qZ5⟩ := Z.out
        go_wp2
        obtain ⟨_, e2, e3, _, _⟩ := Z.out.fill (.int .i64 0) (.slice none 0 0)
        refine bodyPost_ret (v := .tuple #[.agg #[.int .i64 0, .slice none 0 0], .int .i64 3]) (by simp [results, Try.results12, go_sem, e2, e3]) rfl ⟨none, 0, 0, rfl, Nat.zero_le _, Own.nil _ _, ?_⟩
        exact (BB.out.setCell (p := ⟨w.heap.size + 1 + 1, 0, none⟩) (by simp; omega) _).setCell (p := ⟨w.heap.size + 1 + 1, 1, none⟩) (by simp; omega) _
    · rw [if_neg hst] at HCD0
      have HCD := HCD0; clear HCD0
      simp only [if_neg hst, Prod.mk.injEq] at hM
      obtain ⟨rfl, rfl, rfl⟩ := hM
      clear hst
      go_enter Try.func12, Try.ntmps12
      replace R := Lib.hid (((R.out.alloc (.cells #[.int .i64 s, .slice a n cap] 24)).alloc (.cells #[.int .i64 t, .slice b m cap2] 24)).alloc (.cells #[.int .i64 0, .slice none 0 0] 24))
      replace Q := Lib.hid (((Q.out.alloc (.cells #[.int .i64 s, .slice a n cap] 24)).alloc (.cells #[.int .i64 t, .slice b m cap2] 24)).alloc (.cells #[.int .i64 0, .slice none 0 0] 24))
      have A := Lib.hid (((At2.new w (.int .i64 s) (.slice a n cap) 24).alloc (.cells #[.int .i64 t, .slice b m cap2] 24)).alloc (.cells #[.int .i64 0, .slice none 0 0] 24))
      have C := Lib.hid ((At2.place (w.alloc (.cells #[.int .i64 s, .slice a n cap] 24)) (.int .i64 t) (.slice b m cap2) 24 (w.heap.size + 1) (by simp)).alloc (.cells #[.int .i64 0, .slice none 0 0] 24))
      have Z := Lib.hid (At2.place ((w.alloc (.cells #[.int .i64 s, .slice a n cap] 24)).alloc (.cells #[.int .i64 t, .slice b m cap2] 24)) (.int .i64 0) (.slice none 0 0) 24 (w.heap.size + 1 + 1) (by simp))
      have BB := Lib.hid (below3 w (.cells #[.int .i64 s, .slice a n cap] 24) (.cells #[.int .i64 t, .slice b m cap2] 24) (.cells #[.int .i64 0, .slice none 0 0] 24))
      have RP := Lib.hid (readsB_pair _ (w.heap.size + 1 + 1 + 1) (by simp) s t a b n m cap cap2 xs ys R.out hn Q.out hn2)
      obtain ⟨qA1, qA2, qA3, qA4, qA5⟩ := A.out
      obtain ⟨qC1, qC2, qC3, qC4, qC5⟩ := C.out
      obtain ⟨qZ1, qZ2, qZ3, qZ4, qZ5⟩ := Z.out
      go_wp2_with fail
      refine (braidsCode_any _ _ _ _ _ RP.out (by omega)).mono ?_
      rintro e w2 ⟨rfl, hb⟩
      clear qA1 qA2 qA3 qA4 qA5 qC1 qC2 qC3 qC4 qC5 qZ1 qZ2 qZ3 qZ4 qZ5
      clear RP
      replace R := Lib.hid ((R.out.alloc _).below hb)
      replace Q := Lib.hid ((Q.out.alloc _).below hb)
      replace A := Lib.hid ((A.out.alloc _).below hb)
      replace C := Lib.hid ((C.out.alloc _).below hb)
      replace Z := Lib.hid ((Z.out.alloc _).below hb)
      replace BB := Lib.hid (below_go (BB.out.alloc BB.out.size _) hb (by have := BB.out.size; simp at *; omega))
      clear hb
      rw [HCD.out]
      have z2 : w.heap.size + 3 ≤ w2.heap.size := Z.out.1
      obtain ⟨qA1, qA2, qA3, qA4, qA5⟩ := A.out
      obtain ⟨qC1, qC2, qC3, qC4, qC5⟩ := C.out
      obtain ⟨qZ1, qZ2, qZ3, qZ4, qZ5⟩ := Z.out
      go_wp2
      obtain ⟨_, e2, e3, _, _⟩ := Z.out.fill (.int .i64 0) (.slice none 0 0)
      refine bodyPost_ret (v := .tuple #[.agg #[.int .i64 0, .slice none 0 0], .int .i64 2]) (by simp [results, Try.results12, go_sem, e2, e3]) rfl ⟨none, 0, 0, rfl, Nat.zero_le _, Own.nil _ _, ?_⟩
      exact (BB.out.setCell (p := ⟨w.heap.size + 1 + 1, 0, none⟩) (by simp; omega) _).setCell (p := ⟨w.heap.size + 1 + 1, 1, none⟩) (by simp; omega) _
  · rw [if_neg hbr] at HCD0
    have HCD := HCD0; clear HCD0
    simp only [mProduct, if_neg hbr, Prod.mk.injEq] at hM
    obtain ⟨rfl, rfl, rfl⟩ := hM
    clear hbr
    go_enter Try.func12, Try.ntmps12
    replace R := Lib.hid (((R.out.alloc (.cells #[.int .i64 s, .slice a n cap] 24)).alloc (.cells #[.int .i64 t, .slice b m cap2] 24)).alloc (.cells #[.int .i64 0, .slice none 0 0] 24))
    replace Q := Lib.hid (((Q.out.alloc (.cells #[.int .i64 s, .slice a n cap] 24)).alloc (.cells #[.int .i64 t, .slice b m cap2] 24)).alloc (.cells #[.int .i64 0, .slice none 0 0] 24))
    have A := Lib.hid (((At2.new w (.int .i64 s) (.slice a n cap) 24).alloc (.cells #[.int .i64 t, .slice b m cap2] 24)).alloc (.cells #[.int .i64 0, .slice none 0 0] 24))
    have C := Lib.hid ((At2.place (w.alloc (.cells #[.int .i64 s, .slice a n cap] 24)) (.int .i64 t) (.slice b m cap2) 24 (w.heap.size + 1) (by simp)).alloc (.cells #[.int .i64 0, .slice none 0 0] 24))
    have Z := Lib.hid (At2.place ((w.alloc (.cells #[.int .i64 s, .slice a n cap] 24)).alloc (.cells #[.int .i64 t, .slice b m cap2] 24)) (.int .i64 0) (.slice none 0 0) 24 (w.heap.size + 1 + 1) (by simp))
    have BB := Lib.hid (below3 w (.cells #[.int .i64 s, .slice a n cap] 24) (.cells #[.int .i64 t, .slice b m cap2] 24) (.cells #[.int .i64 0, .slice none 0 0] 24))
    have RP := Lib.hid (readsB_pair _ (w.heap.size + 1 + 1 + 1) (by simp) s t a b n m cap cap2 xs ys R.out hn Q.out hn2)
    obtain ⟨qA1, qA2, qA3, qA4, qA5⟩ := A.out
    obtain ⟨qC1, qC2, qC3, qC4, qC5⟩ := C.out
    obtain ⟨qZ1, qZ2, qZ3, qZ4, qZ5⟩ := Z.out
    go_wp2_with fail
    refine (braidsCode_any _ _ _ _ _ RP.out (by omega)).mono ?_
    rintro e w2 ⟨rfl, hb⟩
    clear qA1 qA2 qA3 qA4 qA5 qC1 qC2 qC3 qC4 qC5 qZ1 qZ2 qZ3 qZ4 qZ5
    clear RP
    replace R := Lib.hid ((R.out.alloc _).below hb)
    replace Q := Lib.hid ((Q.out.alloc _).below hb)
    replace A := Lib.hid ((A.out.alloc _).below hb)
    replace C := Lib.hid ((C.out.alloc _).below hb)
    replace Z := Lib.hid ((Z.out.alloc _).below hb)
    replace BB := Lib.hid (below_go (BB.out.alloc BB.out.size _) hb (by have := BB.out.size; simp at *; omega))
    clear hb
    rw [HCD.out]
    have z2 : w.heap.size + 3 ≤ w2.heap.size := Z.out.1
    obtain ⟨qA1, qA2, qA3, qA4, qA5⟩ := A.out
    obtain ⟨qC1, qC2, qC3, qC4, qC5⟩ := C.out
    obtain ⟨qZ1, qZ2, qZ3, qZ4, qZ5⟩ := Z.out
    go_wp2
    obtain ⟨_, e2, e3, _, _⟩ := Z.out.fill (.int .i64 0) (.slice none 0 0)
    refine bodyPost_ret (v := .tuple #[.agg #[.int .i64 0, .slice none 0 0], .int .i64 1]) (by simp [results, Try.results12, go_sem, e2, e3]) rfl ⟨none, 0, 0, rfl, Nat.zero_le _, Own.nil _ _, ?_⟩
    exact (BB.out.setCell (p := ⟨w.heap.size + 1 + 1, 0, none⟩) (by simp; omega) _).setCell (p := ⟨w.heap.size + 1 + 1, 1, none⟩) (by simp; omega) _

end Go.Proofs.Yteafnbkdejkjiaa
