/- The products of braids: the model's answer. -/
import Derived.Test.YtckdhnpnkgmikaaRep
import Derived.Test.YtckdhnpnkgmikaaStepA
namespace Go.Proofs.Ytckdhnpnkgmikaa
open Go.RowKit Go.ChangeShapes

/-- The product of two braids, and the code. -/
def mProduct (s : Int) (xs : List Int) (t : Int) (ys : List Int) : Int × List Int × Int :=
  if isBraid s xs = true ∧ isBraid t ys = true then (if s = t then (if xs.length + ys.length ≤ 200 then (s, xs ++ ys, 0) else (0, [], 3)) else (0, [], 2)) else (0, [], 1)

set_option maxHeartbeats 2000000 in
theorem specProduct_any {s : Int} {a : Option Addr} {n cap : Nat} {xs : List Int} {t : Int} {b : Option Addr} {m cap2 : Nat} {ys : List Int} {w : World} {fs : Int} {fxs : List Int} {fc : Int} (hr : Reads w a n xs) (hf : Fits xs) (hn : n ≤ 1048576) (hr2 : Reads w b m ys) (hf2 : Fits ys) (hn2 : m ≤ 1048576) (hM : mProduct s xs t ys = (fs, fxs, fc)) :
    Calls Try.prog 25 #[.agg #[.int .i64 s, .slice a n cap], .agg #[.int .i64 t, .slice b m cap2]] w (RetBraid w fs fxs fc) := by
  obtain ⟨i0, hi, hz0, hz1, hz2⟩ := info_parts infoInt
  have HRO := Lib.hid hr.old
  have HSO := Lib.hid hr2.old
  have R := Lib.hid hr; clear hr
  have Q := Lib.hid hr2; clear hr2
  have HF := Lib.hid hf; clear hf
  have HG := Lib.hid hf2; clear hf2
  have HL := Lib.hid R.out.len
  have HM2 := Lib.hid Q.out.len
  by_cases hbr : isBraid s xs = true
  · by_cases hbr2 : isBraid t ys = true
    · have hn200 : n ≤ 200 := by have := HL.out; have := len_of_isBraid _ _ hbr; omega
      have hm200 : m ≤ 200 := by have := HM2.out; have := len_of_isBraid _ _ hbr2; omega
      simp only [mProduct, if_pos (show isBraid s xs = true ∧ isBraid t ys = true from ⟨hbr, hbr2⟩)] at hM
      by_cases hst : s = t
      · rw [if_pos hst, HL.out, HM2.out] at hM
        have t1 : (s != t) = false := by simp [hst]
        have HST := Lib.hid hst; clear hst
        by_cases hlen : n + m ≤ 200
        · simp only [if_pos hlen, Prod.mk.injEq] at hM
          obtain ⟨rfl, rfl, rfl⟩ := hM
          go_enter Try.func25, Try.ntmps25
          replace R := Lib.hid (R.out.alloc (.cells #[.int .i64 s, .slice a n cap] 28))
          replace Q := Lib.hid (Q.out.alloc (.cells #[.int .i64 s, .slice a n cap] 28))
          have A := Lib.hid (At2.new w (.int .i64 s) (.slice a n cap) 28)
          have BB := Lib.hid (below1 w (.cells #[.int .i64 s, .slice a n cap] 28))
          replace R := Lib.hid (R.out.alloc (.cells #[.int .i64 t, .slice b m cap2] 28))
          replace Q := Lib.hid (Q.out.alloc (.cells #[.int .i64 t, .slice b m cap2] 28))
          replace A := Lib.hid (A.out.alloc (.cells #[.int .i64 t, .slice b m cap2] 28))
          have C := Lib.hid (At2.place (w.alloc (.cells #[.int .i64 s, .slice a n cap] 28)) (.int .i64 t) (.slice b m cap2) 28 (w.heap.size + 1) (by simp))
          replace BB := Lib.hid (BB.out.alloc (by first | omega | (simp; done) | (simp; omega)) (.cells #[.int .i64 t, .slice b m cap2] 28))
          replace R := Lib.hid (R.out.alloc (.cells #[.int .i64 0, .slice none 0 0] 28))
          replace Q := Lib.hid (Q.out.alloc (.cells #[.int .i64 0, .slice none 0 0] 28))
          replace A := Lib.hid (A.out.alloc (.cells #[.int .i64 0, .slice none 0 0] 28))
          replace C := Lib.hid (C.out.alloc (.cells #[.int .i64 0, .slice none 0 0] 28))
          have Z := Lib.hid (At2.place ((w.alloc (.cells #[.int .i64 s, .slice a n cap] 28)).alloc (.cells #[.int .i64 t, .slice b m cap2] 28)) (.int .i64 0) (.slice none 0 0) 28 (w.heap.size + 1 + 1) (by simp))
          replace BB := Lib.hid (BB.out.alloc (by first | omega | (simp; done) | (simp; omega)) (.cells #[.int .i64 0, .slice none 0 0] 28))
          go_wp2_with fail
          refine (l01Is_any _ _ _ _ xs _ R.out HF.out hn).mono ?_
          rintro e w1 ⟨rfl, hb⟩
          replace R := Lib.hid (R.out.below hb)
          replace Q := Lib.hid (Q.out.below hb)
          replace A := Lib.hid (A.out.below hb)
          replace C := Lib.hid (C.out.below hb)
          replace Z := Lib.hid (Z.out.below hb)
          have z1 : w.heap.size + 3 ≤ w1.heap.size := by have := hb.size; simp at this; omega
          replace BB := Lib.hid (below_go BB.out hb (by first | omega | (simp; done) | (simp; omega)))
          clear hb
          obtain ⟨qA1, qA2, qA3, qA4, qA5⟩ := A.out
          obtain ⟨qC1, qC2, qC3, qC4, qC5⟩ := C.out
          obtain ⟨qZ1, qZ2, qZ3, qZ4, qZ5⟩ := Z.out
          go_wp2_with fail
          refine (l01Is_any _ _ _ _ ys _ Q.out HG.out hn2).mono ?_
          rintro e w2 ⟨rfl, hb⟩
          clear qA1 qA2 qA3 qA4 qA5 qC1 qC2 qC3 qC4 qC5 qZ1 qZ2 qZ3 qZ4 qZ5
          replace R := Lib.hid (R.out.below hb)
          replace Q := Lib.hid (Q.out.below hb)
          replace A := Lib.hid (A.out.below hb)
          replace C := Lib.hid (C.out.below hb)
          replace Z := Lib.hid (Z.out.below hb)
          have z2 : w1.heap.size ≤ w2.heap.size := hb.size
          replace BB := Lib.hid (below_go BB.out hb (by omega))
          clear hb
          obtain ⟨qA1, qA2, qA3, qA4, qA5⟩ := A.out
          obtain ⟨qC1, qC2, qC3, qC4, qC5⟩ := C.out
          obtain ⟨qZ1, qZ2, qZ3, qZ4, qZ5⟩ := Z.out
          have hzl : w.heap.size + 3 ≤ w2.heap.size := by omega
          have hzQ : Hid (ReadsIn 0 w.heap.size w2 b m ys) := Lib.hid ⟨Q.out, HSO.out.2⟩
          go_wp2
          go_region_held3 (fun w' => w'.cell? ⟨w.heap.size, 0, none⟩ = some (.int .i64 s) ∧ w'.cell? ⟨w.heap.size, 1, none⟩ = some (.slice a n cap) ∧ w'.cell? ⟨w.heap.size + 1, 0, none⟩ = some (.int .i64 t) ∧ w'.cell? ⟨w.heap.size + 1, 1, none⟩ = some (.slice b m cap2)) (first | exact ⟨qA2, qA3, qC2, qC3⟩ | exact ⟨rA2, rA3, rC2, rC3⟩ | exact ⟨uA2, uA3, uC2, uC3⟩ | exact ⟨(hA4.setCell2 (by omega) _ _).2.1, (hA4.setCell2 (by omega) _ _).2.2.1, (hC4.setCell2 (by omega) _ _).2.1, (hC4.setCell2 (by omega) _ _).2.2.1⟩ | go_keep)
            (first
              | (go_at_call 41; refine (l01Own_any _ _ _ _ _ R.out.drew hn).mono ?_; rintro e w3 ⟨a3, c3, rfl, ho, hb⟩; obtain ⟨rA1, rA2, rA3, rA4, rA5⟩ := A.out.drew.below hb; obtain ⟨rC1, rC2, rC3, rC4, rC5⟩ := C.out.drew.below hb; obtain ⟨rZ1, rZ2, rZ3, rZ4, rZ5⟩ := Z.out.drew.below hb)
              | (refine step_append_ints rfl _ _ 22 rfl w2.heap.size i0 Try.underlying22 hi hz0 hz1 hz2 _ _ _ rfl (show OwnV w2.heap.size w3 _ n xs from ho) _ _ _ ys rfl (Q.out.drew.below hb) (by omega) (by exact hb.size) ?_; intro a4 c4 w4 ho4 hg4; have hb4 := below_appended5 (Below.refl w2.heap.size w3) (by exact hb.size) (show OwnV w2.heap.size w3 _ n xs from ho) hg4; have hA4 := (A.out.drew.below hb).heap hb4.size (hb4.block _ (by omega)); have hC4 := (C.out.drew.below hb).heap hb4.size (hb4.block _ (by omega)); obtain ⟨uA1, uA2, uA3, uA4, uA5⟩ := hA4; obtain ⟨uC1, uC2, uC3, uC4, uC5⟩ := hC4; have hA4 := (A.out.drew.below hb).heap hb4.size (hb4.block _ (by omega)); have hC4 := (C.out.drew.below hb).heap hb4.size (hb4.block _ (by omega)); obtain ⟨uZ1, uZ2, uZ3, uZ4, uZ5⟩ := (Z.out.drew.below hb).heap hb4.size (hb4.block _ (by omega))))
          go_wp2
          have HZ4 := (Z.out.drew.below hb).heap hb4.size (hb4.block _ (by omega))
          have HB4 := (below_go BB.out.drew hb (by show _ ≤ w2.heap.size; omega)).trans (hb4.mono (by omega))
          obtain ⟨_, e2, e3, _, _⟩ := HZ4.fill (.int .i64 s) (.slice a4 (n + m) c4)
          refine bodyPost_ret (v := .tuple #[.agg #[.int .i64 s, .slice a4 (n + m) c4], .int .i64 0]) (by simp [results, Try.results25, go_sem, e2, e3]) rfl ⟨a4, n + m, c4, rfl, by omega, ?_, ?_⟩
          · exact ((ho4.setCell_below (by simp; omega) _).setCell_below (by simp; omega) _).mono (by omega)
          · exact (HB4.setCell (p := ⟨w.heap.size + 1 + 1, 0, none⟩) (by simp; omega) _).setCell (p := ⟨w.heap.size + 1 + 1, 1, none⟩) (by simp; omega) _
        · simp only [if_neg hlen, Prod.mk.injEq] at hM
          obtain ⟨rfl, rfl, rfl⟩ := hM
          go_enter Try.func25, Try.ntmps25
          replace R := Lib.hid (R.out.alloc (.cells #[.int .i64 s, .slice a n cap] 28))
          replace Q := Lib.hid (Q.out.alloc (.cells #[.int .i64 s, .slice a n cap] 28))
          have A := Lib.hid (At2.new w (.int .i64 s) (.slice a n cap) 28)
          have BB := Lib.hid (below1 w (.cells #[.int .i64 s, .slice a n cap] 28))
          replace R := Lib.hid (R.out.alloc (.cells #[.int .i64 t, .slice b m cap2] 28))
          replace Q := Lib.hid (Q.out.alloc (.cells #[.int .i64 t, .slice b m cap2] 28))
          replace A := Lib.hid (A.out.alloc (.cells #[.int .i64 t, .slice b m cap2] 28))
          have C := Lib.hid (At2.place (w.alloc (.cells #[.int .i64 s, .slice a n cap] 28)) (.int .i64 t) (.slice b m cap2) 28 (w.heap.size + 1) (by simp))
          replace BB := Lib.hid (BB.out.alloc (by first | omega | (simp; done) | (simp; omega)) (.cells #[.int .i64 t, .slice b m cap2] 28))
          replace R := Lib.hid (R.out.alloc (.cells #[.int .i64 0, .slice none 0 0] 28))
          replace Q := Lib.hid (Q.out.alloc (.cells #[.int .i64 0, .slice none 0 0] 28))
          replace A := Lib.hid (A.out.alloc (.cells #[.int .i64 0, .slice none 0 0] 28))
          replace C := Lib.hid (C.out.alloc (.cells #[.int .i64 0, .slice none 0 0] 28))
          have Z := Lib.hid (At2.place ((w.alloc (.cells #[.int .i64 s, .slice a n cap] 28)).alloc (.cells #[.int .i64 t, .slice b m cap2] 28)) (.int .i64 0) (.slice none 0 0) 28 (w.heap.size + 1 + 1) (by simp))
          replace BB := Lib.hid (BB.out.alloc (by first | omega | (simp; done) | (simp; omega)) (.cells #[.int .i64 0, .slice none 0 0] 28))
          go_wp2_with fail
          refine (l01Is_any _ _ _ _ xs _ R.out HF.out hn).mono ?_
          rintro e w1 ⟨rfl, hb⟩
          replace R := Lib.hid (R.out.below hb)
          replace Q := Lib.hid (Q.out.below hb)
          replace A := Lib.hid (A.out.below hb)
          replace C := Lib.hid (C.out.below hb)
          replace Z := Lib.hid (Z.out.below hb)
          have z1 : w.heap.size + 3 ≤ w1.heap.size := by have := hb.size; simp at this; omega
          replace BB := Lib.hid (below_go BB.out hb (by first | omega | (simp; done) | (simp; omega)))
          clear hb
          obtain ⟨qA1, qA2, qA3, qA4, qA5⟩ := A.out
          obtain ⟨qC1, qC2, qC3, qC4, qC5⟩ := C.out
          obtain ⟨qZ1, qZ2, qZ3, qZ4, qZ5⟩ := Z.out
          go_wp2_with fail
          refine (l01Is_any _ _ _ _ ys _ Q.out HG.out hn2).mono ?_
          rintro e w2 ⟨rfl, hb⟩
          clear qA1 qA2 qA3 qA4 qA5 qC1 qC2 qC3 qC4 qC5 qZ1 qZ2 qZ3 qZ4 qZ5
          replace R := Lib.hid (R.out.below hb)
          replace Q := Lib.hid (Q.out.below hb)
          replace A := Lib.hid (A.out.below hb)
          replace C := Lib.hid (C.out.below hb)
          replace Z := Lib.hid (Z.out.below hb)
          have z2 : w1.heap.size ≤ w2.heap.size := hb.size
          replace BB := Lib.hid (below_go BB.out hb (by omega))
          clear hb
          obtain ⟨qA1, qA2, qA3, qA4, qA5⟩ := A.out
          obtain ⟨qC1, qC2, qC3, qC4, qC5⟩ := C.out
          obtain ⟨qZ1, qZ2, qZ3, qZ4, qZ5⟩ := Z.out
          go_wp2
          obtain ⟨_, e2, e3, _, _⟩ := Z.out.fill (.int .i64 0) (.slice none 0 0)
          refine bodyPost_ret (v := .tuple #[.agg #[.int .i64 0, .slice none 0 0], .int .i64 3]) (by simp [results, Try.results25, go_sem, e2, e3]) rfl ⟨none, 0, 0, rfl, Nat.zero_le _, Own.nil _ _, ?_⟩
          exact (BB.out.setCell (p := ⟨w.heap.size + 1 + 1, 0, none⟩) (by simp; omega) _).setCell (p := ⟨w.heap.size + 1 + 1, 1, none⟩) (by simp; omega) _
      · simp only [if_neg hst, Prod.mk.injEq] at hM
        obtain ⟨rfl, rfl, rfl⟩ := hM
        have t1 : (s != t) = true := by simp [hst]
        have HST := Lib.hid hst; clear hst
        go_enter Try.func25, Try.ntmps25
        replace R := Lib.hid (R.out.alloc (.cells #[.int .i64 s, .slice a n cap] 28))
        replace Q := Lib.hid (Q.out.alloc (.cells #[.int .i64 s, .slice a n cap] 28))
        have A := Lib.hid (At2.new w (.int .i64 s) (.slice a n cap) 28)
        have BB := Lib.hid (below1 w (.cells #[.int .i64 s, .slice a n cap] 28))
        replace R := Lib.hid (R.out.alloc (.cells #[.int .i64 t, .slice b m cap2] 28))
        replace Q := Lib.hid (Q.out.alloc (.cells #[.int .i64 t, .slice b m cap2] 28))
        replace A := Lib.hid (A.out.alloc (.cells #[.int .i64 t, .slice b m cap2] 28))
        have C := Lib.hid (At2.place (w.alloc (.cells #[.int .i64 s, .slice a n cap] 28)) (.int .i64 t) (.slice b m cap2) 28 (w.heap.size + 1) (by simp))
        replace BB := Lib.hid (BB.out.alloc (by first | omega | (simp; done) | (simp; omega)) (.cells #[.int .i64 t, .slice b m cap2] 28))
        replace R := Lib.hid (R.out.alloc (.cells #[.int .i64 0, .slice none 0 0] 28))
        replace Q := Lib.hid (Q.out.alloc (.cells #[.int .i64 0, .slice none 0 0] 28))
        replace A := Lib.hid (A.out.alloc (.cells #[.int .i64 0, .slice none 0 0] 28))
        replace C := Lib.hid (C.out.alloc (.cells #[.int .i64 0, .slice none 0 0] 28))
        have Z := Lib.hid (At2.place ((w.alloc (.cells #[.int .i64 s, .slice a n cap] 28)).alloc (.cells #[.int .i64 t, .slice b m cap2] 28)) (.int .i64 0) (.slice none 0 0) 28 (w.heap.size + 1 + 1) (by simp))
        replace BB := Lib.hid (BB.out.alloc (by first | omega | (simp; done) | (simp; omega)) (.cells #[.int .i64 0, .slice none 0 0] 28))
        go_wp2_with fail
        refine (l01Is_any _ _ _ _ xs _ R.out HF.out hn).mono ?_
        rintro e w1 ⟨rfl, hb⟩
        replace R := Lib.hid (R.out.below hb)
        replace Q := Lib.hid (Q.out.below hb)
        replace A := Lib.hid (A.out.below hb)
        replace C := Lib.hid (C.out.below hb)
        replace Z := Lib.hid (Z.out.below hb)
        have z1 : w.heap.size + 3 ≤ w1.heap.size := by have := hb.size; simp at this; omega
        replace BB := Lib.hid (below_go BB.out hb (by first | omega | (simp; done) | (simp; omega)))
        clear hb
        obtain ⟨qA1, qA2, qA3, qA4, qA5⟩ := A.out
        obtain ⟨qC1, qC2, qC3, qC4, qC5⟩ := C.out
        obtain ⟨qZ1, qZ2, qZ3, qZ4, qZ5⟩ := Z.out
        go_wp2_with fail
        refine (l01Is_any _ _ _ _ ys _ Q.out HG.out hn2).mono ?_
        rintro e w2 ⟨rfl, hb⟩
        clear qA1 qA2 qA3 qA4 qA5 qC1 qC2 qC3 qC4 qC5 qZ1 qZ2 qZ3 qZ4 qZ5
        replace R := Lib.hid (R.out.below hb)
        replace Q := Lib.hid (Q.out.below hb)
        replace A := Lib.hid (A.out.below hb)
        replace C := Lib.hid (C.out.below hb)
        replace Z := Lib.hid (Z.out.below hb)
        have z2 : w1.heap.size ≤ w2.heap.size := hb.size
        replace BB := Lib.hid (below_go BB.out hb (by omega))
        clear hb
        obtain ⟨qA1, qA2, qA3, qA4, qA5⟩ := A.out
        obtain ⟨qC1, qC2, qC3, qC4, qC5⟩ := C.out
        obtain ⟨qZ1, qZ2, qZ3, qZ4, qZ5⟩ := Z.out
        go_wp2
        obtain ⟨_, e2, e3, _, _⟩ := Z.out.fill (.int .i64 0) (.slice none 0 0)
        refine bodyPost_ret (v := .tuple #[.agg #[.int .i64 0, .slice none 0 0], .int .i64 2]) (by simp [results, Try.results25, go_sem, e2, e3]) rfl ⟨none, 0, 0, rfl, Nat.zero_le _, Own.nil _ _, ?_⟩
        exact (BB.out.setCell (p := ⟨w.heap.size + 1 + 1, 0, none⟩) (by simp; omega) _).setCell (p := ⟨w.heap.size + 1 + 1, 1, none⟩) (by simp; omega) _
    · have hb0 : isBraid t ys = false := by simpa using hbr2
      simp only [mProduct, if_neg (show ¬ (isBraid s xs = true ∧ isBraid t ys = true) from fun h => hbr2 h.2), Prod.mk.injEq] at hM
      obtain ⟨rfl, rfl, rfl⟩ := hM
      clear hbr2
      go_enter Try.func25, Try.ntmps25
      replace R := Lib.hid (R.out.alloc (.cells #[.int .i64 s, .slice a n cap] 28))
      replace Q := Lib.hid (Q.out.alloc (.cells #[.int .i64 s, .slice a n cap] 28))
      have A := Lib.hid (At2.new w (.int .i64 s) (.slice a n cap) 28)
      have BB := Lib.hid (below1 w (.cells #[.int .i64 s, .slice a n cap] 28))
      replace R := Lib.hid (R.out.alloc (.cells #[.int .i64 t, .slice b m cap2] 28))
      replace Q := Lib.hid (Q.out.alloc (.cells #[.int .i64 t, .slice b m cap2] 28))
      replace A := Lib.hid (A.out.alloc (.cells #[.int .i64 t, .slice b m cap2] 28))
      have C := Lib.hid (At2.place (w.alloc (.cells #[.int .i64 s, .slice a n cap] 28)) (.int .i64 t) (.slice b m cap2) 28 (w.heap.size + 1) (by simp))
      replace BB := Lib.hid (BB.out.alloc (by first | omega | (simp; done) | (simp; omega)) (.cells #[.int .i64 t, .slice b m cap2] 28))
      replace R := Lib.hid (R.out.alloc (.cells #[.int .i64 0, .slice none 0 0] 28))
      replace Q := Lib.hid (Q.out.alloc (.cells #[.int .i64 0, .slice none 0 0] 28))
      replace A := Lib.hid (A.out.alloc (.cells #[.int .i64 0, .slice none 0 0] 28))
      replace C := Lib.hid (C.out.alloc (.cells #[.int .i64 0, .slice none 0 0] 28))
      have Z := Lib.hid (At2.place ((w.alloc (.cells #[.int .i64 s, .slice a n cap] 28)).alloc (.cells #[.int .i64 t, .slice b m cap2] 28)) (.int .i64 0) (.slice none 0 0) 28 (w.heap.size + 1 + 1) (by simp))
      replace BB := Lib.hid (BB.out.alloc (by first | omega | (simp; done) | (simp; omega)) (.cells #[.int .i64 0, .slice none 0 0] 28))
      go_wp2_with fail
      refine (l01Is_any _ _ _ _ xs _ R.out HF.out hn).mono ?_
      rintro e w1 ⟨rfl, hb⟩
      replace R := Lib.hid (R.out.below hb)
      replace Q := Lib.hid (Q.out.below hb)
      replace A := Lib.hid (A.out.below hb)
      replace C := Lib.hid (C.out.below hb)
      replace Z := Lib.hid (Z.out.below hb)
      have z1 : w.heap.size + 3 ≤ w1.heap.size := by have := hb.size; simp at this; omega
      replace BB := Lib.hid (below_go BB.out hb (by first | omega | (simp; done) | (simp; omega)))
      clear hb
      obtain ⟨qA1, qA2, qA3, qA4, qA5⟩ := A.out
      obtain ⟨qC1, qC2, qC3, qC4, qC5⟩ := C.out
      obtain ⟨qZ1, qZ2, qZ3, qZ4, qZ5⟩ := Z.out
      go_wp2_with fail
      refine (l01Is_any _ _ _ _ ys _ Q.out HG.out hn2).mono ?_
      rintro e w2 ⟨rfl, hb⟩
      clear qA1 qA2 qA3 qA4 qA5 qC1 qC2 qC3 qC4 qC5 qZ1 qZ2 qZ3 qZ4 qZ5
      replace R := Lib.hid (R.out.below hb)
      replace Q := Lib.hid (Q.out.below hb)
      replace A := Lib.hid (A.out.below hb)
      replace C := Lib.hid (C.out.below hb)
      replace Z := Lib.hid (Z.out.below hb)
      have z2 : w1.heap.size ≤ w2.heap.size := hb.size
      replace BB := Lib.hid (below_go BB.out hb (by omega))
      clear hb
      obtain ⟨qA1, qA2, qA3, qA4, qA5⟩ := A.out
      obtain ⟨qC1, qC2, qC3, qC4, qC5⟩ := C.out
      obtain ⟨qZ1, qZ2, qZ3, qZ4, qZ5⟩ := Z.out
      go_wp2
      obtain ⟨_, e2, e3, _, _⟩ := Z.out.fill (.int .i64 0) (.slice none 0 0)
      refine bodyPost_ret (v := .tuple #[.agg #[.int .i64 0, .slice none 0 0], .int .i64 1]) (by simp [results, Try.results25, go_sem, e2, e3]) rfl ⟨none, 0, 0, rfl, Nat.zero_le _, Own.nil _ _, ?_⟩
      exact (BB.out.setCell (p := ⟨w.heap.size + 1 + 1, 0, none⟩) (by simp; omega) _).setCell (p := ⟨w.heap.size + 1 + 1, 1, none⟩) (by simp; omega) _
  · have hb0 : isBraid s xs = false := by simpa using hbr
    simp only [mProduct, if_neg (show ¬ (isBraid s xs = true ∧ isBraid t ys = true) from fun h => hbr h.1), Prod.mk.injEq] at hM
    obtain ⟨rfl, rfl, rfl⟩ := hM
    clear hbr
    go_enter Try.func25, Try.ntmps25
    replace R := Lib.hid (R.out.alloc (.cells #[.int .i64 s, .slice a n cap] 28))
    replace Q := Lib.hid (Q.out.alloc (.cells #[.int .i64 s, .slice a n cap] 28))
    have A := Lib.hid (At2.new w (.int .i64 s) (.slice a n cap) 28)
    have BB := Lib.hid (below1 w (.cells #[.int .i64 s, .slice a n cap] 28))
    replace R := Lib.hid (R.out.alloc (.cells #[.int .i64 t, .slice b m cap2] 28))
    replace Q := Lib.hid (Q.out.alloc (.cells #[.int .i64 t, .slice b m cap2] 28))
    replace A := Lib.hid (A.out.alloc (.cells #[.int .i64 t, .slice b m cap2] 28))
    have C := Lib.hid (At2.place (w.alloc (.cells #[.int .i64 s, .slice a n cap] 28)) (.int .i64 t) (.slice b m cap2) 28 (w.heap.size + 1) (by simp))
    replace BB := Lib.hid (BB.out.alloc (by first | omega | (simp; done) | (simp; omega)) (.cells #[.int .i64 t, .slice b m cap2] 28))
    replace R := Lib.hid (R.out.alloc (.cells #[.int .i64 0, .slice none 0 0] 28))
    replace Q := Lib.hid (Q.out.alloc (.cells #[.int .i64 0, .slice none 0 0] 28))
    replace A := Lib.hid (A.out.alloc (.cells #[.int .i64 0, .slice none 0 0] 28))
    replace C := Lib.hid (C.out.alloc (.cells #[.int .i64 0, .slice none 0 0] 28))
    have Z := Lib.hid (At2.place ((w.alloc (.cells #[.int .i64 s, .slice a n cap] 28)).alloc (.cells #[.int .i64 t, .slice b m cap2] 28)) (.int .i64 0) (.slice none 0 0) 28 (w.heap.size + 1 + 1) (by simp))
    replace BB := Lib.hid (BB.out.alloc (by first | omega | (simp; done) | (simp; omega)) (.cells #[.int .i64 0, .slice none 0 0] 28))
    go_wp2_with fail
    refine (l01Is_any _ _ _ _ xs _ R.out HF.out hn).mono ?_
    rintro e w1 ⟨rfl, hb⟩
    replace R := Lib.hid (R.out.below hb)
    replace Q := Lib.hid (Q.out.below hb)
    replace A := Lib.hid (A.out.below hb)
    replace C := Lib.hid (C.out.below hb)
    replace Z := Lib.hid (Z.out.below hb)
    have z1 : w.heap.size + 3 ≤ w1.heap.size := by have := hb.size; simp at this; omega
    replace BB := Lib.hid (below_go BB.out hb (by first | omega | (simp; done) | (simp; omega)))
    clear hb
    obtain ⟨qA1, qA2, qA3, qA4, qA5⟩ := A.out
    obtain ⟨qC1, qC2, qC3, qC4, qC5⟩ := C.out
    obtain ⟨qZ1, qZ2, qZ3, qZ4, qZ5⟩ := Z.out
    go_wp2
    obtain ⟨_, e2, e3, _, _⟩ := Z.out.fill (.int .i64 0) (.slice none 0 0)
    refine bodyPost_ret (v := .tuple #[.agg #[.int .i64 0, .slice none 0 0], .int .i64 1]) (by simp [results, Try.results25, go_sem, e2, e3]) rfl ⟨none, 0, 0, rfl, Nat.zero_le _, Own.nil _ _, ?_⟩
    exact (BB.out.setCell (p := ⟨w.heap.size + 1 + 1, 0, none⟩) (by simp; omega) _).setCell (p := ⟨w.heap.size + 1 + 1, 1, none⟩) (by simp; omega) _

end Go.Proofs.Ytckdhnpnkgmikaa
