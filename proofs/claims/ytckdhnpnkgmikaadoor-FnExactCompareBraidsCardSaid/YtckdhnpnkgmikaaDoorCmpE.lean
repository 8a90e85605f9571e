/- Braids are compared: the exported functions, the model's and the program's. -/
import Derived.Test.YtckdhnpnkgmikaaDoorCmp
import Derived.Test.YtckdhnpnkgmikaaDoorBrs
import Derived.Test.YtckdhnpnkgmikaaDoorHfr
namespace Go.Proofs.YtckdhnpnkgmikaaDoor
open Go.RowKit Go.ChangeShapes

/-- How two braids compare, and the code. -/
def mCmp (s : Int) (xs : List Int) (t : Int) (ys : List Int) : Int × Int :=
  if isBraid s xs = true ∧ isBraid t ys = true then (if s = t then (match cmpL xs ys with | none => (0, 3) | some v => (v, 0)) else (0, 2)) else (0, 1)

set_option maxRecDepth 100000 in
set_option maxHeartbeats 1000000 in
theorem specCmpB_any {s : Int} {a : Option Addr} {n cap : Nat} {xs : List Int} {t : Int} {b : Option Addr} {m cap2 : Nat} {ys : List Int} {w : World} {fv fc : Int} (hr : Reads w a n xs) (hf : Fits xs) (hn : n ≤ 1048576) (hr2 : Reads w b m ys) (hf2 : Fits ys) (hn2 : m ≤ 1048576) (hM : mCmp s xs t ys = (fv, fc)) :
    Calls Tryd.prog 20 #[.agg #[.int .i64 s, .slice a n cap], .agg #[.int .i64 t, .slice b m cap2]] w fun e w' => e = .returned (.tuple #[.int .i64 fv, .int .i64 fc]) ∧ Below w.heap.size w w' := by
  have HF := Lib.hid hf; clear hf
  have HF2 := Lib.hid hf2; clear hf2
  have R := Lib.hid ((hr.alloc (.cells #[.int .i64 s, .slice a n cap] 26)).alloc (.cells #[.int .i64 t, .slice b m cap2] 26))
  have Q := Lib.hid ((hr2.alloc (.cells #[.int .i64 s, .slice a n cap] 26)).alloc (.cells #[.int .i64 t, .slice b m cap2] 26))
  have A := Lib.hid ((At2.new w (.int .i64 s) (.slice a n cap) 26).alloc (.cells #[.int .i64 t, .slice b m cap2] 26))
  have C := Lib.hid (At2.place (w.alloc (.cells #[.int .i64 s, .slice a n cap] 26)) (.int .i64 t) (.slice b m cap2) 26 (w.heap.size + 1) (by simp))
  have BB := Lib.hid (below2 w (.cells #[.int .i64 s, .slice a n cap] 26) (.cells #[.int .i64 t, .slice b m cap2] 26))
  clear hr hr2
  by_cases hbr : isBraid s xs = true
  · have HX := Lib.hid (lt8_of_isBraid hbr)
    have hn200 : n ≤ 200 := by have := len_of_isBraid _ _ hbr; have := R.out.len; omega
    by_cases hbr2 : isBraid t ys = true
    · have HY := Lib.hid (lt8_of_isBraid hbr2)
      have hm200 : m ≤ 200 := by have := len_of_isBraid _ _ hbr2; have := Q.out.len; omega
      rw [mCmp, if_pos ⟨hbr, hbr2⟩] at hM
      have HM := Lib.hid hM; clear hM
      go_enter Tryd.func20, Tryd.ntmps20
      obtain ⟨qA1, qA2, qA3, qA4, qA5⟩ := A.out
      obtain ⟨qC1, qC2, qC3, qC4, qC5⟩ := C.out
      go_wp2_with fail
      refine (l01Is_any _ _ _ _ xs _ R.out HF.out hn).mono ?_
      rintro e w1 ⟨rfl, hb⟩
      clear qA1 qA2 qA3 qA4 qA5 qC1 qC2 qC3 qC4 qC5
      replace R := Lib.hid (R.out.below hb)
      replace Q := Lib.hid (Q.out.below hb)
      replace A := Lib.hid (A.out.below hb)
      replace C := Lib.hid (C.out.below hb)
      replace BB := Lib.hid (below_go BB.out hb BB.out.size)
      clear hb
      obtain ⟨qA1, qA2, qA3, qA4, qA5⟩ := A.out
      obtain ⟨qC1, qC2, qC3, qC4, qC5⟩ := C.out
      go_wp2_with fail
      refine (l01Is_any _ _ _ _ ys _ Q.out HF2.out hn2).mono ?_
      rintro e w1 ⟨rfl, hb⟩
      clear qA1 qA2 qA3 qA4 qA5 qC1 qC2 qC3 qC4 qC5
      replace R := Lib.hid (R.out.below hb)
      replace Q := Lib.hid (Q.out.below hb)
      replace A := Lib.hid (A.out.below hb)
      replace C := Lib.hid (C.out.below hb)
      replace BB := Lib.hid (below_go BB.out hb BB.out.size)
      clear hb
      by_cases hst : s = t
      · have e1 : (s != t) = false := by simp [hst]
        replace HM := HM.out; rw [if_pos hst] at HM; replace HM := Lib.hid HM
        have HST := Lib.hid hst; clear hst
        obtain ⟨qA1, qA2, qA3, qA4, qA5⟩ := A.out
        obtain ⟨qC1, qC2, qC3, qC4, qC5⟩ := C.out
        go_wp2_with fail
        refine (l06Compare_any _ _ _ xs _ _ _ ys _ R.out HX.out (by omega) Q.out HY.out (by omega)).mono ?_
        rintro e w1 ⟨⟨r, rfl, hcm⟩, hb⟩
        clear qA1 qA2 qA3 qA4 qA5 qC1 qC2 qC3 qC4 qC5
        replace R := Lib.hid (R.out.below hb)
        replace Q := Lib.hid (Q.out.below hb)
        replace A := Lib.hid (A.out.below hb)
        replace C := Lib.hid (C.out.below hb)
        replace BB := Lib.hid (below_go BB.out hb BB.out.size)
        clear hb
        cases hc : cmpL xs ys with
        | none =>
          rw [hc] at hcm; obtain rfl := hcm
          replace HM := HM.out; rw [hc] at HM; simp only [Prod.mk.injEq] at HM; obtain ⟨rfl, rfl⟩ := HM
          clear hc
          obtain ⟨qA1, qA2, qA3, qA4, qA5⟩ := A.out
          obtain ⟨qC1, qC2, qC3, qC4, qC5⟩ := C.out
          go_wp2
          go_ret2
          exact ⟨rfl, BB.out⟩
        | some v =>
          rw [hc] at hcm; obtain rfl := hcm
          replace HM := HM.out; rw [hc] at HM; simp only [Prod.mk.injEq] at HM; obtain ⟨rfl, rfl⟩ := HM
          clear hc
          obtain ⟨qA1, qA2, qA3, qA4, qA5⟩ := A.out
          obtain ⟨qC1, qC2, qC3, qC4, qC5⟩ := C.out
          go_wp2
          go_ret2
          exact ⟨rfl, BB.out⟩
      · have e1 : (s != t) = true := by simp [hst]
        replace HM := HM.out; rw [if_neg hst, Prod.mk.injEq] at HM; obtain ⟨rfl, rfl⟩ := HM
        clear hst
        obtain ⟨qA1, qA2, qA3, qA4, qA5⟩ := A.out
        obtain ⟨qC1, qC2, qC3, qC4, qC5⟩ := C.out
        go_wp2
        go_ret2
        exact ⟨rfl, BB.out⟩
    · have hb0 : isBraid t ys = false := by simpa using hbr2
      rw [mCmp, if_neg (fun h => hbr2 h.2), Prod.mk.injEq] at hM
      obtain ⟨rfl, rfl⟩ := hM
      clear hbr2
      go_enter Tryd.func20, Tryd.ntmps20
      obtain ⟨qA1, qA2, qA3, qA4, qA5⟩ := A.out
      obtain ⟨qC1, qC2, qC3, qC4, qC5⟩ := C.out
      go_wp2_with fail
      refine (l01Is_any _ _ _ _ xs _ R.out HF.out hn).mono ?_
      rintro e w1 ⟨rfl, hb⟩
      clear qA1 qA2 qA3 qA4 qA5 qC1 qC2 qC3 qC4 qC5
      replace R := Lib.hid (R.out.below hb)
      replace Q := Lib.hid (Q.out.below hb)
      replace A := Lib.hid (A.out.below hb)
      replace C := Lib.hid (C.out.below hb)
      replace BB := Lib.hid (below_go BB.out hb BB.out.size)
      clear hb
      obtain ⟨qA1, qA2, qA3, qA4, qA5⟩ := A.out
      obtain ⟨qC1, qC2, qC3, qC4, qC5⟩ := C.out
      go_wp2_with fail
      refine (l01Is_any _ _ _ _ ys _ Q.out HF2.out hn2).mono ?_
      rintro e w1 ⟨rfl, hb⟩
      clear qA1 qA2 qA3 qA4 qA5 qC1 qC2 qC3 qC4 qC5
      replace R := Lib.hid (R.out.below hb)
      replace Q := Lib.hid (Q.out.below hb)
      replace A := Lib.hid (A.out.below hb)
      replace C := Lib.hid (C.out.below hb)
      replace BB := Lib.hid (below_go BB.out hb BB.out.size)
      clear hb
      obtain ⟨qA1, qA2, qA3, qA4, qA5⟩ := A.out
      obtain ⟨qC1, qC2, qC3, qC4, qC5⟩ := C.out
      go_wp2
      go_ret2
      exact ⟨rfl, BB.out⟩
  · have hb0 : isBraid s xs = false := by simpa using hbr
    rw [mCmp, if_neg (fun h => hbr h.1), Prod.mk.injEq] at hM
    obtain ⟨rfl, rfl⟩ := hM
    clear hbr
    go_enter Tryd.func20, Tryd.ntmps20
    obtain ⟨qA1, qA2, qA3, qA4, qA5⟩ := A.out
    obtain ⟨qC1, qC2, qC3, qC4, qC5⟩ := C.out
    go_wp2_with fail
    refine (l01Is_any _ _ _ _ xs _ R.out HF.out hn).mono ?_
    rintro e w1 ⟨rfl, hb⟩
    clear qA1 qA2 qA3 qA4 qA5 qC1 qC2 qC3 qC4 qC5
    replace R := Lib.hid (R.out.below hb)
    replace Q := Lib.hid (Q.out.below hb)
    replace A := Lib.hid (A.out.below hb)
    replace C := Lib.hid (C.out.below hb)
    replace BB := Lib.hid (below_go BB.out hb BB.out.size)
    clear hb
    obtain ⟨qA1, qA2, qA3, qA4, qA5⟩ := A.out
    obtain ⟨qC1, qC2, qC3, qC4, qC5⟩ := C.out
    go_wp2
    go_ret2
    exact ⟨rfl, BB.out⟩

set_option maxRecDepth 100000 in
set_option maxHeartbeats 1000000 in
theorem implCmpB_any {s : Int} {a : Option Addr} {n cap : Nat} {xs : List Int} {t : Int} {b : Option Addr} {m cap2 : Nat} {ys : List Int} {w : World} {ep : Value} {fv fc : Int} (hr : Reads w a n xs) (hf : Fits xs) (hn : n ≤ 1048576) (hr2 : Reads w b m ys) (hf2 : Fits ys) (hn2 : m ≤ 1048576) (hg : w.cell? ⟨0, 0, none⟩ = some (.iface 90 ep)) (hM : mCmp s xs t ys = (fv, fc)) :
    Calls Tryd.prog 21 #[.agg #[.int .i64 s, .slice a n cap], .agg #[.int .i64 t, .slice b m cap2]] w fun e w' => e = .returned (.tuple #[.int .i64 fv, .int .i64 fc]) ∧ Below w.heap.size w w' := by
  have HF := Lib.hid hf; clear hf
  have HF2 := Lib.hid hf2; clear hf2
  have HG := Lib.hid hg; clear hg
  have R := Lib.hid ((hr.alloc (.cells #[.int .i64 s, .slice a n cap] 26)).alloc (.cells #[.int .i64 t, .slice b m cap2] 26))
  have Q := Lib.hid ((hr2.alloc (.cells #[.int .i64 s, .slice a n cap] 26)).alloc (.cells #[.int .i64 t, .slice b m cap2] 26))
  have A := Lib.hid ((At2.new w (.int .i64 s) (.slice a n cap) 26).alloc (.cells #[.int .i64 t, .slice b m cap2] 26))
  have C := Lib.hid (At2.place (w.alloc (.cells #[.int .i64 s, .slice a n cap] 26)) (.int .i64 t) (.slice b m cap2) 26 (w.heap.size + 1) (by simp))
  have BB := Lib.hid (below2 w (.cells #[.int .i64 s, .slice a n cap] 26) (.cells #[.int .i64 t, .slice b m cap2] 26))
  clear hr hr2
  have HCD0 : Hid (codeBs [⟨s, a, n, cap, xs⟩, ⟨t, b, m, cap2, ys⟩] = if isBraid s xs = true ∧ isBraid t ys = true then (if s = t then 0 else 2) else 1) := Lib.hid (codeBs_pair s t a b n m cap cap2 xs ys)
  by_cases hbr : isBraid s xs = true ∧ isBraid t ys = true
  · have HX := Lib.hid (lt8_of_isBraid hbr.1)
    have HY := Lib.hid (lt8_of_isBraid hbr.2)
    have hn200 : n ≤ 200 := by have := len_of_isBraid _ _ hbr.1; have := R.out.len; omega
    have hm200 : m ≤ 200 := by have := len_of_isBraid _ _ hbr.2; have := Q.out.len; omega
    rw [mCmp, if_pos hbr] at hM
    rw [if_pos hbr] at HCD0
    clear hbr
    by_cases hst : s = t
    · rw [if_pos hst] at hM HCD0
      have HCD := HCD0; clear HCD0
      have HM := Lib.hid hM; clear hM hst
      go_enter Tryd.func21, Tryd.ntmps21
      obtain ⟨qA1, qA2, qA3, qA4, qA5⟩ := A.out
      obtain ⟨qC1, qC2, qC3, qC4, qC5⟩ := C.out
      have RP := Lib.hid (readsB_pair _ (w.heap.size + 1 + 1) (by simp) s t a b n m cap cap2 xs ys R.out hn Q.out hn2)
      go_wp2_with fail
      refine (braidsCode_any _ _ _ _ _ RP.out (by omega)).mono ?_
      rintro e w1 ⟨rfl, hb⟩
      clear qA1 qA2 qA3 qA4 qA5 qC1 qC2 qC3 qC4 qC5
      replace R := Lib.hid ((R.out.alloc _).below hb)
      replace Q := Lib.hid ((Q.out.alloc _).below hb)
      replace A := Lib.hid ((A.out.alloc _).below hb)
      replace C := Lib.hid ((C.out.alloc _).below hb)
      replace BB := Lib.hid (below_go (BB.out.alloc BB.out.size _) hb (by have := BB.out.size; simp at *; omega))
      clear hb
      rw [HCD.out]
      obtain ⟨qA1, qA2, qA3, qA4, qA5⟩ := A.out
      obtain ⟨qC1, qC2, qC3, qC4, qC5⟩ := C.out
      go_wp2_with fail
      refine (compared_any _ _ _ _ xs _ _ _ _ ys ep _ R.out HX.out (by omega) Q.out HY.out (by omega) (gvar BB.out HG.out)).mono ?_
      rintro e w1 ⟨rfl, hb⟩
      clear qA1 qA2 qA3 qA4 qA5 qC1 qC2 qC3 qC4 qC5
      replace R := Lib.hid (R.out.below hb)
      replace Q := Lib.hid (Q.out.below hb)
      replace A := Lib.hid (A.out.below hb)
      replace C := Lib.hid (C.out.below hb)
      replace BB := Lib.hid (below_go BB.out hb BB.out.size)
      clear hb
      cases hc : cmpL xs ys with
      | none =>
        replace HM := HM.out; rw [hc] at HM; simp only [Prod.mk.injEq] at HM; obtain ⟨rfl, rfl⟩ := HM
        clear hc; simp only [cmI]
        obtain ⟨qA1, qA2, qA3, qA4, qA5⟩ := A.out
        obtain ⟨qC1, qC2, qC3, qC4, qC5⟩ := C.out
        go_wp2
        go_ret2
        exact ⟨rfl, BB.out⟩
      | some v =>
        replace HM := HM.out; rw [hc] at HM; simp only [Prod.mk.injEq] at HM; obtain ⟨rfl, rfl⟩ := HM
        clear hc; simp only [cmI]
        obtain ⟨qA1, qA2, qA3, qA4, qA5⟩ := A.out
        obtain ⟨qC1, qC2, qC3, qC4, qC5⟩ := C.out
        go_wp2
        go_ret2
        exact ⟨rfl, BB.out⟩
    · rw [if_neg hst] at hM HCD0
      have HCD := HCD0; clear HCD0
      rw [Prod.mk.injEq] at hM; obtain ⟨rfl, rfl⟩ := hM
      clear hst
      go_enter Tryd.func21, Tryd.ntmps21
      obtain ⟨qA1, qA2, qA3, qA4, qA5⟩ := A.out
      obtain ⟨qC1, qC2, qC3, qC4, qC5⟩ := C.out
      have RP := Lib.hid (readsB_pair _ (w.heap.size + 1 + 1) (by simp) s t a b n m cap cap2 xs ys R.out hn Q.out hn2)
      go_wp2_with fail
      refine (braidsCode_any _ _ _ _ _ RP.out (by omega)).mono ?_
      rintro e w1 ⟨rfl, hb⟩
      clear qA1 qA2 qA3 qA4 qA5 qC1 qC2 qC3 qC4 qC5
      replace R := Lib.hid ((R.out.alloc _).below hb)
      replace Q := Lib.hid ((Q.out.alloc _).below hb)
      replace A := Lib.hid ((A.out.alloc _).below hb)
      replace C := Lib.hid ((C.out.alloc _).below hb)
      replace BB := Lib.hid (below_go (BB.out.alloc BB.out.size _) hb (by have := BB.out.size; simp at *; omega))
      clear hb
      rw [HCD.out]
      obtain ⟨qA1, qA2, qA3, qA4, qA5⟩ := A.out
      obtain ⟨qC1, qC2, qC3, qC4, qC5⟩ := C.out
      go_wp2
      go_ret2
      exact ⟨rfl, BB.out⟩
  · rw [mCmp, if_neg hbr, Prod.mk.injEq] at hM
    obtain ⟨rfl, rfl⟩ := hM
    rw [if_neg hbr] at HCD0
    have HCD := HCD0; clear HCD0 hbr
    go_enter Tryd.func21, Tryd.ntmps21
    obtain ⟨qA1, qA2, qA3, qA4, qA5⟩ := A.out
    obtain ⟨qC1, qC2, qC3, qC4, qC5⟩ := C.out
    have RP := Lib.hid (readsB_pair _ (w.heap.size + 1 + 1) (by simp) s t a b n m cap cap2 xs ys R.out hn Q.out hn2)
    go_wp2_with fail
    refine (braidsCode_any _ _ _ _ _ RP.out (by omega)).mono ?_
    rintro e w1 ⟨rfl, hb⟩
    clear qA1 qA2 qA3 qA4 qA5 qC1 qC2 qC3 qC4 qC5
    replace R := Lib.hid ((R.out.alloc _).below hb)
    replace Q := Lib.hid ((Q.out.alloc _).below hb)
    replace A := Lib.hid ((A.out.alloc _).below hb)
    replace C := Lib.hid ((C.out.alloc _).below hb)
    replace BB := Lib.hid (below_go (BB.out.alloc BB.out.size _) hb (by have := BB.out.size; simp at *; omega))
    clear hb
    rw [HCD.out]
    obtain ⟨qA1, qA2, qA3, qA4, qA5⟩ := A.out
    obtain ⟨qC1, qC2, qC3, qC4, qC5⟩ := C.out
    go_wp2
    go_ret2
    exact ⟨rfl, BB.out⟩

theorem specCmp_x (s : Int) (a : Option Addr) (n cap : Nat) (xs : List Int) (t : Int) (b : Option Addr) (m cap2 : Nat) (ys : List Int) (w : World) (hr : Reads w a n xs) (hf : Fits xs) (hn : n ≤ 1048576) (hr2 : Reads w b m ys) (hf2 : Fits ys) (hn2 : m ≤ 1048576) (fv fc : Int) (hM : mCmp s xs t ys = (fv, fc)) :
    Calls Tryd.prog 20 #[.agg #[.int .i64 s, .slice a n cap], .agg #[.int .i64 t, .slice b m cap2]] w fun e w' => e = .returned (.tuple #[.int .i64 fv, .int .i64 fc]) ∧ Below w.heap.size w w' :=
  specCmpB_any hr hf hn hr2 hf2 hn2 hM

theorem implCmp_x (s : Int) (a : Option Addr) (n cap : Nat) (xs : List Int) (t : Int) (b : Option Addr) (m cap2 : Nat) (ys : List Int) (w : World) (hr : Reads w a n xs) (hf : Fits xs) (hn : n ≤ 1048576) (hr2 : Reads w b m ys) (hf2 : Fits ys) (hn2 : m ≤ 1048576) {ep : Value} (hg : w.cell? ⟨0, 0, none⟩ = some (.iface 90 ep)) (fv fc : Int) (hM : mCmp s xs t ys = (fv, fc)) :
    Calls Tryd.prog 21 #[.agg #[.int .i64 s, .slice a n cap], .agg #[.int .i64 t, .slice b m cap2]] w fun e w' => e = .returned (.tuple #[.int .i64 fv, .int .i64 fc]) ∧ Below w.heap.size w w' :=
  implCmpB_any hr hf hn hr2 hf2 hn2 hg hM

end Go.Proofs.YtckdhnpnkgmikaaDoor
