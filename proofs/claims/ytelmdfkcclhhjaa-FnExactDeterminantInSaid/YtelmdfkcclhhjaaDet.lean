/- Determinants of matrices over the field: the exported functions of the model and of the program. -/
import Derived.Test.YtelmdfkcclhhjaaDetP
import Derived.Test.YtelmdfkcclhhjaaMSo2
import Derived.Test.YtelmdfkcclhhjaaZCct
namespace Go.Proofs.Ytelmdfkcclhhjaa
open Go.RowKit Go.ChangeShapes

/-- The determinant, and a code. -/
def mDet (X : List (List Int)) : Int × Int :=
  if isFm X = true then (det X.length (eL X) % 10007, 0) else (0, 1)

theorem mDet_no {X : List (List Int)} (h : isFm X = false) : mDet X = (0, 1) := by unfold mDet; rw [h]; rfl

theorem mDet_yes {X : List (List Int)} (h : isFm X = true) {m : Nat} (hm : X.length = m) {d : Int} (hd : Eqm (det m (eL X)) d) (h0 : 0 ≤ d ∧ d < 10007) : mDet X = (d, 0) := by
  subst hm
  unfold mDet
  rw [if_pos h]
  unfold Eqm at hd
  congr 1
  omega

theorem det_ended {m K : Nat} {f g : Nat → Nat → Int} {d : Int} (h : GJ m K f m g d) : Eqm (det m f) d := by
  have h1 := h.det _ (det_isDet m)
  have h2 := ((det_isDet m).one g h.unit).mulL d
  rw [Int.mul_one] at h2
  exact h1.trans h2

theorem det_stopped {m K : Nat} {f : Nat → Nat → Int} (h : Stuck m K f) : Eqm (det m f) 0 := by
  obtain ⟨k, g, d, hk, hJ, hz⟩ := h
  have h1 := hJ.det _ (det_isDet m)
  have h2 := ((det_isDet m).stk g k hk hJ.unit hz).mulL d
  rw [Int.mul_zero] at h2
  exact h1.trans h2

theorem det_aug (m : Nat) (A : Nat → Nat → Int) : det m (augF m A) = det m A :=
  det_congr m _ _ fun a b _ hb => by unfold augF; rw [if_pos hb]

set_option maxRecDepth 100000 in
set_option maxHeartbeats 1000000 in
theorem specDet_law {ad : Option Addr} {m cap : Nat} {rs : List RowV} {w : World} {X : List (List Int)} (hr : ReadsSS w ad m rs) (hm : m ≤ 1048576) (hX : X = rs.map RowV.xs) {v c : Int} (hM : mDet X = (v, c)) :
    Calls Try.prog 29 #[.slice ad m cap] w fun e w' => e = .returned (.tuple #[.int .i64 v, .int .i64 c]) ∧ Below w.heap.size w w' := by
  have HXL : Hid (X.length = m) := Lib.hid (by rw [hX, List.length_map]; exact hr.1)
  have HM := Lib.hid hM; have HX := Lib.hid hX; have HR := Lib.hid hr; clear hr hX hM
  cases hf : isFm X with
  | false =>
    have hM := HM.out
    rw [mDet_no hf] at hM
    injection hM with h1 h2
    subst h1; subst h2
    have HF := Lib.hid hf; clear hf
    go_enter Try.func29, Try.ntmps29
    go_wp2_with fail
    refine (l09Is_any ad m cap rs w HR.out hm X HX.out).mono ?_
    rw [HF.out]
    rintro e w1 ⟨rfl, rfl⟩
    go_wp2
    go_ret2
    exact ⟨rfl, Below.refl _ _⟩
  | true =>
    have HI := Lib.hid (isFm_iff.1 hf)
    have hm1 : 1 ≤ m := by have := HI.out.1.1; rw [HXL.out] at this; exact this
    have hm2 : m ≤ 28 := by have := HI.out.1.2; rw [HXL.out] at this; exact this
    have HF := Lib.hid hf; clear hf
    have HMX : Hid (rs.map RowV.xs = mkM m m (eL X)) := Lib.hid (by have := mkM_of HI.out; rw [HXL.out] at this; rw [this, ← HX.out])
    have HRM : Hid (Rem m m (eL X)) := Lib.hid (by have := HI.out.rem; rw [HXL.out] at this; exact this)
    go_enter Try.func29, Try.ntmps29
    go_wp2_with fail
    refine (l09Is_any ad m cap rs w HR.out hm X HX.out).mono ?_
    rw [HF.out]
    rintro e w1 ⟨rfl, rfl⟩
    go_wp2_with fail
    refine (l09Solve_any ad m cap rs (eL X) w HR.out HMX.out hm1 hm2 HRM.out).mono ?_
    rintro e w2 ⟨hb, hres⟩
    have BB := Lib.hid hb; clear hb
    rcases hres with ⟨rfl, hst⟩ | ⟨d, g, a, cd, os, rfl, hd, hJ, hos, hG⟩
    · have hM := HM.out
      rw [mDet_yes HF.out HXL.out (d := 0) (by have := det_stopped hst; rw [det_aug] at this; exact this) ⟨Int.le_refl _, by decide⟩] at hM
      injection hM with h1 h2
      subst h1; subst h2
      clear hst
      go_wp2
      go_ret2
      exact ⟨rfl, BB.out⟩
    · have hM := HM.out
      rw [mDet_yes HF.out HXL.out (d := d) (by have := det_ended hJ; rw [det_aug] at this; exact this) ⟨Int.le_of_lt hd.1, hd.2⟩] at hM
      injection hM with h1 h2
      subst h1; subst h2
      clear hJ hos hG
      go_wp2
      go_ret2
      exact ⟨rfl, BB.out⟩

set_option maxRecDepth 100000 in
set_option maxHeartbeats 1000000 in
theorem implDet_law {ad : Option Addr} {m cap : Nat} {rs : List RowV} {w : World} {X : List (List Int)} (hr : ReadsSS w ad m rs) (hm : m ≤ 1048576) (hX : X = rs.map RowV.xs) {v c : Int} (hM : mDet X = (v, c)) :
    Calls Try.prog 30 #[.slice ad m cap] w fun e w' => e = .returned (.tuple #[.int .i64 v, .int .i64 c]) ∧ Below w.heap.size w w' := by
  have HXL : Hid (X.length = m) := Lib.hid (by rw [hX, List.length_map]; exact hr.1)
  have HM := Lib.hid hM; have HX := Lib.hid hX; have HR := Lib.hid hr; clear hr hX hM
  cases hf : isFm X with
  | false =>
    have hM := HM.out
    rw [mDet_no hf] at hM
    injection hM with h1 h2
    subst h1; subst h2
    have HF := Lib.hid hf; clear hf
    go_enter Try.func30, Try.ntmps30
    go_wp2_with fail
    refine (implIsFm_any ad m cap rs w HR.out hm X HX.out).mono ?_
    rw [HF.out]
    rintro e w1 ⟨rfl, rfl⟩
    go_wp2
    go_ret2
    exact ⟨rfl, Below.refl _ _⟩
  | true =>
    have HI := Lib.hid (isFm_iff.1 hf)
    have hm1 : 1 ≤ m := by have := HI.out.1.1; rw [HXL.out] at this; exact this
    have hm2 : m ≤ 28 := by have := HI.out.1.2; rw [HXL.out] at this; exact this
    have HF := Lib.hid hf; clear hf
    have HMX : Hid (rs.map RowV.xs = mkM m m (eL X)) := Lib.hid (by have := mkM_of HI.out; rw [HXL.out] at this; rw [this, ← HX.out])
    have HRM : Hid (Rem m m (eL X)) := Lib.hid (by have := HI.out.rem; rw [HXL.out] at this; exact this)
    go_enter Try.func30, Try.ntmps30
    go_wp2_with fail
    refine (implIsFm_any ad m cap rs w HR.out hm X HX.out).mono ?_
    rw [HF.out]
    rintro e w1 ⟨rfl, rfl⟩
    go_wp2_with fail
    refine (fieldMatrixOf_cap ad m cap rs w HR.out X HX.out HI.out).mono ?_
    rintro e w2 ⟨g, b, s, cc, cp, rfl, hcp, hO, hb⟩
    have OO := Lib.hid hO; have BB := Lib.hid hb; have z2 := hb.size; clear hO hb
    go_wp2_with fail
    refine (solve_any w.heap.size g m cp m b s cc (eL X) w2 OO.out HRM.out (Nat.le_refl m) hcp hm2 (by omega) z2).mono ?_
    rintro e w3 ⟨d, rfl, hb, hres⟩
    replace BB := Lib.hid (BB.out.trans hb); clear hb
    rcases hres with ⟨rfl, hst⟩ | ⟨hd, h, hJ, hO⟩
    · have hM := HM.out
      rw [mDet_yes HF.out HXL.out (d := 0) (det_stopped hst) ⟨Int.le_refl _, by decide⟩] at hM
      injection hM with h1 h2
      subst h1; subst h2
      clear hst
      go_wp2
      go_ret2
      exact ⟨rfl, BB.out⟩
    · have hM := HM.out
      rw [mDet_yes HF.out HXL.out (d := d) (det_ended hJ) ⟨Int.le_of_lt hd.1, hd.2⟩] at hM
      injection hM with h1 h2
      subst h1; subst h2
      clear hJ hO
      go_wp2
      go_ret2
      exact ⟨rfl, BB.out⟩

end Go.Proofs.Ytelmdfkcclhhjaa
