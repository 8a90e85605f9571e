/- Inverses of matrices: the exported functions of the model and of the program. -/
import Derived.Test.YtelmdfkcclhhjaaPInv
import Derived.Test.YtelmdfkcclhhjaaMSo2
import Derived.Test.YtelmdfkcclhhjaaNum
namespace Go.Proofs.Ytelmdfkcclhhjaa
open Go.RowKit Go.ChangeShapes

open Classical in
/-- The inverse, and a code. -/
noncomputable def mInv (X : List (List Int)) : List (List Int) × Int :=
  if isFm X = true then
    (if h : ∃ g : Nat → Nat → Int, ∃ d : Int, GJ X.length (2 * X.length) (augF X.length (eL X)) X.length g d then (mkM X.length X.length (fun i t => h.choose i (X.length + t)), 0) else ([], 5))
  else ([], 1)

theorem mInv_no {X : List (List Int)} (h : isFm X = false) : mInv X = ([], 1) := by unfold mInv; rw [h]; rfl

theorem mkM_congr {m k : Nat} {f g : Nat → Nat → Int} (h : ∀ i j, i < m → j < k → f i j = g i j) : mkM m k f = mkM m k g := by
  unfold mkM
  refine List.map_congr_left fun i hi => List.map_congr_left fun j hj => h i j (List.mem_range.1 hi) (List.mem_range.1 hj)

theorem mInv_yes {X : List (List Int)} (h : isFm X = true) {m : Nat} (hm : X.length = m) {g : Nat → Nat → Int} {d : Int} (hg : GJ m (2 * m) (augF m (eL X)) m g d) : mInv X = (mkM m m (fun i t => g i (m + t)), 0) := by
  subst hm
  unfold mInv
  rw [if_pos h]
  have hex : ∃ g : Nat → Nat → Int, ∃ d : Int, GJ X.length (2 * X.length) (augF X.length (eL X)) X.length g d := ⟨g, d, hg⟩
  rw [dif_pos hex]
  obtain ⟨d', hd'⟩ := hex.choose_spec
  rw [mkM_congr fun i j hi hj => gj_same hd' hg hi (Nat.le_add_right _ _) (show X.length + j < 2 * X.length by omega)]

theorem mInv_stuck {X : List (List Int)} (h : isFm X = true) {m : Nat} (hm : X.length = m) (hs : Stuck m (2 * m) (augF m (eL X))) : mInv X = ([], 5) := by
  subst hm
  unfold mInv
  rw [if_pos h]
  rw [dif_neg fun hex => by
    obtain ⟨g, d, hg⟩ := hex
    exact gj_stuck (by omega) hg hs]

theorem mInv_len (X : List (List Int)) : (mInv X).1.length ≤ 28 := by
  unfold mInv
  split
  · rename_i h
    split
    · rw [mkM_len]; exact (isFm_iff.1 h).1.2
    · simp
  · simp

theorem ret_noneI (w w' : World) (c : Int) (hb : Below w.heap.size w w') : RetSSN w [] c (.returned (.tuple #[.slice none 0 0, .int .i64 c])) w' := ⟨none, 0, [], rfl, rfl, GrowSS.nil _ _, hb⟩

set_option maxRecDepth 100000 in
set_option maxHeartbeats 1000000 in
theorem specInv_law {ad : Option Addr} {m cap : Nat} {rs : List RowV} {w : World} {X : List (List Int)} (hr : ReadsSS w ad m rs) (hm : m ≤ 1048576) (hX : X = rs.map RowV.xs) {ls : List (List Int)} {c : Int} (hM : mInv X = (ls, c)) :
    Calls Try.prog 27 #[.slice ad m cap] w (RetSSN w ls c) := by
  have HXL : Hid (X.length = m) := Lib.hid (by rw [hX, List.length_map]; exact hr.1)
  have HM := Lib.hid hM; have HX := Lib.hid hX; have HR := Lib.hid hr; clear hr hX hM
  cases hf : isFm X with
  | false =>
    have hM := HM.out
    rw [mInv_no hf] at hM
    injection hM with h1 h2
    subst h1; subst h2
    have HF := Lib.hid hf; clear hf
    go_enter Try.func27, Try.ntmps27
    go_wp2_with fail
    refine (l09Is_any ad m cap rs w HR.out hm X HX.out).mono ?_
    rw [HF.out]
    rintro e w1 ⟨rfl, rfl⟩
    go_wp2
    go_ret2
    exact ret_noneI _ _ _ (Below.refl _ _)
  | true =>
    have HI := Lib.hid (isFm_iff.1 hf)
    have hm1 : 1 ≤ m := by have := HI.out.1.1; rw [HXL.out] at this; exact this
    have hm2 : m ≤ 28 := by have := HI.out.1.2; rw [HXL.out] at this; exact this
    have HF := Lib.hid hf; clear hf
    have HMX : Hid (rs.map RowV.xs = mkM m m (eL X)) := Lib.hid (by have := mkM_of HI.out; rw [HXL.out] at this; rw [this, ← HX.out])
    have HRM : Hid (Rem m m (eL X)) := Lib.hid (by have := HI.out.rem; rw [HXL.out] at this; exact this)
    go_enter Try.func27, Try.ntmps27
    go_wp2_with fail
    refine (l09Is_any ad m cap rs w HR.out hm X HX.out).mono ?_
    rw [HF.out]
    rintro e w1 ⟨rfl, rfl⟩
    go_wp2_with fail
    refine (l09Solve_any ad m cap rs (eL X) w HR.out HMX.out hm1 hm2 HRM.out).mono ?_
    rintro e w2 ⟨hb, hres⟩
    have BB := Lib.hid hb; clear hb
    rcases hres with ⟨rfl, hst⟩ | ⟨d, g, a, cd, os, rfl, hd, hJ, hos, hG⟩
    · have hM := HM.out
      rw [mInv_stuck HF.out HXL.out hst] at hM
      injection hM with h1 h2
      subst h1; subst h2
      have t0 : ((0 : Int) == 0) = true := rfl
      clear hst
      go_wp2
      go_ret2
      exact ret_noneI _ _ _ BB.out
    · have hM := HM.out
      rw [mInv_yes HF.out HXL.out hJ] at hM
      injection hM with h1 h2
      subst h2
      have HO : Hid (os.map RowV.xs = ls) := Lib.hid (hos.trans h1)
      have GG := Lib.hid hG; have HOL := Lib.hid hG.len
      have t0 : (d == 0) = false := by simp; omega
      clear hJ hos hG h1
      go_wp2
      go_ret2
      exact ⟨a, cd, os, by rw [HOL.out]; rfl, HO.out, by rw [HOL.out]; exact GG.out, BB.out⟩

set_option maxRecDepth 100000 in
set_option maxHeartbeats 1000000 in
theorem implInv_law {ad : Option Addr} {m cap : Nat} {rs : List RowV} {w : World} {X : List (List Int)} (hr : ReadsSS w ad m rs) (hm : m ≤ 1048576) (hX : X = rs.map RowV.xs) {ls : List (List Int)} {c : Int} (hM : mInv X = (ls, c)) :
    Calls Try.prog 28 #[.slice ad m cap] w (RetSSN w ls c) := by
  have HXL : Hid (X.length = m) := Lib.hid (by rw [hX, List.length_map]; exact hr.1)
  have HM := Lib.hid hM; have HX := Lib.hid hX; have HR := Lib.hid hr; clear hr hX hM
  cases hf : isFm X with
  | false =>
    have hM := HM.out
    rw [mInv_no hf] at hM
    injection hM with h1 h2
    subst h1; subst h2
    have HF := Lib.hid hf; clear hf
    go_enter Try.func28, Try.ntmps28
    go_wp2_with fail
    refine (implIsFm_any ad m cap rs w HR.out hm X HX.out).mono ?_
    rw [HF.out]
    rintro e w1 ⟨rfl, rfl⟩
    go_wp2
    go_ret2
    exact ret_noneI _ _ _ (Below.refl _ _)
  | true =>
    have HI := Lib.hid (isFm_iff.1 hf)
    have hm1 : 1 ≤ m := by have := HI.out.1.1; rw [HXL.out] at this; exact this
    have hm2 : m ≤ 28 := by have := HI.out.1.2; rw [HXL.out] at this; exact this
    have HF := Lib.hid hf; clear hf
    have HMX : Hid (rs.map RowV.xs = mkM m m (eL X)) := Lib.hid (by have := mkM_of HI.out; rw [HXL.out] at this; rw [this, ← HX.out])
    have HRM : Hid (Rem m m (eL X)) := Lib.hid (by have := HI.out.rem; rw [HXL.out] at this; exact this)
    go_enter Try.func28, Try.ntmps28
    go_wp2_with fail
    refine (implIsFm_any ad m cap rs w HR.out hm X HX.out).mono ?_
    rw [HF.out]
    rintro e w1 ⟨rfl, rfl⟩
    go_wp2_with fail
    refine (fieldMatrixOf_any ad m cap rs w HR.out X HX.out HI.out).mono ?_
    rintro e w2 ⟨g, b, s, cc, cp, rfl, hO, hb⟩
    have OO := Lib.hid hO.toRMx; have BB := Lib.hid hb; clear hO hb
    go_wp2_with fail
    refine (mxInv_any g m cp b s cc (eL X) w2 OO.out hm1 hm2 HRM.out).mono ?_
    rintro e w3 ⟨hb, hres⟩
    replace BB := Lib.hid (below_go BB.out hb BB.out.size); clear hb
    rcases hres with ⟨rfl, hst⟩ | ⟨d, h, g2, b2, s2, c2, cp2, rfl, hJ, hR2⟩
    · have hM := HM.out
      rw [mInv_stuck HF.out HXL.out hst] at hM
      injection hM with h1 h2
      subst h1; subst h2
      clear hst
      go_wp2
      go_ret2
      exact ret_noneI _ _ _ BB.out
    · have hM := HM.out
      rw [mInv_yes HF.out HXL.out hJ] at hM
      injection hM with h1 h2
      subst h2
      have H1 := Lib.hid h1; have R2 := Lib.hid hR2
      have HRR : Hid (Rem m m (fun i t => h i (m + t))) := Lib.hid fun i t hi ht => hJ.rem i (m + t) hi (by omega)
      have z3 := BB.out.size
      clear hJ hR2 h1
      go_wp2_with fail
      refine (numbers_any g2 m m cp2 b2 s2 c2 (fun i t => h i (m + t)) w3 R2.out hm2 hm2 HRR.out).mono ?_
      rintro e w5 ⟨a, cd, os, rfl, hos, hG, hb⟩
      replace BB := Lib.hid (below_go BB.out hb BB.out.size)
      have GG := Lib.hid (hG.low z3); have HO : Hid (os.map RowV.xs = ls) := Lib.hid (hos.trans H1.out); clear hG hb hos
      have HOL := Lib.hid GG.out.len
      go_wp2
      go_ret2
      exact ⟨a, cd, os, by rw [HOL.out]; rfl, HO.out, by rw [HOL.out]; exact GG.out, BB.out⟩

end Go.Proofs.Ytelmdfkcclhhjaa
