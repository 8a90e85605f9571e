/- Characteristic polynomials: the exported functions of the model and of the program. -/
import Derived.Test.YtelmdfkcclhhjaaCChr
import Derived.Test.YtelmdfkcclhhjaaNum
namespace Go.Proofs.Ytelmdfkcclhhjaa
open Go.RowKit Go.ChangeShapes

theorem mChar_no {X : List (List Int)} (h : isFm X = false) : mChar X = ([], 1) := by unfold mChar; rw [h]; rfl
theorem mChar_yes {X : List (List Int)} (h : isFm X = true) : mChar X = (coL X.length (eL X) X.length, 0) := by unfold mChar; rw [if_pos h]

/-- What a function that hands back a list of numbers and a code gives. -/
def RetLN (w : World) (ls : List Int) (c : Int) (e : Ending) (w' : World) : Prop :=
  ∃ b n cp, e = .returned (.tuple #[.slice b n cp, .int .i64 c]) ∧ n ≤ 1048576 ∧ Own w.heap.size w' b n cp ls ∧ Below w.heap.size w w'

theorem ret_noneL (w w' : World) (c : Int) (hb : Below w.heap.size w w') : RetLN w [] c (.returned (.tuple #[.slice none 0 0, .int .i64 c])) w' := ⟨none, 0, 0, rfl, Nat.zero_le _, Own.nil _ _, hb⟩

set_option maxRecDepth 100000 in
set_option maxHeartbeats 1000000 in
theorem specChar_law {ad : Option Addr} {m cap : Nat} {rs : List RowV} {w : World} {X : List (List Int)} (hr : ReadsSS w ad m rs) (hm : m ≤ 1048576) (hX : X = rs.map RowV.xs) {ls : List Int} {c : Int} (hM : mChar X = (ls, c)) :
    Calls Try.prog 33 #[.slice ad m cap] w (RetLN w ls c) := by
  have HXL : Hid (X.length = m) := Lib.hid (by rw [hX, List.length_map]; exact hr.1)
  have HM := Lib.hid hM; have HX := Lib.hid hX; have HR := Lib.hid hr; clear hr hX hM
  cases hf : isFm X with
  | false =>
    have hM := HM.out
    rw [mChar_no hf] at hM
    injection hM with h1 h2
    subst h1; subst h2
    have HF := Lib.hid hf; clear hf
    go_enter Try.func33, Try.ntmps33
    go_wp2_with fail
    refine (l09Is_any ad m cap rs w HR.out hm X HX.out).mono ?_
    rw [HF.out]
    rintro e w1 ⟨rfl, rfl⟩
    go_wp2
    go_ret2
    exact ret_noneL _ _ _ (Below.refl _ _)
  | true =>
    have hM := HM.out
    rw [mChar_yes hf, HXL.out] at hM
    injection hM with h1 h2
    subst h2
    have H1 := Lib.hid h1
    have HI := Lib.hid (isFm_iff.1 hf)
    have hm1 : 1 ≤ m := by have := HI.out.1.1; rw [HXL.out] at this; exact this
    have hm2 : m ≤ 28 := by have := HI.out.1.2; rw [HXL.out] at this; exact this
    have HF := Lib.hid hf; clear hf h1
    have HMX : Hid (rs.map RowV.xs = mkM m m (eL X)) := Lib.hid (by have := mkM_of HI.out; rw [HXL.out] at this; rw [this, ← HX.out])
    have HRM : Hid (Rem m m (eL X)) := Lib.hid (by have := HI.out.rem; rw [HXL.out] at this; exact this)
    go_enter Try.func33, Try.ntmps33
    go_wp2_with fail
    refine (l09Is_any ad m cap rs w HR.out hm X HX.out).mono ?_
    rw [HF.out]
    rintro e w1 ⟨rfl, rfl⟩
    go_wp2_with fail
    refine (l09Char_any ad m cap rs (eL X) w HR.out HMX.out hm1 hm2 HRM.out).mono ?_
    rw [H1.out]
    rintro e w2 ⟨g, rfl, hg, ho, hb⟩
    have OO := Lib.hid (Own.mono ho hg); have BB := Lib.hid hb; clear ho hb
    go_wp2
    go_ret2
    exact ⟨_, m + 1, m + 1, rfl, by omega, OO.out, BB.out⟩

set_option maxRecDepth 100000 in
set_option maxHeartbeats 1000000 in
theorem implChar_law {ad : Option Addr} {m cap : Nat} {rs : List RowV} {w : World} {X : List (List Int)} (hr : ReadsSS w ad m rs) (hm : m ≤ 1048576) (hX : X = rs.map RowV.xs) {ls : List Int} {c : Int} (hM : mChar X = (ls, c)) :
    Calls Try.prog 34 #[.slice ad m cap] w (RetLN w ls c) := by
  have HXL : Hid (X.length = m) := Lib.hid (by rw [hX, List.length_map]; exact hr.1)
  have HM := Lib.hid hM; have HX := Lib.hid hX; have HR := Lib.hid hr; clear hr hX hM
  cases hf : isFm X with
  | false =>
    have hM := HM.out
    rw [mChar_no hf] at hM
    injection hM with h1 h2
    subst h1; subst h2
    have HF := Lib.hid hf; clear hf
    go_enter Try.func34, Try.ntmps34
    go_wp2_with fail
    refine (implIsFm_any ad m cap rs w HR.out hm X HX.out).mono ?_
    rw [HF.out]
    rintro e w1 ⟨rfl, rfl⟩
    go_wp2
    go_ret2
    exact ret_noneL _ _ _ (Below.refl _ _)
  | true =>
    have hM := HM.out
    rw [mChar_yes hf, HXL.out] at hM
    injection hM with h1 h2
    subst h2
    have H1 := Lib.hid h1
    have HI := Lib.hid (isFm_iff.1 hf)
    have hm1 : 1 ≤ m := by have := HI.out.1.1; rw [HXL.out] at this; exact this
    have hm2 : m ≤ 28 := by have := HI.out.1.2; rw [HXL.out] at this; exact this
    have HF := Lib.hid hf; clear hf h1
    have HMX : Hid (rs.map RowV.xs = mkM m m (eL X)) := Lib.hid (by have := mkM_of HI.out; rw [HXL.out] at this; rw [this, ← HX.out])
    have HRM : Hid (Rem m m (eL X)) := Lib.hid (by have := HI.out.rem; rw [HXL.out] at this; exact this)
    go_enter Try.func34, Try.ntmps34
    go_wp2_with fail
    refine (implIsFm_any ad m cap rs w HR.out hm X HX.out).mono ?_
    rw [HF.out]
    rintro e w1 ⟨rfl, rfl⟩
    go_wp2_with fail
    refine (fieldMatrixOf_any ad m cap rs w HR.out X HX.out HI.out).mono ?_
    rintro e w2 ⟨g, b, s, cc, cp, rfl, hO, hb⟩
    have OO := Lib.hid hO.toRMx; have BB := Lib.hid hb; clear hO hb
    go_wp2_with fail
    refine (mxChar_any g m cp b s cc (eL X) w2 OO.out hm2 HRM.out).mono ?_
    rintro e w3 ⟨g2, c2, rfl, hc, hb⟩
    replace BB := Lib.hid (below_go BB.out hb BB.out.size)
    have HC : Hid (∀ j, j < m + 1 → w3.cell? ⟨g2, 0 + j, none⟩ = some (.int .i64 (coA m (eL X) m j))) := Lib.hid fun j hj => by rw [Nat.zero_add]; exact hc j hj
    clear hc hb
    have z3 := BB.out.size
    go_wp2_with fail
    refine (numbersOf_any g2 0 (m + 1) c2 (coA m (eL X) m) w3 HC.out (fun j _ => coA_rem _ _ _ _) (by omega)).mono ?_
    rintro e w4 ⟨rfl, ho, _, hb⟩
    replace BB := Lib.hid (below_go BB.out hb BB.out.size)
    have OL : Hid (Own w.heap.size w4 (some ⟨w3.heap.size, 0, none⟩) (m + 1) (m + 1) ls) := Lib.hid (by have h2 := Own.mono ho.1 z3; rw [← H1.out]; exact h2)
    clear ho hb
    go_wp2
    go_ret2
    exact ⟨_, m + 1, m + 1, rfl, by omega, OL.out, BB.out⟩

end Go.Proofs.Ytelmdfkcclhhjaa
