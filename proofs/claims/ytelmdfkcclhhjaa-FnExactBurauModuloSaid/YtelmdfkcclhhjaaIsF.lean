/- Matrices of the field are told: the model and the program. -/
import Derived.Test.YtelmdfkcclhhjaaFmP
import Derived.Test.YtelmdfkcclhhjaaKitR
import Derived.Test.YtelmdfkcclhhjaaLawSS
namespace Go.Proofs.Ytelmdfkcclhhjaa
open Go.RowKit Go.ChangeShapes

theorem eL_map (rs : List RowV) (i k : Nat) (h : i < rs.length) : eL (rs.map RowV.xs) i k = rs[i].xs.getD k 0 := by simp [eL, List.getD, h]
theorem rowL_map (rs : List RowV) (i : Nat) (h : i < rs.length) : ((rs.map RowV.xs).getD i []) = rs[i].xs := by simp [List.getD, h]

theorem isFm_bad {X : List (List Int)} {i : Nat} (hi : i < X.length) (h : ¬ RowF X i) : isFm X = false := isFm_no fun k => h (k.2 i hi)

set_option maxRecDepth 100000 in
set_option maxHeartbeats 1000000 in
theorem isResidue_any (x : Int) (w : World) : Calls Try.prog 55 #[.int .i64 x] w fun e w' => e = .returned (.bool (inB x 0 10006)) ∧ w = w' := by
  have e : inB x 0 10006 = (decide (0 ≤ x) && decide (x < 10007)) := by
    unfold inB
    congr 1
    exact decide_eq_decide.2 (by omega)
  rw [e]
  by_cases h1 : 0 ≤ x
  · by_cases h2 : x < 10007
    · go_enter Try.func55, Try.ntmps55
      go_wp2
      go_ret
      exact ⟨ret_bool (by simp [h1, h2]), rfl⟩
    · go_enter Try.func55, Try.ntmps55
      go_wp2
      go_ret
      exact ⟨ret_bool (by simp [h2]), rfl⟩
  · go_enter Try.func55, Try.ntmps55
    go_wp2
    go_ret
    have e3 : decide (0 ≤ x) = false := decide_eq_false (by omega)
    exact ⟨ret_bool (by rw [e3]; rfl), rfl⟩

set_option maxRecDepth 100000 in
set_option maxHeartbeats 1000000 in
theorem l09Is_any (ad : Option Addr) (m cap : Nat) (rs : List RowV) (w : World) (hr : ReadsSS w ad m rs) (hm : m ≤ 1048576) (X : List (List Int)) (hX : X = rs.map RowV.xs) :
    Calls Try.prog 54 #[.slice ad m cap] w fun e w' => e = .returned (.bool (isFm X)) ∧ w = w' := by
  have HL := Lib.hid hr.1
  have HXL : Hid (X.length = m) := Lib.hid (by rw [hX, List.length_map]; exact hr.1)
  have HX := Lib.hid hX
  have HR := Lib.hid hr; clear hr hX
  by_cases hs1 : 1 ≤ m
  rotate_left
  · have HE : Hid (isFm X = false) := Lib.hid (isFm_no fun k => by have := k.1.1; rw [HXL.out] at this; omega)
    obtain rfl : m = 0 := by omega
    go_enter Try.func54, Try.ntmps54
    go_wp2
    go_ret
    exact ⟨ret_bool HE.out.symm, rfl⟩
  by_cases hs2 : m ≤ 28
  rotate_left
  · have HE : Hid (isFm X = false) := Lib.hid (isFm_no fun k => by have := k.1.2; rw [HXL.out] at this; omega)
    have g1 : ¬ ((m : Int) < 1) := by omega
    have g2 : 28 < (m : Int) := by omega
    go_enter Try.func54, Try.ntmps54
    go_wp2
    go_ret
    exact ⟨ret_bool HE.out.symm, rfl⟩
  have g1 : ¬ ((m : Int) < 1) := by omega
  have g2 : ¬ (28 < (m : Int)) := by omega
  go_enter Try.func54, Try.ntmps54
  go_wp2
  clear g1 g2
  go_loop [3] (fun iv => ∃ i : Nat, i ≤ m ∧ iv = .int .i64 i ∧ ∀ u, u < i → RowF X u) (fun iv => m - (intOf iv).toNat)
  case atStart => exact ⟨0, Nat.zero_le _, rfl, fun u hu => absurd hu (Nat.not_lt_zero _)⟩
  case round =>
    obtain ⟨i, hi, rfl, hG⟩ := hrel
    have HG := Lib.hid hG; clear hG
    by_cases hlt : i < m
    · have hil : i < rs.length := by rw [HL.out]; exact hlt
      have hiX : i < X.length := by rw [HXL.out]; exact hlt
      obtain ⟨b, off, rfl, hc⟩ := HR.out.2.1.resolve_left (by omega)
      have c0 := hc i hil
      have hrow := (HR.out.2.2 _ (List.getElem_mem hil)).1
      have hn := (HR.out.2.2 _ (List.getElem_mem hil)).2
      have HEL : Hid (∀ k, eL X i k = rs[i].xs.getD k 0) := Lib.hid fun k => by rw [HX.out]; exact eL_map rs i k hil
      have HLN : Hid ((X.getD i []).length = rs[i].n) := Lib.hid (by rw [HX.out, rowL_map rs i hil]; exact hrow.len)
      have HBAD : Hid (¬ RowF X i → isFm X = false) := Lib.hid (isFm_bad hiX)
      obtain ⟨x, hx⟩ : ∃ x, x = rs[i] := ⟨_, rfl⟩
      rw [← hx] at c0 hrow hn HEL HLN
      clear hc hx hil hiX
      obtain ⟨xb, xa, xn, xc, xs⟩ := x
      simp only at c0 hrow hn HEL HLN
      have HROW := Lib.hid hrow; clear hrow
      by_cases hne : xn = m
      rotate_left
      · have HE : Hid (isFm X = false) := Lib.hid (HBAD.out fun k => hne (by have := k.1; rw [HLN.out, HXL.out] at this; exact this))
        have t1 : ((xn : Int) != (m : Int)) = true := by simp; omega
        go_wp2
        go_ret
        exact ⟨ret_bool HE.out.symm, rfl⟩
      · subst hne
        have t1 : ((xn : Int) != (xn : Int)) = false := by simp
        go_wp2
        clear t1
        go_loop [4] (fun kv => ∃ k : Nat, k ≤ xn ∧ kv = .int .i64 k ∧ ∀ u, u < k → 0 ≤ eL X i u ∧ eL X i u < 10007) (fun kv => xn - (intOf kv).toNat)
        case atStart => exact ⟨0, Nat.zero_le _, rfl, fun u hu => absurd hu (Nat.not_lt_zero _)⟩
        case round =>
          obtain ⟨k, hk, rfl, hK⟩ := hrel
          have HK := Lib.hid hK; clear hK
          by_cases hlk : k < xn
          · obtain ⟨rb, ro, rfl, hrb, hrw⟩ := HROW.out.cells (by omega)
            have c1 := hrw k hlk
            have HV0 := Lib.hid (HEL.out k)
            obtain ⟨v, hv⟩ : ∃ v, v = xs.getD k 0 := ⟨_, rfl⟩
            rw [← hv] at c1 HV0
            clear hrw hv hrb
            have k1 : (k : Int) < (xn : Int) := by omega
            by_cases hin : 0 ≤ v ∧ v < 10007
            · have HIN := Lib.hid ((inB_iff v 0 10006).2 ⟨hin.1, by omega⟩)
              go_wp2_with fail
              refine (l01In_any _ _ _ _).mono ?_
              rw [HIN.out]
              rintro e w1 ⟨rfl, rfl⟩
              go_wp2
              go_round
              case rel => exact ⟨k + 1, by omega, by go_num, fun u hu => by
                by_cases e : u = k
                · subst e; rw [HV0.out]; exact hin
                · exact HK.out u (by omega)⟩
              case measure => simp [intOf]; omega
            · have HIN := Lib.hid ((inB_not v 0 10006).2 (by omega))
              have HE : Hid (isFm X = false) := Lib.hid (HBAD.out fun r => hin (by have := r.2 k (by rw [HXL.out]; exact hlk); rwa [HV0.out] at this))
              go_wp2_with fail
              refine (l01In_any _ _ _ _).mono ?_
              rw [HIN.out]
              rintro e w1 ⟨rfl, rfl⟩
              go_wp2
              go_ret
              exact ⟨ret_bool HE.out.symm, rfl⟩
          · have hkx : k = xn := by omega
            subst hkx
            go_wp2
            go_round
            case rel => exact ⟨i + 1, by omega, by go_num, fun u hu => by
              by_cases e : u = i
              · subst e; exact ⟨HLN.out.trans HXL.out.symm, fun j hj => HK.out j (by rw [HXL.out] at hj; exact hj)⟩
              · exact HG.out u (by omega)⟩
            case measure => simp [intOf]; omega
    · have HE : Hid (isFm X = true) := Lib.hid (isFm_yes ⟨by rw [HXL.out]; exact ⟨hs1, hs2⟩, fun u hu => HG.out u (by rw [HXL.out] at hu; omega)⟩)
      go_wp2
      go_ret
      exact ⟨ret_bool HE.out.symm, rfl⟩

set_option maxRecDepth 100000 in
set_option maxHeartbeats 1000000 in
theorem implIsFm_any (ad : Option Addr) (m cap : Nat) (rs : List RowV) (w : World) (hr : ReadsSS w ad m rs) (hm : m ≤ 1048576) (X : List (List Int)) (hX : X = rs.map RowV.xs) :
    Calls Try.prog 21 #[.slice ad m cap] w fun e w' => e = .returned (.bool (isFm X)) ∧ w = w' := by
  have HL := Lib.hid hr.1
  have HXL : Hid (X.length = m) := Lib.hid (by rw [hX, List.length_map]; exact hr.1)
  have HX := Lib.hid hX
  have HR := Lib.hid hr; clear hr hX
  by_cases hs1 : 1 ≤ m
  rotate_left
  · have HE : Hid (isFm X = false) := Lib.hid (isFm_no fun k => by have := k.1.1; rw [HXL.out] at this; omega)
    obtain rfl : m = 0 := by omega
    go_enter Try.func21, Try.ntmps21
    go_wp2
    go_ret
    exact ⟨ret_bool HE.out.symm, rfl⟩
  by_cases hs2 : m ≤ 28
  rotate_left
  · have HE : Hid (isFm X = false) := Lib.hid (isFm_no fun k => by have := k.1.2; rw [HXL.out] at this; omega)
    have g1 : ¬ ((m : Int) < 1) := by omega
    have g2 : 28 < (m : Int) := by omega
    go_enter Try.func21, Try.ntmps21
    go_wp2
    go_ret
    exact ⟨ret_bool HE.out.symm, rfl⟩
  have g1 : ¬ ((m : Int) < 1) := by omega
  have g2 : ¬ (28 < (m : Int)) := by omega
  go_enter Try.func21, Try.ntmps21
  go_wp2
  clear g1 g2
  go_loop [17] (fun iv => ∃ i : Nat, i ≤ m ∧ iv = .int .i64 i ∧ ∀ u, u < i → RowF X u) (fun iv => m - (intOf iv).toNat)
  case atStart => exact ⟨0, Nat.zero_le _, rfl, fun u hu => absurd hu (Nat.not_lt_zero _)⟩
  case round =>
    obtain ⟨i, hi, rfl, hG⟩ := hrel
    have HG := Lib.hid hG; clear hG
    by_cases hlt : i < m
    · have hil : i < rs.length := by rw [HL.out]; exact hlt
      have hiX : i < X.length := by rw [HXL.out]; exact hlt
      obtain ⟨b, off, rfl, hc⟩ := HR.out.2.1.resolve_left (by omega)
      have c0 := hc i hil
      have hrow := (HR.out.2.2 _ (List.getElem_mem hil)).1
      have hn := (HR.out.2.2 _ (List.getElem_mem hil)).2
      have HEL : Hid (∀ k, eL X i k = rs[i].xs.getD k 0) := Lib.hid fun k => by rw [HX.out]; exact eL_map rs i k hil
      have HLN : Hid ((X.getD i []).length = rs[i].n) := Lib.hid (by rw [HX.out, rowL_map rs i hil]; exact hrow.len)
      have HBAD : Hid (¬ RowF X i → isFm X = false) := Lib.hid (isFm_bad hiX)
      obtain ⟨x, hx⟩ : ∃ x, x = rs[i] := ⟨_, rfl⟩
      rw [← hx] at c0 hrow hn HEL HLN
      clear hc hx hil hiX
      obtain ⟨xb, xa, xn, xc, xs⟩ := x
      simp only at c0 hrow hn HEL HLN
      have HROW := Lib.hid hrow; clear hrow
      by_cases hne : xn = m
      rotate_left
      · have HE : Hid (isFm X = false) := Lib.hid (HBAD.out fun k => hne (by have := k.1; rw [HLN.out, HXL.out] at this; exact this))
        have t1 : ((xn : Int) != (m : Int)) = true := by simp; omega
        go_wp2
        go_ret
        exact ⟨ret_bool HE.out.symm, rfl⟩
      · subst hne
        have t1 : ((xn : Int) != (xn : Int)) = false := by simp
        go_wp2
        clear t1
        go_loop [28] (fun kv => ∃ k : Nat, k ≤ xn ∧ kv = .int .i64 k ∧ ∀ u, u < k → 0 ≤ eL X i u ∧ eL X i u < 10007) (fun kv => xn - (intOf kv).toNat)
        case atStart => exact ⟨0, Nat.zero_le _, rfl, fun u hu => absurd hu (Nat.not_lt_zero _)⟩
        case round =>
          obtain ⟨k, hk, rfl, hK⟩ := hrel
          have HK := Lib.hid hK; clear hK
          by_cases hlk : k < xn
          · obtain ⟨rb, ro, rfl, hrb, hrw⟩ := HROW.out.cells (by omega)
            have c1 := hrw k hlk
            have HV0 := Lib.hid (HEL.out k)
            obtain ⟨v, hv⟩ : ∃ v, v = xs.getD k 0 := ⟨_, rfl⟩
            rw [← hv] at c1 HV0
            clear hrw hv hrb
            have k1 : (k : Int) < (xn : Int) := by omega
            by_cases hin : 0 ≤ v ∧ v < 10007
            · have HIN := Lib.hid ((inB_iff v 0 10006).2 ⟨hin.1, by omega⟩)
              go_wp2_with fail
              refine (isResidue_any _ _).mono ?_
              rw [HIN.out]
              rintro e w1 ⟨rfl, rfl⟩
              go_wp2
              go_round
              case rel => exact ⟨k + 1, by omega, by go_num, fun u hu => by
                by_cases e : u = k
                · subst e; rw [HV0.out]; exact hin
                · exact HK.out u (by omega)⟩
              case measure => simp [intOf]; omega
            · have HIN := Lib.hid ((inB_not v 0 10006).2 (by omega))
              have HE : Hid (isFm X = false) := Lib.hid (HBAD.out fun r => hin (by have := r.2 k (by rw [HXL.out]; exact hlk); rwa [HV0.out] at this))
              go_wp2_with fail
              refine (isResidue_any _ _).mono ?_
              rw [HIN.out]
              rintro e w1 ⟨rfl, rfl⟩
              go_wp2
              go_ret
              exact ⟨ret_bool HE.out.symm, rfl⟩
          · have hkx : k = xn := by omega
            subst hkx
            go_wp2
            go_round
            case rel => exact ⟨i + 1, by omega, by go_num, fun u hu => by
              by_cases e : u = i
              · subst e; exact ⟨HLN.out.trans HXL.out.symm, fun j hj => HK.out j (by rw [HXL.out] at hj; exact hj)⟩
              · exact HG.out u (by omega)⟩
            case measure => simp [intOf]; omega
    · have HE : Hid (isFm X = true) := Lib.hid (isFm_yes ⟨by rw [HXL.out]; exact ⟨hs1, hs2⟩, fun u hu => HG.out u (by rw [HXL.out] at hu; omega)⟩)
      go_wp2
      go_ret
      exact ⟨ret_bool HE.out.symm, rfl⟩

theorem implIsFm_law {ad : Option Addr} {m cap : Nat} {rs : List RowV} {w : World} {X : List (List Int)} (hr : ReadsSS w ad m rs) (hm : m ≤ 1048576) (hX : X = rs.map RowV.xs) {b : Bool} (hM : isFm X = b) :
    Calls Try.prog 21 #[.slice ad m cap] w fun e w' => e = .returned (.bool b) ∧ Below w.heap.size w w' :=
  (implIsFm_any ad m cap rs w hr hm X hX).mono fun _ _ ⟨he, hw⟩ => ⟨by rw [he, hM], by rw [← hw]; exact Below.refl _ _⟩

theorem specIsFm_law {ad : Option Addr} {m cap : Nat} {rs : List RowV} {w : World} {X : List (List Int)} (hr : ReadsSS w ad m rs) (hm : m ≤ 1048576) (hX : X = rs.map RowV.xs) {b : Bool} (hM : isFm X = b) :
    Calls Try.prog 19 #[.slice ad m cap] w fun e w' => e = .returned (.bool b) ∧ Below w.heap.size w w' := by
  subst hM
  have HX := Lib.hid hX; have HR := Lib.hid hr; clear hr hX
  go_enter Try.func19, Try.ntmps19
  go_wp2_with fail
  refine (l09Is_any ad m cap rs w HR.out hm X HX.out).mono ?_
  rintro e w1 ⟨rfl, rfl⟩
  go_wp2
  go_ret
  exact ⟨rfl, Below.refl _ _⟩

end Go.Proofs.Ytelmdfkcclhhjaa
