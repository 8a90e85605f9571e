/- Combs are told: the model and the program. -/
import Derived.Test.YtmlejlediflaaaaFwI
import Derived.Test.YtmlejlediflaaaaKitR
import Derived.Test.YtmlejlediflaaaaLawSS
namespace Go.Proofs.Ytmlejlediflaaaa
open Go.RowKit Go.ChangeShapes

/-- Row i is a free word of a comb for n strands. -/
def okRow (n : Int) (X : List (List Int)) (i : Nat) : Prop := (X.getD i []).length ≤ 400 ∧ isFree (n - 1 - i) (X.getD i []) = true
instance (n : Int) (X : List (List Int)) (i : Nat) : Decidable (okRow n X i) := by unfold okRow; infer_instance

/-- The rows are a comb for n strands. -/
def isComb (n : Int) (X : List (List Int)) : Bool := decide ((1 ≤ n ∧ n ≤ 8) ∧ (X.length : Int) = n - 1 ∧ ∀ i, i < X.length → okRow n X i)

theorem isComb_iff (n : Int) (X : List (List Int)) : isComb n X = true ↔ (1 ≤ n ∧ n ≤ 8) ∧ (X.length : Int) = n - 1 ∧ ∀ i, i < X.length → okRow n X i := by simp [isComb]
theorem isComb_no {n : Int} {X : List (List Int)} (h : ¬ ((1 ≤ n ∧ n ≤ 8) ∧ (X.length : Int) = n - 1 ∧ ∀ i, i < X.length → okRow n X i)) : isComb n X = false := by
  rw [← Bool.not_eq_true, isComb_iff]; exact h
theorem isComb_bad {n : Int} {X : List (List Int)} {i : Nat} (hi : i < X.length) (h : ¬ okRow n X i) : isComb n X = false := isComb_no fun k => h (k.2.2 i hi)

theorem rowX_map (rs : List RowV) (i : Nat) (h : i < rs.length) : ((rs.map RowV.xs).getD i []) = rs[i].xs := by simp [List.getD, h]

/-- The index of a number, as the model takes it: the least number is its own opposite. -/
theorem in_max (x y J : Int) (hx : (Lit.int .i64 x).wf = true) (hy : IntKind.i64.wrap (-x) = y) (hJ : J ≤ 1000) : (okLetter (J + 1) x = true → y = -x) ∧ inB (max x y) 1 J = okLetter (J + 1) x ∧ inB (if x < y then y else x) 1 J = okLetter (J + 1) x := by
  have hb := bounds_i64 hx
  have he : (if x < y then y else x) = max x y := by split <;> omega
  rw [he]
  by_cases hmin : x = -9223372036854775808
  · have hy2 : y = x := by rw [← hy, hmin]; rfl
    have h1 : okLetter (J + 1) x = false := by rw [← Bool.not_eq_true, okLetter_iff]; omega
    rw [h1]
    have h2 : inB (max x y) 1 J = false := (inB_not _ _ _).2 (by omega)
    exact ⟨fun h => (by cases h), h2, h2⟩
  · have hy2 : y = -x := by rw [← hy]; exact IntWalk.i64_in _ (by omega)
    have h1 : inB (max x y) 1 J = okLetter (J + 1) x := by
      rw [Bool.eq_iff_iff, inB_iff, okLetter_iff, hy2]; omega
    exact ⟨fun _ => hy2, h1, h1⟩

set_option maxRecDepth 100000 in
set_option maxHeartbeats 2000000 in
theorem l10Is_any (n : Int) (ad : Option Addr) (m cap : Nat) (rs : List RowV) (w : World) (hr : ReadsSS w ad m rs) (hm : m ≤ 1048576) (X : List (List Int)) (hX : X = rs.map RowV.xs) (hF : ∀ r ∈ X, Fits r) :
    Calls Try.prog 63 #[.int .i64 n, .slice ad m cap] w fun e w' => e = .returned (.bool (isComb n X)) ∧ w = w' := by
  have HL := Lib.hid hr.1
  have HXL : Hid (X.length = m) := Lib.hid (by rw [hX, List.length_map]; exact hr.1)
  have HX := Lib.hid hX
  have HF := Lib.hid hF
  have HR := Lib.hid hr; clear hr hX hF
  by_cases hn : 1 ≤ n ∧ n ≤ 8
  rotate_left
  · have HE : Hid (isComb n X = false) := Lib.hid (isComb_no fun k => hn k.1)
    have t1 : inB n 1 8 = false := (inB_not _ _ _).2 (by omega)
    go_enter Try.func63, Try.ntmps63
    go_wp2_with (go_at_call 59; refine (l01In_any _ _ _ _).mono ?_; rintro e w' ⟨rfl, rfl⟩)
    go_ret
    exact ⟨ret_bool HE.out.symm, rfl⟩
  have t1 : inB n 1 8 = true := (inB_iff _ _ _).2 hn
  have e1 : IntKind.i64.wrap (n - 1) = n - 1 := IntWalk.i64_in _ (by omega)
  by_cases hmn : (m : Int) = n - 1
  rotate_left
  · have HE : Hid (isComb n X = false) := Lib.hid (isComb_no fun k => hmn (by rw [← HXL.out]; exact k.2.1))
    have t2 : ((m : Int) != n - 1) = true := by simp [hmn]
    have HMN := Lib.hid hmn; clear hmn
    go_enter Try.func63, Try.ntmps63
    go_wp2_with (go_at_call 59; refine (l01In_any _ _ _ _).mono ?_; rintro e w' ⟨rfl, rfl⟩)
    go_ret
    exact ⟨ret_bool HE.out.symm, rfl⟩
  have t2 : ((m : Int) != n - 1) = false := by simp [hmn]
  have HMN := Lib.hid hmn
  obtain ⟨n1, n8⟩ := hn
  have m7 : m ≤ 7 := by omega
  clear hmn
  go_enter Try.func63, Try.ntmps63
  go_wp2_with (go_at_call 59; refine (l01In_any _ _ _ _).mono ?_; rintro e w' ⟨rfl, rfl⟩)
  clear t1 t2
  go_loop [5] (fun iv => ∃ i : Nat, i ≤ m ∧ iv = .int .i64 i ∧ ∀ u, u < i → okRow n X u) (fun iv => m - (intOf iv).toNat)
  case atStart => exact ⟨0, Nat.zero_le _, rfl, fun u hu => absurd hu (Nat.not_lt_zero _)⟩
  case round =>
    obtain ⟨i, hi, rfl, hG⟩ := hrel
    have HG := Lib.hid hG; clear hG
    by_cases hlt : i < m
    · have hil : i < rs.length := by rw [HL.out]; exact hlt
      have hiX : i < X.length := by rw [HXL.out]; exact hlt
      obtain ⟨b, off, rfl, hc⟩ := HR.out.2.1.resolve_left (by omega)
      have c0 := hc i hil
      have hrow := (HR.out.2.2 _ (List.getElem_mem hil)).1
      have hxn := (HR.out.2.2 _ (List.getElem_mem hil)).2
      have HRW : Hid (X.getD i [] = rs[i].xs) := Lib.hid (by rw [HX.out, rowX_map rs i hil])
      have HFR : Hid (Fits rs[i].xs) := Lib.hid (HF.out _ (by rw [HX.out]; exact List.mem_map_of_mem (List.getElem_mem hil)))
      have HBAD : Hid (¬ okRow n X i → isComb n X = false) := Lib.hid (isComb_bad hiX)
      obtain ⟨x, hx⟩ : ∃ x, x = rs[i] := ⟨_, rfl⟩
      rw [← hx] at c0 hrow hxn HRW HFR
      clear hc hx hil hiX
      obtain ⟨xb, xa, xn, xc, xs⟩ := x
      simp only at c0 hrow hxn HRW HFR
      have HLEN := Lib.hid hrow.len
      have HROW := Lib.hid hrow; clear hrow
      obtain ⟨J, hJ⟩ : ∃ J : Int, J = n - 1 - i := ⟨_, rfl⟩
      have e2 : IntKind.i64.wrap (n - 1 - (i : Int)) = J := (IntWalk.i64_in _ (by omega)).trans hJ.symm
      have J1 : 1 ≤ J := by have := HMN.out; omega
      have J7 : J ≤ 7 := by omega
      have HJ := Lib.hid hJ; clear hJ
      have i1 : (i : Int) < (m : Int) := by omega
      by_cases h4 : xn ≤ 400
      rotate_left
      · have HE : Hid (isComb n X = false) := Lib.hid (HBAD.out fun k => h4 (by have := k.1; rw [HRW.out, HLEN.out] at this; exact this))
        have t3 : (xn : Int) > 400 := by omega
        go_wp2
        go_ret
        exact ⟨ret_bool HE.out.symm, rfl⟩
      have t3 : ¬ ((xn : Int) > 400) := by omega
      go_wp2
      clear t3
      go_loop [7] (fun kv => ∃ k : Nat, k ≤ xn ∧ kv = .int .i64 k ∧ ∀ u, u < k → okFree J xs u = true) (fun kv => xn - (intOf kv).toNat)
      case atStart => exact ⟨0, Nat.zero_le _, rfl, fun u hu => absurd hu (Nat.not_lt_zero _)⟩
      case round =>
        obtain ⟨k, hk, rfl, hK⟩ := hrel
        have HK := Lib.hid hK; clear hK
        by_cases hlk : k < xn
        · obtain ⟨rb, ro, rfl, hrb, hrw⟩ := HROW.out.cells (by omega)
          have c1 := hrw k hlk
          have HC2 : Hid (0 < k → w.cell? ⟨rb, ro + (k - 1), none⟩ = some (.int .i64 (xs.getD (k - 1) 0))) := Lib.hid fun _ => hrw (k - 1) (by omega)
          obtain ⟨v, hv⟩ : ∃ v, v = xs.getD k 0 := ⟨_, rfl⟩
          rw [← hv] at c1
          have HV := Lib.hid hv
          have hvf : (Lit.int .i64 v).wf = true := HFR.out v (by rw [hv]; exact getD_mem xs k (by rw [HLEN.out]; exact hlk))
          obtain ⟨y, hy⟩ : ∃ y, IntKind.i64.wrap (-v) = y := ⟨_, rfl⟩
          obtain ⟨M0, M1, M2⟩ := in_max v y J hvf hy (by omega)
          have HM0 := Lib.hid M0; have HM1 := Lib.hid M1; have HM2 := Lib.hid M2
          have HNO : Hid (okFree J xs k = false → isComb n X = false) := Lib.hid fun h => HBAD.out fun r => by
            have h2 := ((isFree_iff _ _).1 r.2).2.2.2 k (by rw [HRW.out, HLEN.out]; exact hlk)
            rw [HRW.out, ← HJ.out, h] at h2
            cases h2
          clear hrw hv hrb hvf M0 M1 M2
          have k1 : (k : Int) < (xn : Int) := by omega
          obtain ⟨o, ho⟩ : ∃ o, okLetter (J + 1) v = o := ⟨_, rfl⟩
          have HO := Lib.hid ho; clear ho
          have HM3 := Lib.hid (HM2.out.trans HO.out)
          by_cases hvy : v < y
          all_goals
            first | rw [if_pos hvy] at HM3 | rw [if_neg hvy] at HM3
            go_wp2_with fail
            refine (l01In_yes _ 1 J _ o HM3.out).mono ?_
            rintro e w1 ⟨rfl, rfl⟩
            cases o with
            | false =>
              have HE : Hid (isComb n X = false) := Lib.hid (HNO.out (by unfold okFree; rw [← HV.out, HO.out]; rfl))
              go_wp2
              go_ret
              exact ⟨ret_bool HE.out.symm, rfl⟩
            | true =>
              have hy2 := HM0.out HO.out
              rw [hy2] at hy
              have HY := Lib.hid hy2
              clear hy2
              rcases Nat.eq_zero_or_pos k with h0 | h0
              · have HOK : Hid (okFree J xs k = true) := Lib.hid (by unfold okFree; rw [← HV.out, HO.out, h0]; rfl)
                have d0 : ¬ ((k : Int) > 0) := by omega
                have HH0 := Lib.hid h0; clear h0
                go_wp2
                go_round
                case rel => exact ⟨k + 1, by omega, by go_num, fun u hu => by
                  by_cases e : u = k
                  · rw [e]; exact HOK.out
                  · exact HK.out u (by omega)⟩
                case measure => simp [intOf]; omega
              · have d0 : ((k : Int) > 0) := by omega
                obtain ⟨q, hq⟩ : ∃ q, k = q + 1 := ⟨k - 1, by omega⟩
                have c2 := HC2.out h0
                rw [show k - 1 = q by omega] at c2
                obtain ⟨z, hz⟩ : ∃ z, z = xs.getD q 0 := ⟨_, rfl⟩
                rw [← hz] at c2
                have hwq : IntKind.i64.wrap ((k : Int) - 1) = (q : Int) := (IntWalk.i64_in _ (by omega)).trans (by omega)
                have q0 : (0 : Int) ≤ (q : Int) := by omega
                have q1 : (q : Int) < (xn : Int) := by omega
                have HZ := Lib.hid hz; clear hz
                have HQ := Lib.hid hq; clear hq h0
                by_cases hzv : z = -v
                · have t5 : (z == -v) = true := by simp [hzv]
                  have HE : Hid (isComb n X = false) := Lib.hid (HNO.out (by
                    unfold okFree
                    rw [show k - 1 = q by have := HQ.out; omega, ← HZ.out, ← HV.out, hzv]
                    have := HQ.out
                    simp; intros; omega))
                  have HZV := Lib.hid hzv; clear hzv
                  go_wp2
                  go_ret
                  exact ⟨ret_bool HE.out.symm, rfl⟩
                · have t5 : (z == -v) = false := by simp [hzv]
                  have HOK : Hid (okFree J xs k = true) := Lib.hid (by
                    unfold okFree
                    rw [show k - 1 = q by have := HQ.out; omega, ← HZ.out, ← HV.out, HO.out]
                    simp; right; omega)
                  have HZV := Lib.hid hzv; clear hzv
                  go_wp2
                  go_round
                  case rel => exact ⟨k + 1, by omega, by go_num, fun u hu => by
                    by_cases e : u = k
                    · rw [e]; exact HOK.out
                    · exact HK.out u (by omega)⟩
                  case measure => simp [intOf]; omega
        · have hkx : k = xn := by omega
          have HKX := Lib.hid hkx; clear hkx
          go_wp2
          go_round
          case rel => exact ⟨i + 1, by omega, by go_num, fun u hu => by
            by_cases e : u = i
            · rw [e]
              refine ⟨by rw [HRW.out, HLEN.out]; exact h4, ?_⟩
              rw [HRW.out, ← HJ.out]
              exact isFree_all J xn xs J1 (by omega) (by omega) HLEN.out (fun j hj => HK.out j (by have := HKX.out; omega))
            · exact HG.out u (by omega)⟩
          case measure => simp [intOf]; omega
    · have HE : Hid (isComb n X = true) := Lib.hid ((isComb_iff n X).2 ⟨⟨n1, n8⟩, by rw [HXL.out]; exact HMN.out, fun u hu => HG.out u (by rw [HXL.out] at hu; omega)⟩)
      go_wp2
      go_ret
      exact ⟨ret_bool HE.out.symm, rfl⟩

set_option maxRecDepth 100000 in
set_option maxHeartbeats 2000000 in
theorem implIsComb_any (n : Int) (ad : Option Addr) (m cap : Nat) (rs : List RowV) (w : World) (hr : ReadsSS w ad m rs) (hm : m ≤ 1048576) (X : List (List Int)) (hX : X = rs.map RowV.xs) :
    Calls Try.prog 25 #[.int .i64 n, .slice ad m cap] w fun e w' => e = .returned (.bool (isComb n X)) ∧ Below w.heap.size w w' := by
  have HL := Lib.hid hr.1
  have HXL : Hid (X.length = m) := Lib.hid (by rw [hX, List.length_map]; exact hr.1)
  have HX := Lib.hid hX
  have HR := Lib.hid hr; clear hr hX
  by_cases d1 : n < 1
  · have HE : Hid (isComb n X = false) := Lib.hid (isComb_no fun k => by have := k.1.1; omega)
    go_enter Try.func25, Try.ntmps25
    go_wp2
    go_ret
    exact ⟨ret_bool HE.out.symm, Below.refl _ _⟩
  by_cases d2 : n > 8
  · have HE : Hid (isComb n X = false) := Lib.hid (isComb_no fun k => by have := k.1.2; omega)
    go_enter Try.func25, Try.ntmps25
    go_wp2
    go_ret
    exact ⟨ret_bool HE.out.symm, Below.refl _ _⟩
  have e1 : IntKind.i64.wrap (n - 1) = n - 1 := IntWalk.i64_in _ (by omega)
  by_cases hmn : (m : Int) = n - 1
  rotate_left
  · have HE : Hid (isComb n X = false) := Lib.hid (isComb_no fun k => hmn (by rw [← HXL.out]; exact k.2.1))
    have t2 : ((m : Int) != n - 1) = true := by simp [hmn]
    have HMN := Lib.hid hmn; clear hmn
    go_enter Try.func25, Try.ntmps25
    go_wp2
    go_ret
    exact ⟨ret_bool HE.out.symm, Below.refl _ _⟩
  have t2 : ((m : Int) != n - 1) = false := by simp [hmn]
  have HMN := Lib.hid hmn
  have m7 : m ≤ 7 := by omega
  clear hmn
  go_enter Try.func25, Try.ntmps25
  go_wp2
  clear t2
  go_loopw [22] (fun iv wr => ∃ i : Nat, i ≤ m ∧ iv = .int .i64 i ∧ (∀ u, u < i → okRow n X u) ∧ Below w.heap.size w wr) (fun iv _ => m - (intOf iv).toNat)
  case atStart => exact ⟨0, Nat.zero_le _, rfl, fun u hu => absurd hu (Nat.not_lt_zero _), Below.refl _ _⟩
  case round =>
    obtain ⟨i, hi, rfl, hG, hBB⟩ := hrel
    have HG := Lib.hid hG; clear hG
    have BB := Lib.hid hBB; clear hBB
    by_cases hlt : i < m
    · have hil : i < rs.length := by rw [HL.out]; exact hlt
      have hiX : i < X.length := by rw [HXL.out]; exact hlt
      obtain ⟨b, off, rfl, hc⟩ := HR.out.2.1.resolve_left (by omega)
      have c0 := (BB.out.cell (World.block_lt_of_cell? _ _ (hc i hil))).trans (hc i hil)
      have hrow := (HR.out.2.2 _ (List.getElem_mem hil)).1.below BB.out
      have hxn := (HR.out.2.2 _ (List.getElem_mem hil)).2
      have HRW : Hid (X.getD i [] = rs[i].xs) := Lib.hid (by rw [HX.out, rowX_map rs i hil])
      have HBAD : Hid (¬ okRow n X i → isComb n X = false) := Lib.hid (isComb_bad hiX)
      obtain ⟨x, hx⟩ : ∃ x, x = rs[i] := ⟨_, rfl⟩
      rw [← hx] at c0 hrow hxn HRW
      clear hc hx hil hiX
      obtain ⟨xb, xa, xn, xc, xs⟩ := x
      simp only at c0 hrow hxn HRW
      have HLEN := Lib.hid hrow.len
      have HROW := Lib.hid hrow; clear hrow
      obtain ⟨J, hJ⟩ : ∃ J : Int, J = n - 1 - i := ⟨_, rfl⟩
      have e2 : IntKind.i64.wrap (n - 1 - (i : Int)) = J := (IntWalk.i64_in _ (by omega)).trans hJ.symm
      have HJ := Lib.hid hJ; clear hJ
      have i1 : (i : Int) < (m : Int) := by omega
      by_cases h4 : xn ≤ 400
      rotate_left
      · have HE : Hid (isComb n X = false) := Lib.hid (HBAD.out fun k => h4 (by have := k.1; rw [HRW.out, HLEN.out] at this; exact this))
        have t3 : (xn : Int) > 400 := by omega
        go_wp2
        go_ret
        exact ⟨ret_bool HE.out.symm, BB.out⟩
      have t3 : ¬ ((xn : Int) > 400) := by omega
      obtain ⟨o, ho⟩ : ∃ o, isFree J xs = o := ⟨_, rfl⟩
      have HO := Lib.hid ho; clear ho
      go_wp2_with fail
      refine (isFreeWord_any J xa xn xc xs _ HROW.out hxn).mono ?_
      rw [HO.out]
      rintro e w1 ⟨rfl, hb⟩
      have BB1 := Lib.hid (below_go BB.out hb BB.out.size); clear hb
      cases o with
      | false =>
        have HE : Hid (isComb n X = false) := Lib.hid (HBAD.out fun k => by have := k.2; rw [HRW.out, ← HJ.out, HO.out] at this; cases this)
        go_wp2
        go_ret
        exact ⟨ret_bool HE.out.symm, BB1.out⟩
      | true =>
        go_wp2
        go_round
        case rel => exact ⟨i + 1, by omega, by go_num, fun u hu => by
          by_cases e : u = i
          · rw [e]; exact ⟨by rw [HRW.out, HLEN.out]; exact h4, by rw [HRW.out, ← HJ.out]; exact HO.out⟩
          · exact HG.out u (by omega), BB1.out⟩
        case measure => simp [intOf]; omega
    · have HE : Hid (isComb n X = true) := Lib.hid ((isComb_iff n X).2 ⟨⟨by omega, by omega⟩, by rw [HXL.out]; exact HMN.out, fun u hu => HG.out u (by rw [HXL.out] at hu; omega)⟩)
      go_wp2
      go_ret
      exact ⟨ret_bool HE.out.symm, BB.out⟩

theorem implIsComb_law {n : Int} {ad : Option Addr} {m cap : Nat} {rs : List RowV} {w : World} {X : List (List Int)} (hr : ReadsSS w ad m rs) (hm : m ≤ 1048576) (hX : X = rs.map RowV.xs) {b : Bool} (hM : isComb n X = b) :
    Calls Try.prog 25 #[.int .i64 n, .slice ad m cap] w fun e w' => e = .returned (.bool b) ∧ Below w.heap.size w w' :=
  (implIsComb_any n ad m cap rs w hr hm X hX).mono fun _ _ ⟨he, hw⟩ => ⟨by rw [he, hM], hw⟩

theorem specIsComb_law {n : Int} {ad : Option Addr} {m cap : Nat} {rs : List RowV} {w : World} {X : List (List Int)} (hF : ∀ r ∈ X, Fits r) (hr : ReadsSS w ad m rs) (hm : m ≤ 1048576) (hX : X = rs.map RowV.xs) {b : Bool} (hM : isComb n X = b) :
    Calls Try.prog 23 #[.int .i64 n, .slice ad m cap] w fun e w' => e = .returned (.bool b) ∧ Below w.heap.size w w' := by
  subst hM
  have HX := Lib.hid hX; have HR := Lib.hid hr; have HF := Lib.hid hF; clear hr hX hF
  go_enter Try.func23, Try.ntmps23
  go_wp2_with fail
  refine (l10Is_any n ad m cap rs w HR.out hm X HX.out HF.out).mono ?_
  rintro e w1 ⟨rfl, rfl⟩
  go_wp2
  go_ret
  exact ⟨rfl, Below.refl _ _⟩

end Go.Proofs.Ytmlejlediflaaaa
