/- Colours: the codes with colours, the model's and the program's. -/
import Derived.Test.YtoibcoaohmjfbaaColC
namespace Go.Proofs.Ytoibcoaohmjfbaa
open Go.RowKit Go.ChangeShapes

theorem colCode_eq (s : Int) (ls : List Int) (p : Int) (cs : List Int) : mColCode s ls p cs = if mPrmCode s ls p = 0 then (if (cs.length : Int) = s ∧ cs.all (fun c => inB c 0 (p - 1)) = true then 0 else 2) else mPrmCode s ls p := by
  unfold mColCode mPrmCode
  by_cases hb : isBraid s ls = true
  · rw [if_pos hb, if_pos hb]
    by_cases hp : isPrm p = true
    · rw [if_pos hp, if_pos rfl]
      by_cases h : (cs.length : Int) = s ∧ cs.all (fun c => inB c 0 (p - 1)) = true
      · rw [if_pos ⟨hp, h⟩, if_pos h]
      · rw [if_neg (fun e => h e.2), if_neg h]
    · rw [if_neg hp, if_neg (fun e => hp e.1), if_neg (by omega)]
  · rw [if_neg hb, if_neg hb, if_neg (by omega)]

theorem prmCode_cases (s : Int) (ls : List Int) (p : Int) : (mPrmCode s ls p = 0 ∧ isBraid s ls = true ∧ isPrm p = true) ∨ (mPrmCode s ls p = 1 ∧ isBraid s ls = false) ∨ (mPrmCode s ls p = 2 ∧ isBraid s ls = true ∧ isPrm p = false) := by
  unfold mPrmCode
  cases isBraid s ls <;> cases isPrm p <;> simp

set_option maxRecDepth 100000 in
set_option maxHeartbeats 1000000 in
theorem l08Code_any (s : Int) (a : Option Addr) (n cap : Nat) (ls : List Int) (p : Int) (b : Option Addr) (m capb : Nat) (cs : List Int) (w : World) (hr : Reads w a n ls) (hf : Fits ls) (hn : n ≤ 1048576) (hr2 : Reads w b m cs) (hm : m ≤ 1048576) :
    Calls Try.prog 66 #[.agg #[.int .i64 s, .slice a n cap], .int .i64 p, .slice b m capb] w fun e w' => e = .returned (.int .i64 (mColCode s ls p cs)) ∧ Below w.heap.size w w' := by
  have R := Lib.hid (hr.alloc (.cells #[.int .i64 s, .slice a n cap] 35)); clear hr
  have HX := Lib.hid hr2; have HCN := Lib.hid hr2.len; clear hr2
  have HF := Lib.hid hf; clear hf
  have A := Lib.hid (At2.new w (.int .i64 s) (.slice a n cap) 35)
  have BB := Lib.hid (below1 w (.cells #[.int .i64 s, .slice a n cap] 35))
  obtain ⟨qA1, qA2, qA3, qA4, qA5⟩ := A.out
  have hce := colCode_eq s ls p cs
  rcases prmCode_cases s ls p with ⟨h0, hb, hp⟩ | ⟨h0, hb⟩ | ⟨h0, hb, hp⟩
  · rw [h0, if_pos rfl] at hce
    obtain ⟨b1, b2⟩ := isPrm_bd hp
    have HCE := Lib.hid hce; clear hce h0
    by_cases hlen : (m : Int) = s
    · have t1 : ((m : Int) != s) = false := by simp [hlen]
      have HLE := Lib.hid hlen; clear hlen
      have hwp : IntKind.i64.wrap (p - 1) = p - 1 := IntWalk.i64_in _ (by omega)
      go_enter Try.func66, Try.ntmps66
      go_wp2_with fail
      refine (l01Is_any s a n cap ls _ R.out HF.out hn).mono ?_
      rintro e w1 ⟨rfl, hbb⟩
      clear qA1 qA2 qA3 qA4 qA5
      have B1 := Lib.hid (below_go BB.out hbb (by simp))
      replace A := Lib.hid (A.out.below hbb); clear hbb
      obtain ⟨qA1, qA2, qA3, qA4, qA5⟩ := A.out
      go_wp2_with fail
      refine (l08Prime_any p _).mono ?_
      rintro e w2 ⟨rfl, rfl⟩
      go_wp2
      clear qA1 qA2 qA3 qA4 qA5
      go_loop [7] (fun i => ∃ k : Nat, k ≤ m ∧ i = .int .i64 k ∧ Hid (∀ j, j < k → inB (cs.getD j 0) 0 (p - 1) = true)) (fun i => m - (intOf i).toNat)
      case atStart => exact ⟨0, Nat.zero_le _, rfl, Lib.hid (fun j hj => absurd hj (Nat.not_lt_zero _))⟩
      case round =>
        obtain ⟨k, hk, rfl, HS⟩ := hrel
        by_cases hlt : k < m
        · obtain ⟨gb, go', rfl, hgb, hgc⟩ := HX.out.cells (by omega)
          obtain ⟨x, hx⟩ : ∃ x, x = cs.getD k 0 := ⟨_, rfl⟩
          have c1 : w1.cell? ⟨gb, go' + k, none⟩ = some (.int .i64 x) := by rw [hx]; exact (B1.out.cell (p := ⟨gb, go' + k, none⟩) hgb).trans (hgc k hlt)
          have HX1 := Lib.hid hx; clear hx hgc
          cases hi : inB x 0 (p - 1) with
          | true =>
            have HI := Lib.hid hi
            go_wp2_with (go_at_call 78; refine (l01In_any _ _ _ _).mono ?_; rintro e w' ⟨rfl, rfl⟩; rw [hi])
            go_round
            case rel =>
              refine ⟨k + 1, by omega, by go_num, Lib.hid fun j hj => ?_⟩
              by_cases hjk : j = k
              · rw [hjk, ← HX1.out]; exact HI.out
              · exact HS.out j (by omega)
            case measure => simp [intOf]; omega
          | false =>
            have hno : ¬ ((cs.length : Int) = s ∧ cs.all (fun c => inB c 0 (p - 1)) = true) := fun h => by
              have := List.all_eq_true.1 h.2 _ (getD_mem cs k (by rw [HCN.out]; exact hlt))
              rw [← HX1.out, hi] at this
              cases this
            have hfin := HCE.out
            rw [if_neg hno] at hfin
            have HFN := Lib.hid hfin; clear hno hfin
            go_wp2_with (go_at_call 78; refine (l01In_any _ _ _ _).mono ?_; rintro e w' ⟨rfl, rfl⟩; rw [hi])
            go_ret
            exact ⟨ret_int HFN.out.symm, B1.out⟩
        · have hkn : k = m := by omega
          have hall : cs.all (fun c => inB c 0 (p - 1)) = true := all_of_getD cs _ (by rw [HCN.out]; exact fun j hj => HS.out j (by omega))
          have hfin := HCE.out
          rw [if_pos ⟨by rw [HCN.out]; exact HLE.out, hall⟩] at hfin
          have HFN := Lib.hid hfin; clear hfin hall hkn
          go_wp2
          go_ret
          exact ⟨ret_int HFN.out.symm, B1.out⟩
    · have t1 : ((m : Int) != s) = true := by simp [hlen]
      have hfin := HCE.out
      rw [if_neg (fun h => hlen (by rw [← HCN.out]; exact h.1))] at hfin
      have HFN := Lib.hid hfin; clear hfin hlen
      go_enter Try.func66, Try.ntmps66
      go_wp2_with fail
      refine (l01Is_any s a n cap ls _ R.out HF.out hn).mono ?_
      rintro e w1 ⟨rfl, hbb⟩
      clear qA1 qA2 qA3 qA4 qA5
      have B1 := Lib.hid (below_go BB.out hbb (by simp))
      replace A := Lib.hid (A.out.below hbb); clear hbb
      obtain ⟨qA1, qA2, qA3, qA4, qA5⟩ := A.out
      go_wp2_with fail
      refine (l08Prime_any p _).mono ?_
      rintro e w2 ⟨rfl, rfl⟩
      go_wp2
      go_ret
      exact ⟨ret_int HFN.out.symm, B1.out⟩
  · rw [h0, if_neg (by omega)] at hce
    have HCE := Lib.hid hce; clear hce h0
    go_enter Try.func66, Try.ntmps66
    go_wp2_with fail
    refine (l01Is_any s a n cap ls _ R.out HF.out hn).mono ?_
    rintro e w1 ⟨rfl, hbb⟩
    clear qA1 qA2 qA3 qA4 qA5
    have B1 := Lib.hid (below_go BB.out hbb (by simp)); clear hbb
    go_wp2
    go_ret
    exact ⟨ret_int HCE.out.symm, B1.out⟩
  · rw [h0, if_neg (by omega)] at hce
    have HCE := Lib.hid hce; clear hce h0
    go_enter Try.func66, Try.ntmps66
    go_wp2_with fail
    refine (l01Is_any s a n cap ls _ R.out HF.out hn).mono ?_
    rintro e w1 ⟨rfl, hbb⟩
    clear qA1 qA2 qA3 qA4 qA5
    have B1 := Lib.hid (below_go BB.out hbb (by simp)); clear hbb
    go_wp2_with fail
    refine (l08Prime_any p _).mono ?_
    rintro e w2 ⟨rfl, rfl⟩
    go_wp2
    go_ret
    exact ⟨ret_int HCE.out.symm, B1.out⟩

/-- No colour. -/
def noCol (p x : Int) : Bool := decide (x < 0) || decide (p ≤ x)

theorem strange_any (p x : Int) (g : Nat) (w : World) (hc : w.cell? ⟨g, 0, none⟩ = some (.int .i64 p)) :
    Calls Try.prog 88 #[.int .i64 x, .pointer (some ⟨g, 0, none⟩)] w fun e w' => e = .returned (.bool (noCol p x)) ∧ w = w' := by
  by_cases h1 : x < 0
  · go_enter Try.func88, Try.ntmps88
    go_wp2
    go_ret
    exact ⟨ret_bool (by simp [noCol, h1]), rfl⟩
  · by_cases h2 : p ≤ x
    all_goals
      go_enter Try.func88, Try.ntmps88
      go_wp2
      go_ret
      exact ⟨ret_bool (by simp [noCol, h2]; try omega), rfl⟩

set_option maxRecDepth 100000 in
set_option maxHeartbeats 1000000 in
theorem indexFunc_any (p : Int) (g : Nat) (b : Option Addr) (m capb : Nat) (cs : List Int) (w : World) (hc : w.cell? ⟨g, 0, none⟩ = some (.int .i64 p)) (hr : Reads w b m cs) (hm : m ≤ 1048576) :
    Calls Try.prog 100 #[.slice b m capb, .func (.func 88) #[] #[.pointer (some ⟨g, 0, none⟩)]] w fun e w' => ∃ r : Int, e = .returned (.int .i64 r) ∧ -1 ≤ r ∧ decide (0 ≤ r) = cs.any (noCol p) ∧ w = w' := by
  have HX := Lib.hid hr; have HCN := Lib.hid hr.len; clear hr
  have HST := Lib.hid (fun x => strange_any p x g w hc); clear hc
  go_enter Try.func100, Try.ntmps100
  go_wp2
  go_loop [8] (fun i => ∃ k : Nat, k ≤ m ∧ i = .int .i64 k ∧ Hid (∀ j, j < k → noCol p (cs.getD j 0) = false)) (fun i => m - (intOf i).toNat)
  case atStart => exact ⟨0, Nat.zero_le _, rfl, Lib.hid (fun j hj => absurd hj (Nat.not_lt_zero _))⟩
  case round =>
    obtain ⟨k, hk, rfl, HS⟩ := hrel
    by_cases hlt : k < m
    · obtain ⟨gb, go', rfl, hgb, hgc⟩ := HX.out.cells (by omega)
      obtain ⟨x, hx⟩ : ∃ x, x = cs.getD k 0 := ⟨_, rfl⟩
      have c1 : w.cell? ⟨gb, go' + k, none⟩ = some (.int .i64 x) := by rw [hx]; exact hgc k hlt
      have HX1 := Lib.hid hx; clear hx hgc
      cases hi : noCol p x with
      | true =>
        have hany : cs.any (noCol p) = true := List.any_eq_true.2 ⟨x, by rw [HX1.out]; exact getD_mem cs k (by rw [HCN.out]; exact hlt), hi⟩
        have HA := Lib.hid hany; clear hany
        go_wp2_with (go_at_call 88; refine (HST.out _).mono ?_; rintro e w' ⟨rfl, rfl⟩; rw [hi])
        go_ret
        exact ⟨(k : Int), rfl, by omega, by rw [HA.out]; exact decide_eq_true (by omega), rfl⟩
      | false =>
        have HI := Lib.hid hi
        go_wp2_with (go_at_call 88; refine (HST.out _).mono ?_; rintro e w' ⟨rfl, rfl⟩; rw [hi])
        go_round
        case rel =>
          refine ⟨k + 1, by omega, by go_num, Lib.hid fun j hj => ?_⟩
          by_cases hjk : j = k
          · rw [hjk, ← HX1.out]; exact HI.out
          · exact HS.out j (by omega)
        case measure => simp [intOf]; omega
    · have hkn : k = m := by omega
      have hall : cs.any (noCol p) = false := by
        rw [List.any_eq_false]
        intro x hx
        obtain ⟨j, hj, rfl⟩ := List.mem_iff_getElem.1 hx
        have := HS.out j (by have := HCN.out; omega)
        simp only [List.getD, List.getElem?_eq_getElem hj, Option.getD_some] at this
        rw [this]; simp
      have HA := Lib.hid hall; clear hall hkn
      go_wp2
      go_ret
      exact ⟨-1, rfl, by omega, by rw [HA.out]; rfl, rfl⟩

theorem containsFunc_any (p : Int) (g : Nat) (b : Option Addr) (m capb : Nat) (cs : List Int) (w : World) (hc : w.cell? ⟨g, 0, none⟩ = some (.int .i64 p)) (hr : Reads w b m cs) (hm : m ≤ 1048576) :
    Calls Try.prog 89 #[.slice b m capb, .func (.func 88) #[] #[.pointer (some ⟨g, 0, none⟩)]] w fun e w' => e = .returned (.bool (cs.any (noCol p))) ∧ w = w' := by
  have HI := Lib.hid (indexFunc_any p g b m capb cs w hc hr hm); clear hc hr
  go_enter Try.func89, Try.ntmps89
  go_wp2_with fail
  refine HI.out.mono ?_
  rintro e w1 ⟨r, rfl, h1, h2, rfl⟩
  have H2 := Lib.hid h2; clear h2 h1
  go_wp2
  go_ret
  exact ⟨ret_bool H2.out, rfl⟩

theorem noCol_all (p : Int) (cs : List Int) : cs.any (noCol p) = !cs.all (fun c => inB c 0 (p - 1)) := by
  induction cs with
  | nil => rfl
  | cons c cs ih =>
    rw [List.any_cons, List.all_cons, ih]
    have : noCol p c = !inB c 0 (p - 1) := by
      rw [Bool.eq_iff_iff]
      simp [noCol, inB]
      omega
    rw [this]
    cases inB c 0 (p - 1) <;> simp

set_option maxRecDepth 100000 in
set_option maxHeartbeats 1000000 in
theorem coloursCode_any (s : Int) (a : Option Addr) (n cap : Nat) (ls : List Int) (p : Int) (b : Option Addr) (m capb : Nat) (cs : List Int) (w : World) (hr : Reads w a n ls) (hn : n ≤ 1048576) (hr2 : Reads w b m cs) (hm : m ≤ 1048576) :
    Calls Try.prog 68 #[.agg #[.int .i64 s, .slice a n cap], .int .i64 p, .slice b m capb] w fun e w' => e = .returned (.int .i64 (mColCode s ls p cs)) ∧ Below w.heap.size w w' := by
  have R := Lib.hid ((hr.alloc (.cells #[.int .i64 s, .slice a n cap] 35)).alloc (.cells #[.int .i64 p] 2)); clear hr
  have HX := Lib.hid hr2; have HCN := Lib.hid hr2.len; clear hr2
  have A := Lib.hid ((At2.new w (.int .i64 s) (.slice a n cap) 35).alloc (.cells #[.int .i64 p] 2))
  have P := Lib.hid (At1.place (w.alloc (.cells #[.int .i64 s, .slice a n cap] 35)) (.int .i64 p) 2 (w.heap.size + 1) (by simp))
  have BB := Lib.hid (below2 w (.cells #[.int .i64 s, .slice a n cap] 35) (.cells #[.int .i64 p] 2))
  obtain ⟨qA1, qA2, qA3, qA4, qA5⟩ := A.out
  obtain ⟨qP1, qP2, qP3⟩ := P.out
  have hce := colCode_eq s ls p cs
  obtain ⟨pc, hpc⟩ : ∃ c, c = mPrmCode s ls p := ⟨_, rfl⟩
  rw [← hpc] at hce
  have HPC := Lib.hid hpc; clear hpc
  go_enter Try.func68, Try.ntmps68
  go_wp2_with fail
  refine (primeCode_any s a n cap ls p _ R.out hn).mono ?_
  rintro e w1 ⟨rfl, hbb⟩
  rw [← HPC.out]
  clear qA1 qA2 qA3 qA4 qA5 qP1 qP2 qP3
  have B1 := Lib.hid (below_go BB.out hbb (by simp; omega))
  replace A := Lib.hid (A.out.below hbb)
  replace P := Lib.hid (P.out.below hbb); clear hbb
  obtain ⟨qA1, qA2, qA3, qA4, qA5⟩ := A.out
  obtain ⟨qP1, qP2, qP3⟩ := P.out
  by_cases h0 : pc = 0
  · have t0 : (pc != 0) = false := by simp [h0]
    rw [if_pos h0] at hce
    have HCE := Lib.hid hce; clear hce h0
    by_cases hlen : (m : Int) = s
    · have t1 : ((m : Int) != s) = false := by simp [hlen]
      have hce2 := HCE.out
      have hna := noCol_all p cs
      obtain ⟨bb, hbb⟩ : ∃ c, c = cs.any (noCol p) := ⟨_, rfl⟩
      rw [← hbb] at hna
      have hfin : mColCode s ls p cs = if bb = true then 2 else 0 := by
        rw [hce2]
        cases bb with
        | true => rw [if_neg (fun h => by rw [h.2] at hna; cases hna)]; rfl
        | false => rw [if_pos ⟨by rw [HCN.out]; exact hlen, by simpa using hna⟩]; rfl
      have HFN := Lib.hid hfin; have HBB := Lib.hid hbb; clear hfin hbb hna hce2 hlen
      have X1 := Lib.hid (HX.out.below B1.out)
      go_wp2_with fail
      refine (containsFunc_any p (w.heap.size + 1) b m capb cs _ P.out.2.1 X1.out hm).mono ?_
      rintro e w2 ⟨rfl, rfl⟩
      rw [← HBB.out]
      cases bb with
      | true =>
        go_wp2
        go_ret
        exact ⟨ret_int (by rw [HFN.out]; rfl), B1.out⟩
      | false =>
        go_wp2
        go_ret
        exact ⟨ret_int (by rw [HFN.out]; rfl), B1.out⟩
    · have t1 : ((m : Int) != s) = true := by simp [hlen]
      have hfin := HCE.out
      rw [if_neg (fun h => hlen (by rw [← HCN.out]; exact h.1))] at hfin
      have HFN := Lib.hid hfin; clear hfin hlen
      go_wp2
      go_ret
      exact ⟨ret_int HFN.out.symm, B1.out⟩
  · have t0 : (pc != 0) = true := by simp [h0]
    rw [if_neg h0] at hce
    have HCE := Lib.hid hce; clear hce h0
    go_wp2
    go_ret
    exact ⟨ret_int HCE.out.symm, B1.out⟩

end Go.Proofs.Ytoibcoaohmjfbaa
