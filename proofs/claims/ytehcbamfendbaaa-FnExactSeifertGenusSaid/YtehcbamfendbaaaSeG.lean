/- SeifertGenus: the program and the model. -/
import Derived.Test.YtehcbamfendbaaaSCmO
import Derived.Test.YtehcbamfendbaaaRemS
import Derived.Test.YtehcbamfendbaaaSei
namespace Go.Proofs.Ytehcbamfendbaaa
open Go.RowKit Go.ChangeShapes

/-- Whether each index from 1 to m occurs. -/
def occ (xs : List Int) (q : Int) : Bool := xs.any fun x => idx x == q
def conB (m : Nat) (xs : List Int) : Bool := (List.range m).all fun j => occ xs ((j : Int) + 1)

/-- The genus, and the code. -/
noncomputable def mGen (s : Int) (xs : List Int) : Int × Int :=
  if isBraid s xs = true then (if conB (s - 1).toNat xs = true then ((2 - ((cmpL s.toNat (permP s.toNat xs)).length : Int) - (s - xs.length)).tdiv 2, 0) else (0, 5)) else (0, 1)

theorem occ_iff (xs : List Int) (q : Int) : occ xs q = true ↔ ∃ j, j < xs.length ∧ idx (xs.getD j 0) = q := by
  unfold occ
  rw [List.any_eq_true]
  constructor
  · rintro ⟨x, hx, e⟩
    obtain ⟨j, hj, rfl⟩ := List.mem_iff_getElem.1 hx
    exact ⟨j, hj, by simpa [List.getD, hj] using e⟩
  · rintro ⟨j, hj, e⟩
    exact ⟨xs.getD j 0, getD_mem xs j hj, by simpa using e⟩

theorem first_occ {q r : Int} {xs : List Int} (h : FirstAt q xs r) : (r < 0 ∧ occ xs q = false) ∨ (0 ≤ r ∧ occ xs q = true) := by
  rcases h with ⟨rfl, h⟩ | ⟨j, rfl, hj, he, -⟩
  · refine .inl ⟨by omega, ?_⟩
    rw [Bool.eq_false_iff]
    intro hc
    obtain ⟨j, hj, e⟩ := (occ_iff _ _).1 hc
    exact h j hj e
  · exact .inr ⟨by omega, (occ_iff _ _).2 ⟨j, hj, he⟩⟩

theorem conB_step (m : Nat) (xs : List Int) : conB (m + 1) xs = (conB m xs && occ xs ((m : Int) + 1)) := by
  unfold conB
  rw [List.range_succ, List.all_append]
  simp

theorem conB_no {m k : Nat} {xs : List Int} (hk : k < m) (h : occ xs ((k : Int) + 1) = false) : conB m xs = false := by
  unfold conB
  rw [List.all_eq_false]
  exact ⟨k, List.mem_range.2 hk, by rw [h]; simp⟩

theorem tdiv2_bdG {x b : Int} (h : -b ≤ x ∧ x ≤ b) (hb : 0 ≤ b) : -b ≤ x.tdiv 2 ∧ x.tdiv 2 ≤ b := by
  rcases Int.lt_or_le x 0 with h0 | h0
  · have e : x.tdiv 2 = -((-x).tdiv 2) := by rw [Int.neg_tdiv, Int.neg_neg]
    rw [e, Int.tdiv_eq_ediv_of_nonneg (by omega)]
    omega
  · rw [Int.tdiv_eq_ediv_of_nonneg h0]
    omega

set_option maxRecDepth 100000 in
set_option maxHeartbeats 1000000 in
theorem isConnected_any (m : Nat) (hm : m ≤ 7) (a : Option Addr) (n cap : Nat) (xs : List Int) (w : World) (hr : Reads w a n xs) (hsm : Small xs) (hn : n ≤ 1048576) :
    Calls Try.prog 68 #[.agg #[.int .i64 ((m : Int) + 1), .slice a n cap]] w fun e w' => e = .returned (.bool (conB m xs)) ∧ Below w.heap.size w w' := by
  have R := Lib.hid (hr.alloc (.cells #[.int .i64 ((m : Int) + 1), .slice a n cap] 29)); clear hr
  have HSM := Lib.hid hsm; clear hsm
  have A := Lib.hid (At2.new w (.int .i64 ((m : Int) + 1)) (.slice a n cap) 29)
  have BB := Lib.hid (below1 w (.cells #[.int .i64 ((m : Int) + 1), .slice a n cap] 29))
  obtain ⟨W, hW⟩ : ∃ W, W = w.alloc (.cells #[.int .i64 ((m : Int) + 1), .slice a n cap] 29) := ⟨_, rfl⟩
  go_enter Try.func68, Try.ntmps68
  go_wp2
  rw [← hW] at A R BB ⊢
  clear hW
  go_loopw [3] (fun i wr => ∃ k : Nat, k ≤ m ∧ i = .int .i64 ((k : Int) + 1) ∧ Hid (conB k xs = true) ∧ Below W.heap.size W wr) (fun i _ => m + 1 - (intOf i).toNat)
  case atStart => exact ⟨0, by omega, rfl, Lib.hid rfl, Below.refl _ _⟩
  case round =>
    obtain ⟨k, hk, rfl, HC, hb⟩ := hrel
    have HB := Lib.hid hb; clear hb
    obtain ⟨qA1, qA2, qA3, qA4, qA5⟩ := A.out.below HB.out
    have R2 := Lib.hid (R.out.below HB.out)
    by_cases hlt : k < m
    · have k1 : (k : Int) + 1 < (m : Int) + 1 := by omega
      have wk : IntKind.i64.wrap ((k : Int) + 1 + 1) = (k : Int) + 1 + 1 := IntWalk.i64_in _ (by omega)
      go_wp2_with fail
      refine (firstWith_any _ a n cap xs ((k : Int) + 1) _ R2.out HSM.out hn).mono ?_
      rintro e w1 ⟨r, rfl, hf, hb⟩
      have HB2 := Lib.hid (below_go HB.out hb HB.out.size); clear hb
      rcases first_occ hf with ⟨hr, ho⟩ | ⟨hr, ho⟩
      · have HO := Lib.hid ho
        have HB3 := Lib.hid (BB.out.trans (HB2.out.mono BB.out.size))
        clear hf ho qA1 qA2 qA3 qA4 qA5
        go_wp2
        go_ret
        exact ⟨ret_bool (conB_no hlt HO.out).symm, HB3.out⟩
      · have HO := Lib.hid ho
        have hr2 : ¬ r < 0 := by omega
        clear hf ho qA1 qA2 qA3 qA4 qA5
        go_wp2
        go_roundw
        case rel => exact ⟨k + 1, by omega, by go_num, Lib.hid (by rw [conB_step, HC.out, HO.out]; rfl), HB2.out⟩
        case measure => simp [intOf]; omega
    · have hkm : k = m := by omega
      subst hkm
      have k1 : ¬ (k : Int) + 1 < (k : Int) + 1 := by omega
      have HB3 := Lib.hid (BB.out.trans (HB.out.mono BB.out.size))
      go_wp2
      go_ret
      exact ⟨ret_bool HC.out.symm, HB3.out⟩

/-- The value of the genus is small. -/
theorem gen_bd {c n s : Int} (hc : 0 ≤ c ∧ c ≤ 8) (hs : 1 ≤ s ∧ s ≤ 8) (hn : 0 ≤ n ∧ n ≤ 200) {v : Int} (hv : v = 2 - c - (s - n)) : IntKind.i64.wrap (2 - c) = 2 - c ∧ IntKind.i64.wrap (2 - c - (s - n)) = v ∧ IntKind.i64.wrap (2 - c - s) = 2 - c - s ∧ IntKind.i64.wrap (2 - c - s + n) = v ∧ IntKind.i64.wrap (v.tdiv 2) = v.tdiv 2 := by
  have hb := tdiv2_bdG (x := v) (b := 300) (by omega) (by omega)
  exact ⟨IntWalk.i64_in _ (by omega), (IntWalk.i64_in _ (by omega)).trans hv.symm, IntWalk.i64_in _ (by omega), (IntWalk.i64_in _ (by omega)).trans (by omega), IntWalk.i64_in _ (by omega)⟩

set_option maxRecDepth 100000 in
set_option maxHeartbeats 1000000 in
theorem implGen_any {s : Int} {a : Option Addr} {n cap : Nat} {xs : List Int} {w : World} {fv fc : Int} (hr : Reads w a n xs) (hf : Fits xs) (hn : n ≤ 1048576) (hM : mGen s xs = (fv, fc)) :
    Calls Try.prog 30 #[.agg #[.int .i64 s, .slice a n cap]] w fun e w' => e = .returned (.tuple #[.int .i64 fv, .int .i64 fc]) ∧ Below w.heap.size w w' := by
  have HL := Lib.hid hr.len
  have R := Lib.hid (hr.alloc (.cells #[.int .i64 s, .slice a n cap] 29)); clear hr
  have HF := Lib.hid hf; clear hf
  have A := Lib.hid (At2.new w (.int .i64 s) (.slice a n cap) 29)
  have BB := Lib.hid (below1 w (.cells #[.int .i64 s, .slice a n cap] 29))
  obtain ⟨qA1, qA2, qA3, qA4, qA5⟩ := A.out
  by_cases hbr : isBraid s xs = true
  · have HBR := Lib.hid hbr
    have g1 := lo_of_isBraid _ _ hbr
    have g2 := hi_of_isBraid _ _ hbr
    have g3 := len_of_isBraid _ _ hbr
    have hnn : n ≤ 200 := by have := HL.out; omega
    have HLS := Lib.hid (letts_of_isBraid hbr)
    have HSM : Hid (Small xs) := Lib.hid fun x hx => (HLS.out x hx).small (by omega)
    obtain ⟨m, hm⟩ : ∃ m : Nat, s = (m : Int) + 1 := ⟨(s - 1).toNat, by omega⟩
    have hcl := mCmp_len2 s xs
    have HMC : Hid (mCmp s xs = (cmpL s.toNat (permP s.toNat xs), 0)) := Lib.hid (by rw [mCmp, if_pos hbr])
    rw [HMC.out] at hcl
    have HM : Hid ((if conB m xs = true then ((2 - ((cmpL s.toNat (permP s.toNat xs)).length : Int) - (s - xs.length)).tdiv 2, 0) else (0, 5)) = (fv, fc)) := Lib.hid (by rw [← hM, mGen, if_pos hbr, show (s - 1).toNat = m by omega])
    obtain ⟨L, hL⟩ : ∃ L, L = cmpL s.toNat (permP s.toNat xs) := ⟨_, rfl⟩
    simp only at hcl
    rw [← hL] at hcl HM HMC
    have HMS : Hid (mSeif s xs = (s - xs.length, 0)) := Lib.hid (by rw [mSeif, if_pos hbr])
    clear hM hbr g3 hL
    subst hm
    have hm7 : m ≤ 7 := by omega
    go_enter Try.func30, Try.ntmps30
    go_wp2_with fail
    refine (implCmp_any R.out HF.out hn HMC.out).mono ?_
    rintro e w1 ⟨a1, c1, rs, rfl, hrs, hG, hb⟩
    clear qA1 qA2 qA3 qA4 qA5
    have hrl : rs.length = L.length := by rw [← hrs, List.length_map]
    obtain ⟨c, hc⟩ : ∃ c, c = rs.length := ⟨_, rfl⟩
    rw [← hc] at hrl ⊢
    have hc8 : c ≤ 8 := by omega
    have HRL := Lib.hid hrl
    clear hrl hcl hc hrs hG
    replace R := Lib.hid (R.out.below hb)
    replace A := Lib.hid (A.out.below hb)
    replace BB := Lib.hid (below_go BB.out hb BB.out.size)
    clear hb
    obtain ⟨qA1, qA2, qA3, qA4, qA5⟩ := A.out
    have t1 : ((0 : Int) != 0) = false := by simp
    go_wp2_with fail
    refine (isConnected_any m hm7 a n cap xs _ R.out HSM.out hn).mono ?_
    rintro e w2 ⟨rfl, hb⟩
    clear qA1 qA2 qA3 qA4 qA5
    replace R := Lib.hid (R.out.below hb)
    replace A := Lib.hid (A.out.below hb)
    replace BB := Lib.hid (below_go BB.out hb BB.out.size)
    clear hb
    obtain ⟨qA1, qA2, qA3, qA4, qA5⟩ := A.out
    cases hcon : conB m xs with
    | true =>
      have hM := HM.out
      rw [if_pos hcon] at hM
      simp only [Prod.mk.injEq] at hM
      obtain ⟨rfl, rfl⟩ := hM
      have HCON := Lib.hid hcon
      clear hcon
      obtain ⟨v, hv⟩ : ∃ v : Int, v = 2 - (c : Int) - ((m : Int) + 1 - (n : Int)) := ⟨_, rfl⟩
      obtain ⟨W1, W2, W3, W4, W5⟩ := gen_bd (c := (c : Int)) (n := (n : Int)) (s := (m : Int) + 1) ⟨by omega, by omega⟩ ⟨by omega, by omega⟩ ⟨by omega, by omega⟩ hv
      have HV : Hid ((2 - (L.length : Int) - ((m : Int) + 1 - (xs.length : Int))).tdiv 2 = v.tdiv 2) := Lib.hid (by rw [← HRL.out, HL.out, hv])
      have HMS2 := HMS.out
      rw [HL.out] at HMS2
      have HMS3 := Lib.hid HMS2
      clear hv HMS2
      go_wp2_with fail
      refine (implSeifertNumber_any R.out HF.out hn HMS3.out).mono ?_
      rintro e w3 ⟨rfl, hb⟩
      replace BB := Lib.hid (below_go BB.out hb BB.out.size)
      clear hb qA1 qA2 qA3 qA4 qA5
      go_wp2
      go_ret2
      exact ⟨by rw [HV.out]; rfl, BB.out⟩
    | false =>
      have hM := HM.out
      rw [if_neg (by simp [hcon])] at hM
      simp only [Prod.mk.injEq] at hM
      obtain ⟨rfl, rfl⟩ := hM
      have HCON := Lib.hid hcon
      clear hcon
      go_wp2
      go_ret2
      exact ⟨rfl, BB.out⟩
  · have hb0 : isBraid s xs = false := by simpa using hbr
    rw [mGen, if_neg hbr] at hM
    simp only [Prod.mk.injEq] at hM
    obtain ⟨rfl, rfl⟩ := hM
    have HMC : Hid (mCmp s xs = ([], 1)) := Lib.hid (by rw [mCmp, if_neg hbr])
    clear hbr hb0
    go_enter Try.func30, Try.ntmps30
    go_wp2_with fail
    refine (implCmp_any R.out HF.out hn HMC.out).mono ?_
    rintro e w1 ⟨a1, c1, rs, rfl, hrs, hG, hb⟩
    clear qA1 qA2 qA3 qA4 qA5
    replace BB := Lib.hid (below_go BB.out hb BB.out.size)
    clear hb hrs hG
    have t1 : ((1 : Int) != 0) = true := by decide
    go_wp2
    go_ret2
    exact ⟨rfl, BB.out⟩

/-- How many of the first numbers a test holds of. -/
def cntR (f : Nat → Bool) (n : Nat) : Nat := ((List.range n).filter f).length

theorem cntR_step (f : Nat → Bool) (n : Nat) : cntR f (n + 1) = cntR f n + (if f n = true then 1 else 0) := by
  unfold cntR
  rw [List.range_succ, List.filter_append, List.length_append]
  congr 1
  by_cases h : f n = true <;> simp [h]

theorem cntR_le (f : Nat → Bool) (n : Nat) : cntR f n ≤ n := by
  unfold cntR
  have := List.length_filter_le f (List.range n)
  simpa using this

theorem cntR_congr {f g : Nat → Bool} (n : Nat) (h : ∀ z, z < n → f z = g z) : cntR f n = cntR g n := by
  unfold cntR
  rw [List.filter_congr (fun z hz => h z (List.mem_range.1 hz))]

theorem cntR_new {f g : Nat → Bool} {q : Nat} (hf : f q = false) (hg : ∀ z, g z = if q = z then true else f z) : ∀ n, cntR g n = cntR f n + (if q < n then 1 else 0) := by
  intro n
  induction n with
  | zero => simp [cntR]
  | succ n ih =>
    rw [cntR_step, cntR_step, ih, hg n]
    by_cases e : q = n
    · subst e
      rw [if_pos rfl, if_pos rfl, hf, if_neg (Nat.lt_irrefl q), if_pos (Nat.lt_succ_self q)]
      simp
    · rw [if_neg e]
      by_cases h : q < n
      · rw [if_pos h, if_pos (show q < n + 1 by omega)]; omega
      · rw [if_neg h, if_neg (show ¬ q < n + 1 by omega)]; omega

/-- All of them, none but them. -/
theorem cntR_all {f : Nat → Bool} (h0 : f 0 = false) : ∀ m, cntR f (m + 1) ≤ m ∧ (cntR f (m + 1) = m ↔ ∀ j, j < m → f (j + 1) = true) := by
  intro m
  induction m with
  | zero =>
    refine ⟨by rw [cntR_step, h0]; simp [cntR], ⟨fun _ j hj => by omega, fun _ => by rw [cntR_step, h0]; simp [cntR]⟩⟩
  | succ m ih =>
    obtain ⟨i1, i2⟩ := ih
    rw [cntR_step]
    by_cases h : f (m + 1) = true
    · rw [if_pos h]
      refine ⟨by omega, ⟨fun e j hj => ?_, fun e => ?_⟩⟩
      · by_cases hj2 : j = m
        · subst hj2; exact h
        · exact i2.1 (by omega) j (by omega)
      · have := i2.2 (fun j hj => e j (by omega))
        omega
    · rw [if_neg h]
      refine ⟨by omega, ⟨fun e => by omega, fun e => absurd (e m (by omega)) h⟩⟩

theorem cntR_far {f : Nat → Bool} (m : Nat) (h : ∀ q, m < q → f q = false) : ∀ n, m + 1 ≤ n → cntR f n = cntR f (m + 1) := by
  intro n hn
  induction n with
  | zero => omega
  | succ n ih =>
    rcases Nat.lt_or_ge m n with h1 | h1
    · rw [cntR_step, h n h1, ih (by omega)]
      simp
    · rw [show n = m by omega]

/-- Met: the indices of some letters. -/
def mtF (xs : List Int) (q : Nat) : Bool := occ xs (q : Int)

theorem mtF_step (xs : List Int) (k q : Nat) (h : k < xs.length) (hq : idx (xs.getD k 0) = (q : Int)) (z : Nat) : mtF (xs.take (k + 1)) z = if q = z then true else mtF (xs.take k) z := by
  unfold mtF occ
  rw [take_snoc xs k h, List.any_append]
  simp only [List.any_cons, List.any_nil, Bool.or_false, hq]
  by_cases e : q = z
  · rw [if_pos e]
    simp [e]
  · rw [if_neg e]
    have : ((q : Int) == (z : Int)) = false := by rw [beq_eq_false_iff_ne]; omega
    rw [this, Bool.or_false]

theorem con_cnt {m : Nat} {xs : List Int} (hm : m ≤ 7) (hl : ∀ x ∈ xs, Lett ((m : Int) + 1) x) : decide (cntR (mtF xs) 8 = m) = conB m xs := by
  have hno : ∀ q : Nat, (q = 0 ∨ m < q) → mtF xs q = false := by
    intro q hq
    rw [Bool.eq_false_iff]
    intro hc
    unfold mtF at hc
    obtain ⟨j, hj, e⟩ := (occ_iff _ _).1 hc
    have h := hl _ (getD_mem xs j hj)
    have h1 := h.1
    have h2 := h.2
    omega
  rw [cntR_far m (fun q hq => hno q (.inr hq)) 8 (by omega), Bool.eq_iff_iff, decide_eq_true_eq, (cntR_all (hno 0 (.inl rfl)) m).2]
  unfold conB
  rw [List.all_eq_true]
  constructor
  · intro h j hj
    have := h j (List.mem_range.1 hj)
    unfold mtF at this
    rw [← this]
    simp
  · intro h j hj
    have := h j (List.mem_range.2 hj)
    unfold mtF
    rw [← this]
    simp

set_option maxRecDepth 100000 in
set_option maxHeartbeats 2000000 in
theorem specGen_any {s : Int} {a : Option Addr} {n cap : Nat} {xs : List Int} {w : World} {fv fc : Int} (hr : Reads w a n xs) (hf : Fits xs) (hn : n ≤ 1048576) (hM : mGen s xs = (fv, fc)) :
    Calls Try.prog 29 #[.agg #[.int .i64 s, .slice a n cap]] w fun e w' => e = .returned (.tuple #[.int .i64 fv, .int .i64 fc]) ∧ Below w.heap.size w w' := by
  have HL := Lib.hid hr.len
  have R := Lib.hid (hr.alloc (.cells #[.int .i64 s, .slice a n cap] 29)); clear hr
  have HF := Lib.hid hf; clear hf
  have A := Lib.hid (At2.new w (.int .i64 s) (.slice a n cap) 29)
  have BB := Lib.hid (below1 w (.cells #[.int .i64 s, .slice a n cap] 29))
  obtain ⟨qA1, qA2, qA3, qA4, qA5⟩ := A.out
  by_cases hbr : isBraid s xs = true
  · have HBR := Lib.hid hbr
    have g1 := lo_of_isBraid _ _ hbr
    have g2 := hi_of_isBraid _ _ hbr
    have g3 := len_of_isBraid _ _ hbr
    have hnn : n ≤ 200 := by have := HL.out; omega
    obtain ⟨N, rfl, h1, h8, hlt⟩ := braid_nat hbr
    have HLT := Lib.hid hlt
    have HLS := Lib.hid (letts_of_isBraid hbr)
    obtain ⟨m, hNm⟩ : ∃ m : Nat, N = m + 1 := ⟨N - 1, by omega⟩
    have hm7 : m ≤ 7 := by omega
    have SS := permP_sim N h1 h8 xs hlt
    have hcl : (cmpL N (permP N xs)).length = cntL N (permP N xs) N := by
      have := congrArg List.length (cmpK_all SS N (Nat.le_refl _))
      rw [List.length_map, List.length_range, List.length_map] at this
      rw [cmpL, List.length_map, ← this]
    have hM2 : (if conB m xs = true then ((2 - (cntL N (permP N xs) N : Int) - ((N : Int) - n)).tdiv 2, 0) else (0, 5)) = (fv, fc) := by
      rw [← hM, mGen, if_pos hbr, Int.toNat_natCast, hcl, HL.out, show ((N : Int) - 1).toNat = m by omega]
    have HM := Lib.hid hM2
    have hcn8 := cntL_le N (permP N xs) N
    have HCC := Lib.hid (con_cnt hm7 (show ∀ x ∈ xs, Lett ((m : Int) + 1) x from fun x hx => by have := HLS.out x hx; rw [hNm] at this; simpa using this))
    have wN : IntKind.i64.wrap ((N : Int) - 1) = (m : Int) := (IntWalk.i64_in _ (by omega)).trans (by omega)
    have HN := Lib.hid hNm
    clear hM hM2 hbr g3 hcl SS hlt hNm
    go_enter Try.func29, Try.ntmps29
    go_wp2_with fail
    refine (l01Is_any _ a n cap xs _ R.out HF.out hn).mono ?_
    rintro e w1 ⟨rfl, hb⟩
    rw [HBR.out]
    clear qA1 qA2 qA3 qA4 qA5
    replace R := Lib.hid (R.out.below hb)
    replace A := Lib.hid (A.out.below hb)
    replace BB := Lib.hid (below_go BB.out hb BB.out.size)
    clear hb
    have RM := Lib.hid (Bool8.place w1 73 w1.heap.size rfl)
    have zA := A.out.1
    have HLO : Hid (∀ gb off, a = some ⟨gb, off, none⟩ → 0 < n → gb < w1.heap.size) := Lib.hid (fun gb off e h0 => by have h := R.out; rw [e] at h; exact h.lt h0)
    have R1 := R
    have B1 := Lib.hid (below1 w1 (.cells #[.bool false, .bool false, .bool false, .bool false, .bool false, .bool false, .bool false, .bool false] 73))
    replace R := Lib.hid (R.out.alloc (.cells #[.bool false, .bool false, .bool false, .bool false, .bool false, .bool false, .bool false, .bool false] 73))
    replace A := Lib.hid (A.out.alloc (.cells #[.bool false, .bool false, .bool false, .bool false, .bool false, .bool false, .bool false, .bool false] 73))
    replace BB := Lib.hid (BB.out.alloc BB.out.size (.cells #[.bool false, .bool false, .bool false, .bool false, .bool false, .bool false, .bool false, .bool false] 73))
    obtain ⟨W, hW⟩ : ∃ W, W = w1.alloc (.cells #[.bool false, .bool false, .bool false, .bool false, .bool false, .bool false, .bool false, .bool false] 73) := ⟨_, rfl⟩
    obtain ⟨g, hg⟩ : ∃ g, g = w1.heap.size := ⟨_, rfl⟩
    go_wp2
    rw [← hW] at R A BB RM B1 ⊢
    clear hW
    rw [← hg] at RM zA HLO B1 ⊢
    have HGE := Lib.hid hg
    clear hg
    have HW := Lib.hid (Below.refl g W)
    go_loopw [5, 6] (fun c i wr => ∃ k : Nat, k ≤ n ∧ i = .int .i64 k ∧ c = .int .i64 (cntR (mtF (xs.take k)) 8) ∧ Bool8 wr g (mtF (xs.take k)) ∧ Below g W wr) (fun _ i _ => n - (intOf i).toNat)
    case atStart => exact ⟨0, Nat.zero_le _, rfl, by rw [show cntR (mtF (xs.take 0)) 8 = 0 by simp [cntR, mtF, occ]]; rfl, RM.out.congr fun _ _ => rfl, HW.out⟩
    case round =>
      obtain ⟨k, hk, rfl, rfl, hRM, hbl⟩ := hrel
      clear RM
      have RM := Lib.hid hRM
      have HBL := Lib.hid hbl
      clear hRM hbl
      have zm := RM.out.lt
      have A2 := Lib.hid (A.out.heap HBL.out.size (HBL.out.block _ zA))
      obtain ⟨qA1, qA2, qA3, qA4, qA5⟩ := A2.out
      have hcb := cntR_le (mtF (xs.take k)) 8
      by_cases hlt : k < n
      · have hkl : k < xs.length := by rw [HL.out]; exact hlt
        obtain ⟨gb, off, rfl, hgw, hgc⟩ := R.out.cells (by omega)
        obtain ⟨l, hl⟩ : ∃ l, l = xs.getD k 0 := ⟨_, rfl⟩
        have h1 : wr.cell? ⟨gb, off + k, none⟩ = some (.int .i64 l) := by rw [hl]; exact (HBL.out.cell (p := ⟨gb, off + k, none⟩) (HLO.out gb off rfl (by omega))).trans (hgc _ hlt)
        have hle : Lett (N : Int) l := HLS.out l (by rw [hl]; exact getD_mem xs k hkl)
        obtain ⟨M1, M2, M3⟩ := idx_max hle (by omega)
        have hsm := hle.small (by omega)
        obtain ⟨u1, u2⟩ := hsm
        obtain ⟨q, hq⟩ : ∃ q : Nat, idx l = (q : Int) := ⟨(idx l).toNat, by have := hle.1; omega⟩
        have hq8 : q < 8 := by have := hle.2; omega
        have HST := Lib.hid (fun z => mtF_step xs k q hkl (by rw [← hl]; exact hq) z)
        rw [hq] at M2 M3
        have c1 := RM.out.cell q hq8
        have f1 := RM.out.free q hq8
        obtain ⟨f, hf⟩ : ∃ f, f = mtF (xs.take k) := ⟨_, rfl⟩
        rw [← hf] at c1 hcb HST RM ⊢
        have HFF := Lib.hid hf
        clear hl hle hgc hf hq
        obtain ⟨c, hc⟩ : ∃ c, c = cntR f 8 := ⟨_, rfl⟩
        rw [← hc] at hcb ⊢
        have HC := Lib.hid hc
        clear hc
        have wc : IntKind.i64.wrap ((c : Int) + 1) = ((c + 1 : Nat) : Int) := (IntWalk.i64_in _ (by omega)).trans (by omega)
        have q0 : (0 : Int) ≤ (q : Int) := by omega
        have q8 : (q : Int) < 8 := by omega
        by_cases hmq : f q = true
        · rw [hmq] at c1
          have HG : Hid (∀ z, mtF (xs.take (k + 1)) z = f z) := Lib.hid (fun z => by
            rw [HST.out z]
            by_cases e : q = z
            · subst e; rw [if_pos rfl, hmq]
            · rw [if_neg e])
          clear hmq
          go_wp2
          go_quiet (fail)
          go_wp2
          go_roundw
          case rel => exact ⟨k + 1, by omega, by go_num, by rw [cntR_congr 8 (fun z _ => HG.out z), ← HC.out], (RM.out.below (below_draws _ _ nq)).congr (fun z _ => (HG.out z).symm), HBL.out.trans (below_draws _ _ nq)⟩
          case measure => simp [intOf]; omega
        · have hmf : f q = false := by simpa using hmq
          rw [hmf] at c1
          have HCN : Hid (cntR (mtF (xs.take (k + 1))) 8 = c + 1) := Lib.hid (by rw [cntR_new hmf HST.out 8, if_pos hq8, HC.out])
          clear hmq hmf
          go_wp2
          go_quiet (fail)
          go_wp2
          go_roundw
          case rel => exact ⟨k + 1, by omega, by go_num, by rw [HCN.out]; go_num, ((RM.out.below (below_draws _ _ nq)).store q hq8 true).congr (fun z _ => (HST.out z).symm), (HBL.out.trans (below_draws _ _ nq)).setCell (p := ⟨g, q, none⟩) (Nat.le_refl _) _⟩
          case measure => simp [intOf]; omega
      · have hkn : k = n := by omega
        subst hkn
        have htk : xs.take k = xs := List.take_of_length_le (by rw [HL.out]; exact Nat.le_refl _)
        rw [htk] at hcb ⊢
        have BB2 := Lib.hid (BB.out.trans (HBL.out.mono (by omega)))
        have RR := Lib.hid (R1.out.below (by rw [← HGE.out]; exact B1.out.trans HBL.out))
        obtain ⟨c, hc⟩ : ∃ c, c = cntR (mtF xs) 8 := ⟨_, rfl⟩
        rw [← hc] at hcb ⊢
        have HCQ := HCC.out
        rw [← hc] at HCQ
        clear hc htk
        cases hcon : conB m xs with
        | true =>
          have hM := HM.out
          rw [if_pos hcon] at hM
          simp only [Prod.mk.injEq] at hM
          obtain ⟨rfl, rfl⟩ := hM
          rw [hcon] at HCQ
          have hcm := of_decide_eq_true HCQ
          have t1 : ((c : Int) != (m : Int)) = false := by simp [hcm]
          obtain ⟨cc, hcc⟩ : ∃ cc, cc = cntL N (permP N xs) N := ⟨_, rfl⟩
          rw [← hcc] at hcn8
          have HCCN := Lib.hid hcc
          obtain ⟨v, hv⟩ : ∃ v : Int, v = 2 - (cc : Int) - ((N : Int) - (k : Int)) := ⟨_, rfl⟩
          obtain ⟨W1, W2, W3, W4, W5⟩ := gen_bd (c := (cc : Int)) (n := (k : Int)) (s := (N : Int)) ⟨by omega, by omega⟩ ⟨by omega, by omega⟩ ⟨by omega, by omega⟩ hv
          have HV := Lib.hid hv
          clear hcc hcon HCQ hcm hv
          go_wp2_with fail
          refine (l11Components_any N h1 h8 a k cap xs _ RR.out HLT.out hn).mono ?_
          rw [← HCCN.out]
          rintro e w3 ⟨rfl, hb⟩
          have A3 := Lib.hid ((A2.out.below hb).alloc (.cells #[.int .i64 (at8 (outC N (permP N xs) N 0) 0), .int .i64 (at8 (outC N (permP N xs) N 0) 1), .int .i64 (at8 (outC N (permP N xs) N 0) 2), .int .i64 (at8 (outC N (permP N xs) N 0) 3), .int .i64 (at8 (outC N (permP N xs) N 0) 4), .int .i64 (at8 (outC N (permP N xs) N 0) 5), .int .i64 (at8 (outC N (permP N xs) N 0) 6), .int .i64 (at8 (outC N (permP N xs) N 0) 7)] 54))
          have BB3 := Lib.hid ((below_go BB2.out hb BB2.out.size).alloc (by have := BB2.out.size; have := hb.size; omega) (.cells #[.int .i64 (at8 (outC N (permP N xs) N 0) 0), .int .i64 (at8 (outC N (permP N xs) N 0) 1), .int .i64 (at8 (outC N (permP N xs) N 0) 2), .int .i64 (at8 (outC N (permP N xs) N 0) 3), .int .i64 (at8 (outC N (permP N xs) N 0) 4), .int .i64 (at8 (outC N (permP N xs) N 0) 5), .int .i64 (at8 (outC N (permP N xs) N 0) 6), .int .i64 (at8 (outC N (permP N xs) N 0) 7)] 54))
          clear hb qA1 qA2 qA3 qA4 qA5
          obtain ⟨qA1, qA2, qA3, qA4, qA5⟩ := A3.out
          go_wp2
          go_ret2
          exact ⟨by rw [← HCCN.out, ← HV.out]; rfl, BB3.out⟩
        | false =>
          have hM := HM.out
          rw [if_neg (by simp [hcon])] at hM
          simp only [Prod.mk.injEq] at hM
          obtain ⟨rfl, rfl⟩ := hM
          rw [hcon] at HCQ
          have hcm := of_decide_eq_false HCQ
          have t1 : ((c : Int) != (m : Int)) = true := by rw [bne_iff_ne]; omega
          clear hcon HCQ hcm
          go_wp2
          go_ret2
          exact ⟨rfl, BB2.out⟩
  · have hb0 : isBraid s xs = false := by simpa using hbr
    rw [mGen, if_neg hbr] at hM
    simp only [Prod.mk.injEq] at hM
    obtain ⟨rfl, rfl⟩ := hM
    have HB0 := Lib.hid hb0
    clear hbr hb0
    go_enter Try.func29, Try.ntmps29
    go_wp2_with fail
    refine (l01Is_any s a n cap xs _ R.out HF.out hn).mono ?_
    rintro e w1 ⟨rfl, hb⟩
    rw [HB0.out]
    replace BB := Lib.hid (below_go BB.out hb BB.out.size)
    clear qA1 qA2 qA3 qA4 qA5 hb
    go_wp2
    go_ret2
    exact ⟨rfl, BB.out⟩

end Go.Proofs.Ytehcbamfendbaaa
