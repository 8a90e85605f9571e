/- Brunnian braids: the program and the model. -/
import Derived.Test.YtehcbamfendbaaaSbCmoI
import Derived.Test.YtehcbamfendbaaaSbSCmb
import Derived.Test.YtehcbamfendbaaaSbSFor
import Derived.Test.YtehcbamfendbaaaSbMg6
import Derived.Deep.RegionHeld3
namespace Go.Proofs.Ytehcbamfendbaaa
open Go.RowKit Go.ChangeShapes

/-- Whether all combs of the braid without one of the first strands have no letters; none if a comb is too long. -/
def bruF (J : Nat) (ls : List Int) : Nat → Option Bool
 | 0 => some true
 | k + 1 => match bruF J ls k with
  | none => none
  | some b => match combF J (forgetL k ls) with
   | none => none
   | some c => some (b && c.all List.isEmpty)

theorem bruF_none {J : Nat} {ls : List Int} {k : Nat} (h : bruF J ls k = none) : ∀ m, k ≤ m → bruF J ls m = none := by
 intro m hm
 induction m with
 | zero =>
  obtain rfl : k = 0 := by omega
  exact h
 | succ m ih =>
  rcases Nat.lt_or_ge m k with h1 | h1
  ·obtain rfl : k = m + 1 := by omega
   exact h
  ·rw [bruF, ih h1]

theorem bruF_step {J : Nat} {ls : List Int} {k : Nat} {b : Bool} {c : List (List Int)} (h : bruF J ls k = some b) (hc : combF J (forgetL k ls) = some c) : bruF J ls (k + 1) = some (b && c.all List.isEmpty) := by
 rw [bruF, h]; simp only; rw [hc]

theorem bruF_stop {J : Nat} {ls : List Int} {k : Nat} {b : Bool} (h : bruF J ls k = some b) (hc : combF J (forgetL k ls) = none) : bruF J ls (k + 1) = none := by
 rw [bruF, h]; simp only; rw [hc]

def bruR (o : Option Bool) : Bool × Int := match o with | none => (false, 3) | some b => (b, 0)

/-- Whether a braid is Brunnian, and the code. -/
def mBru (s : Int) (ls : List Int) : Bool × Int :=
 if pureC s ls = 0 then (if 1 < s then bruR (bruF (s - 2).toNat ls s.toNat) else (true, 0)) else (false, pureC s ls)

theorem hasLetters_any (a : Option Addr) (n cap : Nat) (w : World) :
  Calls Try.prog 89 #[.slice a n cap] w fun e w' => e = .returned (.bool (decide (0 < n))) ∧ w = w' := by
 by_cases h : 0 < n
 ·have t1 : (n : Int) > 0 := by omega
  clear h
  go_enter Try.func89, Try.ntmps89
  go_wp2
  go_ret
  exact ⟨ret_bool rfl, rfl⟩
 ·have t1 : ¬ (n : Int) > 0 := by omega
  clear h
  go_enter Try.func89, Try.ntmps89
  go_wp2
  go_ret
  exact ⟨ret_bool rfl, rfl⟩

theorem isEmpty_len (xs : List Int) : xs.isEmpty = decide (xs.length = 0) := by cases xs <;> simp

set_option maxRecDepth 100000 in
set_option maxHeartbeats 1000000 in
theorem indexLet_any (ad : Option Addr) (m cap : Nat) (rs : List RowV) (w : World) (hr : ReadsSS w ad m rs) (hm : m ≤ 1000) :
  Calls Try.prog 118 #[.slice ad m cap, .func (.func 89) #[] #[]] w fun e w' =>
   ∃ r : Int, e = .returned (.int .i64 r) ∧ decide (0 ≤ r) = !(rs.map RowV.xs).all List.isEmpty ∧ w = w' := by
 have G1 := Lib.hid hr; have HL := Lib.hid hr.1
 clear hr
 go_enter Try.func118, Try.ntmps118
 go_wp2
 go_loop [8] (fun i => ∃ k : Nat, k ≤ m ∧ i = .int .i64 k ∧ Hid (∀ j (h : j < rs.length), j < k → rs[j].xs.isEmpty = true)) (fun i => m - (intOf i).toNat)
 case atStart => exact ⟨0, Nat.zero_le _, rfl, Lib.hid (fun j _ hj => absurd hj (Nat.not_lt_zero _))⟩
 case round =>
  obtain ⟨k, hk, rfl, HS⟩ := hrel
  by_cases hlt : k < m
  ·have kr : k < rs.length := by rw [HL.out]; exact hlt
   obtain ⟨g1, o1, rfl, hc1⟩ := G1.out.2.1.resolve_left (by omega)
   have c1 := hc1 k kr
   obtain ⟨r1, hr1⟩ : ∃ x, x = rs[k] := ⟨_, rfl⟩
   have hmem : r1 ∈ rs := by rw [hr1]; exact List.getElem_mem kr
   have hrd := (G1.out.2.2 r1 hmem).1.len
   rw [← hr1] at c1
   have HE : Hid (r1.xs.isEmpty = decide (r1.n = 0)) := Lib.hid (by rw [isEmpty_len, hrd])
   have HR1 := Lib.hid hr1
   have HMEM := Lib.hid hmem
   clear hc1 hr1 hrd hmem
   cases hi : decide (0 < r1.n) with
   | true =>
    have HI := Lib.hid hi
    go_wp2_with (go_at_call 89; refine (hasLetters_any _ _ _ _).mono ?_; rintro e w' ⟨rfl, rfl⟩; rw [hi])
    go_ret
    refine ⟨(k : Int), rfl, ?_, rfl⟩
    have hf : (rs.map RowV.xs).all List.isEmpty = false := by
     rw [List.all_eq_false]
     refine ⟨r1.xs, List.mem_map.2 ⟨r1, HMEM.out, rfl⟩, ?_⟩
     have := of_decide_eq_true HI.out
     rw [HE.out]
     simp; omega
    rw [hf]
    simp
   | false =>
    have HI := Lib.hid hi
    go_wp2_with (go_at_call 89; refine (hasLetters_any _ _ _ _).mono ?_; rintro e w' ⟨rfl, rfl⟩; rw [hi])
    go_round
    case rel =>
     refine ⟨k + 1, by omega, by go_num, Lib.hid fun j hj hjk => ?_⟩
     by_cases e : j = k
     ·subst e
      rw [← HR1.out, HE.out]
      have := of_decide_eq_false HI.out
      exact decide_eq_true (by omega)
     ·exact HS.out j hj (by omega)
    case measure => simp [intOf]; omega
  ·have hkm : k = m := by omega
   have HK := Lib.hid hkm; clear hkm
   go_wp2
   go_ret
   refine ⟨-1, rfl, ?_, rfl⟩
   have hf : (rs.map RowV.xs).all List.isEmpty = true := by
    rw [List.all_eq_true]
    intro y hy
    obtain ⟨x, hx, rfl⟩ := List.mem_map.1 hy
    obtain ⟨j, hj, rfl⟩ := List.getElem_of_mem hx
    exact HS.out j hj (by rw [HK.out, ← HL.out]; exact hj)
   rw [List.all_map] at hf
   rw [hf]
   rfl

theorem containsLet_any (ad : Option Addr) (m cap : Nat) (rs : List RowV) (w : World) (hr : ReadsSS w ad m rs) (hm : m ≤ 1000) :
  Calls Try.prog 91 #[.slice ad m cap, .func (.func 89) #[] #[]] w fun e w' => e = .returned (.bool (!(rs.map RowV.xs).all List.isEmpty)) ∧ w = w' := by
 have HI := Lib.hid (indexLet_any ad m cap rs w hr hm); clear hr
 go_enter Try.func91, Try.ntmps91
 go_wp2_with fail
 refine HI.out.mono ?_
 rintro e w1 ⟨r, rfl, h2, rfl⟩
 have H2 := Lib.hid h2; clear h2
 go_wp2
 go_ret
 exact ⟨ret_bool H2.out, rfl⟩

set_option maxRecDepth 100000 in
set_option maxHeartbeats 2000000 in
theorem implBru_any {s : Int} {a : Option Addr} {n cap : Nat} {ls : List Int} {w : World} {fb : Bool} {fc : Int} (hr : Reads w a n ls) (hf : Fits ls) (hn : n ≤ 1048576) (hM : mBru s ls = (fb, fc)) :
  Calls Try.prog 45 #[.agg #[.int .i64 s, .slice a n cap]] w fun e w' => e = .returned (.tuple #[.bool fb, .int .i64 fc]) ∧ Below w.heap.size w w' := by
 have R := Lib.hid (hr.alloc (.cells #[.int .i64 s, .slice a n cap] 29)); clear hr
 have HF := Lib.hid hf; clear hf
 have A := Lib.hid (At2.new w (.int .i64 s) (.slice a n cap) 29)
 have BB := Lib.hid (below1 w (.cells #[.int .i64 s, .slice a n cap] 29))
 obtain ⟨qA1, qA2, qA3, qA4, qA5⟩ := A.out
 by_cases hpc : pureC s ls = 0
 ·have hbr := (pureC_zero hpc).1
  rw [mBru, if_pos hpc] at hM
  have HM := Lib.hid hM; clear hM
  have HPC := Lib.hid hpc; clear hpc
  have HLT := Lib.hid (letts_of_isBraid hbr)
  obtain ⟨h1, h2, h3, h4⟩ := (isBraid_iff s ls).1 hbr
  have hn2 : n ≤ 1000 := by have := R.out.len; omega
  clear h4 hbr h3
  go_enter Try.func45, Try.ntmps45
  go_wp2_with fail
  refine (pureCode_any R.out HF.out hn HPC.out).mono ?_
  rintro e w1 ⟨rfl, hb⟩
  clear qA1 qA2 qA3 qA4 qA5
  replace R := Lib.hid (R.out.below hb); replace A := Lib.hid (A.out.below hb)
  replace BB := Lib.hid (below_go BB.out hb (by simp)); clear hb
  obtain ⟨qA1, qA2, qA3, qA4, qA5⟩ := A.out
  have t1 : ((0 : Int) != 0) = false := by simp
  by_cases hs1 : 1 < s
  ·have hM := HM.out
   rw [if_pos hs1] at hM
   obtain ⟨J, hJ⟩ : ∃ J : Nat, s = (J : Int) + 2 := ⟨(s - 2).toNat, by omega⟩
   rw [show (s - 2).toNat = J by omega, show s.toNat = J + 2 by omega] at hM
   replace HM := Lib.hid hM; clear hM
   have HJ := Lib.hid hJ
   have hJ6 : J ≤ 6 := by omega
   clear hJ
   have s1 : s > 1 := by omega
   go_wp2
   go_loopw [6, 7] (fun b i wr => ∃ k : Nat, (k : Int) ≤ s ∧ i = .int .i64 k ∧ (∃ bb : Bool, b = .bool bb ∧ Hid (bruF J ls k = some bb)) ∧ Below w1.heap.size w1 wr) (fun _ i _ => (s - intOf i).toNat)
   case atStart => exact ⟨0, by omega, rfl, ⟨true, rfl, Lib.hid rfl⟩, Below.refl _ _⟩
   case round =>
    obtain ⟨k, hk, rfl, ⟨bb, rfl, HBF⟩, hbl⟩ := hrel
    clear qA1 qA2 qA3 qA4 qA5
    obtain ⟨qA1, qA2, qA3, qA4, qA5⟩ := A.out.below hbl
    have R2 := Lib.hid (R.out.below hbl)
    have HBL := Lib.hid hbl; clear hbl
    by_cases hlt : (k : Int) < s
    ·have ws : IntKind.i64.wrap ((k : Int) + 1) = ((k + 1 : Nat) : Int) := (IntWalk.i64_in _ (by omega)).trans (by omega)
     have hk0 : (0 : Int) ≤ (k : Int) := by omega
     have HFL := Lib.hid (forgetL_lett (p := (k : Int)) hk0 hlt HLT.out)
     have hfn := forgetL_len (k : Int) ls
     have HFN : Hid ((forgetL (k : Int) ls).length ≤ 1000) := Lib.hid (by have := R.out.len; omega)
     clear hfn
     go_wp2_with fail
     refine (forgotten_any s a n cap ls k _ R2.out hn (by omega) HLT.out hk0 hlt).mono ?_
     rintro e w2 ⟨a2, n2, c2, rfl, ho, hb⟩
     have hn22 : n2 ≤ 1000 := by have := ho.len; have := HFN.out; omega
     have O2 := Lib.hid ho; clear ho
     have HB2 := Lib.hid (below_go HBL.out hb HBL.out.size); clear hb
     go_wp2_with fail
     cases hcf : combF J (forgetL (k : Int) ls) with
     | some cs =>
      have hmc : mComb (s - 1) (forgetL (k : Int) ls) = (cs, 0) := by
       unfold mComb
       rw [show (s - 1 - 1).toNat = J by have := HJ.out; omega, hcf]
      refine (combOf_any (s - 1) J a2 n2 c2 _ _ O2.out.reads hn22 (by have := HJ.out; omega) (by omega) HFL.out hmc).mono ?_
      rintro e w3 ⟨a3, m3, c3, rs, rfl, hx, hr4, ho, hb⟩
      have HST := Lib.hid (bruF_step HBF.out hcf)
      have HB3 := Lib.hid (below_go HB2.out hb HB2.out.size); clear hb
      have HRS := Lib.hid ho.reads
      have hm3 : m3 ≤ 1000 := by
       have e1 := ho.1
       have e2 := combF_len hcf
       rw [← hx, List.length_map] at e2
       omega
      have HX := Lib.hid hx; clear hx ho hr4 hcf hmc
      obtain ⟨pA1, pA2, pA3, pA4, pA5⟩ := A.out.below HB3.out
      clear qA1 qA2 qA3 qA4 qA5
      cases bb with
      | true =>
       cases hce : cs.all List.isEmpty with
       | true =>
        have HCE := Lib.hid hce
        go_wp2_with fail
        refine (containsLet_any a3 m3 c3 rs _ HRS.out hm3).mono ?_
        rintro e w4 ⟨rfl, rfl⟩
        rw [HX.out, HCE.out]
        go_wp2
        go_roundw
        case rel => exact ⟨k + 1, by omega, by go_num, ⟨_, rfl, Lib.hid (by rw [HST.out, HCE.out]; rfl)⟩, HB3.out⟩
        case measure => simp [intOf]; omega
       | false =>
        have HCE := Lib.hid hce
        go_wp2_with fail
        refine (containsLet_any a3 m3 c3 rs _ HRS.out hm3).mono ?_
        rintro e w4 ⟨rfl, rfl⟩
        rw [HX.out, HCE.out]
        go_wp2
        go_roundw
        case rel => exact ⟨k + 1, by omega, by go_num, ⟨_, rfl, Lib.hid (by rw [HST.out, HCE.out]; rfl)⟩, HB3.out⟩
        case measure => simp [intOf]; omega
      | false =>
       go_wp2
       go_roundw
       case rel => exact ⟨k + 1, by omega, by go_num, ⟨_, rfl, Lib.hid (by rw [HST.out]; rfl)⟩, HB3.out⟩
       case measure => simp [intOf]; omega
     | none =>
      have hmc : mComb (s - 1) (forgetL (k : Int) ls) = ([], 3) := by
       unfold mComb
       rw [show (s - 1 - 1).toNat = J by have := HJ.out; omega, hcf]
      refine (combOf_any (s - 1) J a2 n2 c2 _ _ O2.out.reads hn22 (by have := HJ.out; omega) (by omega) HFL.out hmc).mono ?_
      rintro e w3 ⟨a3, m3, c3, rs, rfl, hx, hr4, ho, hb⟩
      have hend := bruF_none (bruF_stop HBF.out hcf) (J + 2) (by have := HJ.out; omega)
      have hm := HM.out
      rw [hend] at hm
      obtain ⟨rfl, rfl⟩ := Prod.mk.injEq .. ▸ hm
      have HB3 := Lib.hid (below_go BB.out (below_go HB2.out hb HB2.out.size) BB.out.size); clear hb hx ho hr4 hcf hmc hend hm
      go_wp2
      go_ret2
      exact ⟨rfl, HB3.out⟩
    ·have hks : (k : Int) = s := by omega
     have hm := HM.out
     rw [show J + 2 = k by have := HJ.out; omega, HBF.out] at hm
     obtain ⟨rfl, rfl⟩ := Prod.mk.injEq .. ▸ hm
     have HB3 := Lib.hid (below_go BB.out HBL.out BB.out.size)
     clear hm hks
     go_wp2
     go_ret2
     exact ⟨rfl, HB3.out⟩
  ·have hM := HM.out
   rw [if_neg hs1] at hM
   obtain ⟨rfl, rfl⟩ := Prod.mk.injEq .. ▸ hM
   have hse : s = 1 := by omega
   subst hse
   clear hM
   go_wp2
   refine wp_loop_rounds 1 ?_; rw [rounds_succ]
   go_wp2
   go_ret2
   exact ⟨rfl, BB.out⟩
 ·rw [mBru, if_neg hpc] at hM
  obtain ⟨rfl, rfl⟩ := Prod.mk.injEq .. ▸ hM
  have t1 : (pureC s ls != 0) = true := by simp [hpc]
  obtain ⟨pc, hpcq⟩ : ∃ pc, pc = pureC s ls := ⟨_, rfl⟩
  have HPC : Hid (pureC s ls = pc) := Lib.hid hpcq.symm
  rw [← hpcq] at t1 ⊢
  clear hpc hpcq hM
  go_enter Try.func45, Try.ntmps45
  go_wp2_with fail
  refine (pureCode_any R.out HF.out hn HPC.out).mono ?_
  rintro e w1 ⟨rfl, hb⟩
  replace BB := Lib.hid (below_go BB.out hb (by simp)); clear hb
  clear qA1 qA2 qA3 qA4 qA5
  go_wp2
  go_ret2
  exact ⟨rfl, BB.out⟩

theorem l10Comb_yes (J : Nat) (hJ : J ≤ 7) (a : Option Addr) (n cap : Nat) (ls : List Int) (w : World) (hr : Reads w a n ls) (hls : ∀ x ∈ ls, Lett ((J : Int) + 1) x) (hn : n ≤ 1000) {c : List (List Int)} (hc : combF J ls = some c) :
  Calls Try.prog 85 #[.int .i64 ((J : Int) + 1), .slice a n cap] w fun e w' => (∃ ad cd rs, c = rs.map RowV.xs ∧ rs.length = J ∧ e = .returned (.tuple #[.slice ad J cd, .bool true]) ∧ ReadsSS w' ad J rs) ∧ Below w.heap.size w w' := by
 refine (l10Comb_any J hJ a n cap ls w hr hls hn).mono ?_
 rintro e w2 ⟨(⟨ad, cd, rs, hcf, hrl, rfl, hsm, hG⟩ | ⟨hcf, rfl⟩), hb⟩
 ·rw [hc] at hcf
  exact ⟨⟨ad, cd, rs, Option.some.inj hcf, hrl, rfl, hG.ownSS.reads⟩, hb⟩
 ·rw [hc] at hcf; cases hcf

theorem l10Comb_no (J : Nat) (hJ : J ≤ 7) (a : Option Addr) (n cap : Nat) (ls : List Int) (w : World) (hr : Reads w a n ls) (hls : ∀ x ∈ ls, Lett ((J : Int) + 1) x) (hn : n ≤ 1000) (hc : combF J ls = none) :
  Calls Try.prog 85 #[.int .i64 ((J : Int) + 1), .slice a n cap] w fun e w' => e = .returned (.tuple #[.slice none 0 0, .bool false]) ∧ Below w.heap.size w w' := by
 refine (l10Comb_any J hJ a n cap ls w hr hls hn).mono ?_
 rintro e w2 ⟨(⟨ad, cd, rs, hcf, hrl, rfl, hsm, hG⟩ | ⟨hcf, rfl⟩), hb⟩
 ·rw [hc] at hcf; cases hcf
 ·exact ⟨rfl, hb⟩

set_option maxRecDepth 100000 in
set_option maxHeartbeats 2000000 in
theorem specBru_any {s : Int} {a : Option Addr} {n cap : Nat} {ls : List Int} {w : World} {fb : Bool} {fc : Int} (hr : Reads w a n ls) (hf : Fits ls) (hn : n ≤ 1048576) (hM : mBru s ls = (fb, fc)) :
  Calls Try.prog 44 #[.agg #[.int .i64 s, .slice a n cap]] w fun e w' => e = .returned (.tuple #[.bool fb, .int .i64 fc]) ∧ Below w.heap.size w w' := by
 have R := Lib.hid (hr.alloc (.cells #[.int .i64 s, .slice a n cap] 29)); clear hr
 have HF := Lib.hid hf; clear hf
 have A := Lib.hid (At2.new w (.int .i64 s) (.slice a n cap) 29)
 have BB := Lib.hid (below1 w (.cells #[.int .i64 s, .slice a n cap] 29))
 obtain ⟨qA1, qA2, qA3, qA4, qA5⟩ := A.out
 by_cases hpc : pureC s ls = 0
 ·have hbr := (pureC_zero hpc).1
  rw [mBru, if_pos hpc] at hM
  have HM := Lib.hid hM; clear hM
  have HPC := Lib.hid hpc; clear hpc
  have HLT := Lib.hid (letts_of_isBraid hbr)
  obtain ⟨h1, h2, h3, h4⟩ := (isBraid_iff s ls).1 hbr
  have hn2 : n ≤ 1000 := by have := R.out.len; omega
  clear h4 hbr h3
  go_enter Try.func44, Try.ntmps44
  go_wp2_with fail
  refine (l10Pure_any R.out HF.out hn HPC.out).mono ?_
  rintro e w1 ⟨rfl, hb⟩
  clear qA1 qA2 qA3 qA4 qA5
  replace R := Lib.hid (R.out.below hb); replace A := Lib.hid (A.out.below hb)
  replace BB := Lib.hid (below_go BB.out hb (by simp)); clear hb
  obtain ⟨qA1, qA2, qA3, qA4, qA5⟩ := A.out
  have t1 : ((0 : Int) != 0) = false := by simp
  by_cases hs1 : 1 < s
  ·have hM := HM.out
   rw [if_pos hs1] at hM
   obtain ⟨J, hJ⟩ : ∃ J : Nat, s = (J : Int) + 2 := ⟨(s - 2).toNat, by omega⟩
   rw [show (s - 2).toNat = J by omega, show s.toNat = J + 2 by omega] at hM
   replace HM := Lib.hid hM; clear hM
   have HJ := Lib.hid hJ
   have hJ6 : J ≤ 6 := by omega
   clear hJ
   have s1 : s > 1 := by omega
   go_wp2
   go_loopw [5, 6] (fun b i wr => ∃ k : Nat, (k : Int) ≤ s ∧ i = .int .i64 k ∧ (∃ bb : Bool, b = .bool bb ∧ Hid (bruF J ls k = some bb)) ∧ Below w1.heap.size w1 wr) (fun _ i _ => (s - intOf i).toNat)
   case atStart => exact ⟨0, by omega, rfl, ⟨true, rfl, Lib.hid rfl⟩, Below.refl _ _⟩
   case round =>
    obtain ⟨k, hk, rfl, ⟨bb, rfl, HBF⟩, hbl⟩ := hrel
    clear qA1 qA2 qA3 qA4 qA5
    obtain ⟨qA1, qA2, qA3, qA4, qA5⟩ := A.out.below hbl
    have R2 := Lib.hid (R.out.below hbl)
    have HBL := Lib.hid hbl; clear hbl
    by_cases hlt : (k : Int) < s
    ·have ws : IntKind.i64.wrap ((k : Int) + 1) = ((k + 1 : Nat) : Int) := (IntWalk.i64_in _ (by omega)).trans (by omega)
     have hk0 : (0 : Int) ≤ (k : Int) := by omega
     have HFL := Lib.hid (forgetL_lett (p := (k : Int)) hk0 hlt HLT.out)
     have hfn := forgetL_len (k : Int) ls
     have HFN : Hid ((forgetL (k : Int) ls).length ≤ 1000) := Lib.hid (by have := R.out.len; omega)
     clear hfn
     have R2D := Lib.hid (R2.out.drew)
     have wj : IntKind.i64.wrap (s - 1) = (J : Int) + 1 := (IntWalk.i64_in _ (by omega)).trans (by have := HJ.out; omega)
     have HFL2 : Hid (∀ y ∈ forgetL (k : Int) ls, Lett ((J : Int) + 1) y) := Lib.hid (by have h := HFL.out; rw [show s - 1 = (J : Int) + 1 by have := HJ.out; omega] at h; exact h)
     cases hcf : combF J (forgetL (k : Int) ls) with
     | some cs =>
      have hcl := combF_len hcf
      have HST := Lib.hid (bruF_step HBF.out hcf)
      have HCF := Lib.hid hcf; clear hcf
      have AB := Lib.hid (A.out.below HBL.out)
      go_wp2
      go_region_held3 (fun w' => w'.cell? ⟨w.heap.size, 0, none⟩ = some (.int .i64 s) ∧ w'.cell? ⟨w.heap.size, 1, none⟩ = some (.slice a n cap)) (first | with_reducible exact ⟨qA2, qA3⟩ | with_reducible exact ⟨rA2, rA3⟩ | with_reducible exact ⟨uA2, uA3⟩ | go_keep)
       (first
        | (go_at_call 88; refine (l10Forget_any s a n cap ls k _ R2.out.drew hn (by omega) HLT.out hk0 hlt).mono ?_; rintro e w2 ⟨a2, n2, c2, rfl, hn22, ho, hb⟩; have O2 := Lib.hid ho.reads; have HB2 := Lib.hid (below_go HBL.out.drew hb HBL.out.size); clear hb ho; obtain ⟨rA1, rA2, rA3, rA4, rA5⟩ := A.out.below HB2.out)
        | (go_at_call 85; refine (l10Comb_yes J (by omega) a2 n2 c2 _ _ O2.out HFL2.out (by omega) HCF.out).mono ?_; rintro e w3 ⟨⟨ad, cd, rs, hx, hrl, rfl, hrd⟩, hb⟩; have HX := Lib.hid hx; have HRD := Lib.hid hrd; have HB3 := Lib.hid (below_go HB2.out hb HB2.out.size); have HRL := Lib.hid hrl; clear hb hx hrd hrl; obtain ⟨uA1, uA2, uA3, uA4, uA5⟩ := A.out.below HB3.out))
      have HCL : Hid (cs.length = J) := Lib.hid hcl
      clear hcl
      go_wp2
      go_loop [5, 9] (fun b i => ∃ t : Nat, t ≤ J ∧ i = .int .i64 t ∧ ∃ b2 : Bool, b = .bool b2 ∧ Hid (b2 = (bb && (cs.take t).all List.isEmpty))) (fun _ i => J - (intOf i).toNat)
      case atStart => exact ⟨0, Nat.zero_le _, rfl, bb, rfl, Lib.hid (by simp)⟩
      case round =>
       obtain ⟨t, ht, rfl, b2, rfl, HB2E⟩ := hrel
       by_cases htJ : t < J
       ·have tr : t < rs.length := by rw [HRL.out]; exact htJ
        have tc : t < cs.length := by rw [HCL.out]; exact htJ
        obtain ⟨g1, o1, rfl, hc1⟩ := HRD.out.2.1.resolve_left (by omega)
        have c1 := hc1 t tr
        obtain ⟨r1, hr1⟩ : ∃ x, x = rs[t] := ⟨_, rfl⟩
        have hlen := (HRD.out.2.2 r1 (by rw [hr1]; exact List.getElem_mem tr)).1.len
        have HTK : Hid ((cs.take (t + 1)).all List.isEmpty = ((cs.take t).all List.isEmpty && decide (r1.n = 0))) := Lib.hid (by
         rw [List.take_add_one, List.all_append, List.getElem?_eq_getElem tc]
         have e1 : cs[t] = r1.xs := by
          have e2 : cs[t]? = (rs.map RowV.xs)[t]? := by rw [HX.out]
          rw [List.getElem?_eq_getElem tc, List.getElem?_map, List.getElem?_eq_getElem tr, Option.map_some] at e2
          rw [Option.some.inj e2, hr1]
         simp only [Option.toList_some, List.all_cons, List.all_nil, Bool.and_true]
         rw [e1, isEmpty_len, hlen])
        rw [← hr1] at c1
        have wt : IntKind.i64.wrap ((t : Int) + 1) = ((t + 1 : Nat) : Int) := (IntWalk.i64_in _ (by omega)).trans (by omega)
        clear hc1 hr1 hlen tr tc
        cases b2 with
        | true =>
         by_cases hz : r1.n = 0
         ·have e1 : (((r1.n : Nat) : Int) == 0) = true := by simp [hz]
          have HZ := Lib.hid hz; clear hz
          go_wp2
          go_round
          case rel => exact ⟨t + 1, by omega, by go_num, _, rfl, Lib.hid (by rw [HTK.out, ← Bool.and_assoc, ← HB2E.out]; simp [HZ.out])⟩
          case measure => simp [intOf]; omega
         ·have e1 : (((r1.n : Nat) : Int) == 0) = false := by (rw [beq_eq_false_iff_ne]; omega)
          have HZ := Lib.hid hz; clear hz
          go_wp2
          go_round
          case rel => exact ⟨t + 1, by omega, by go_num, _, rfl, Lib.hid (by rw [HTK.out, ← Bool.and_assoc, ← HB2E.out]; simp [HZ.out])⟩
          case measure => simp [intOf]; omega
        | false =>
         go_wp2
         go_round
         case rel => exact ⟨t + 1, by omega, by go_num, _, rfl, Lib.hid (by rw [HTK.out, ← Bool.and_assoc, ← HB2E.out]; rfl)⟩
         case measure => simp [intOf]; omega
       ·have htj : t = J := by omega
        have HFIN : Hid (b2 = (bb && cs.all List.isEmpty)) := Lib.hid (by rw [HB2E.out, htj, List.take_of_length_le (by rw [HCL.out]; exact Nat.le_refl _)])
        clear htj
        go_wp2
        go_roundw
        case rel => exact ⟨k + 1, by omega, by go_num, ⟨_, rfl, Lib.hid (by rw [HST.out, HFIN.out])⟩, HB3.out⟩
        case measure => simp [intOf]; omega
     | none =>
      have HEND := Lib.hid (bruF_none (bruF_stop HBF.out hcf) (J + 2) (by have := HJ.out; omega))
      have HCF := Lib.hid hcf; clear hcf
      go_wp2
      go_region_held3 (fun w' => w'.cell? ⟨w.heap.size, 0, none⟩ = some (.int .i64 s) ∧ w'.cell? ⟨w.heap.size, 1, none⟩ = some (.slice a n cap)) (first | with_reducible exact ⟨qA2, qA3⟩ | with_reducible exact ⟨rA2, rA3⟩ | with_reducible exact ⟨uA2, uA3⟩ | go_keep)
       (first
        | (go_at_call 88; refine (l10Forget_any s a n cap ls k _ R2.out.drew hn (by omega) HLT.out hk0 hlt).mono ?_; rintro e w2 ⟨a2, n2, c2, rfl, hn22, ho, hb⟩; have O2 := Lib.hid ho.reads; have HB2 := Lib.hid (below_go HBL.out.drew hb HBL.out.size); clear hb ho; obtain ⟨rA1, rA2, rA3, rA4, rA5⟩ := A.out.below HB2.out)
        | (go_at_call 85; refine (l10Comb_no J (by omega) a2 n2 c2 _ _ O2.out HFL2.out (by omega) HCF.out).mono ?_; rintro e w3 ⟨rfl, hb⟩; have HB3 := Lib.hid (below_go HB2.out hb HB2.out.size); clear hb; obtain ⟨uA1, uA2, uA3, uA4, uA5⟩ := A.out.below HB3.out))
      have hm := HM.out
      rw [HEND.out] at hm
      obtain ⟨rfl, rfl⟩ := Prod.mk.injEq .. ▸ hm
      have HB4 := Lib.hid (below_go BB.out HB3.out BB.out.size)
      clear hm
      go_wp2
      go_ret2
      exact ⟨rfl, HB4.out⟩
    ·have hks : (k : Int) = s := by omega
     have hm := HM.out
     rw [show J + 2 = k by have := HJ.out; omega, HBF.out] at hm
     obtain ⟨rfl, rfl⟩ := Prod.mk.injEq .. ▸ hm
     have HB3 := Lib.hid (below_go BB.out HBL.out BB.out.size)
     clear hm hks
     go_wp2
     go_ret2
     exact ⟨rfl, HB3.out⟩
  ·have hM := HM.out
   rw [if_neg hs1] at hM
   obtain ⟨rfl, rfl⟩ := Prod.mk.injEq .. ▸ hM
   have hse : s = 1 := by omega
   subst hse
   clear hM
   go_wp2
   refine wp_loop_rounds 1 ?_; rw [rounds_succ]
   go_wp2
   go_ret2
   exact ⟨rfl, BB.out⟩
 ·rw [mBru, if_neg hpc] at hM
  obtain ⟨rfl, rfl⟩ := Prod.mk.injEq .. ▸ hM
  have t1 : (pureC s ls != 0) = true := by simp [hpc]
  obtain ⟨pc, hpcq⟩ : ∃ pc, pc = pureC s ls := ⟨_, rfl⟩
  have HPC : Hid (pureC s ls = pc) := Lib.hid hpcq.symm
  rw [← hpcq] at t1 ⊢
  clear hpc hpcq hM
  go_enter Try.func44, Try.ntmps44
  go_wp2_with fail
  refine (l10Pure_any R.out HF.out hn HPC.out).mono ?_
  rintro e w1 ⟨rfl, hb⟩
  replace BB := Lib.hid (below_go BB.out hb (by simp)); clear hb
  clear qA1 qA2 qA3 qA4 qA5
  go_wp2
  go_ret2
  exact ⟨rfl, BB.out⟩

end Go.Proofs.Ytehcbamfendbaaa

