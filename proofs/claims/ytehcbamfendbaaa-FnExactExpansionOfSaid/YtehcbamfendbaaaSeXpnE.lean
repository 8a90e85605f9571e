/- ExpansionOf: the exported functions. -/
import Derived.Test.YtehcbamfendbaaaSeXpnI
import Derived.Test.YtehcbamfendbaaaSeXpnM
import Derived.Test.YtehcbamfendbaaaSeXpnQ
import Derived.Test.YtehcbamfendbaaaSeMg14
namespace Go.Proofs.Ytehcbamfendbaaa
open Go.RowKit Go.ChangeShapes

/-- The expansion, and the code. -/
def mExp (s : Int) (ls : List Int) (j : Int) : List (List Int) × Int :=
 if isBraid s ls = true then (if 1 ≤ j ∧ j < s then (if (mCombOf s ls).2 = 0 then (matX j.toNat (xpW j.toNat ((mCombOf s ls).1.getD (s - 1 - j).toNat [])).G, 0) else ([], (mCombOf s ls).2)) else ([], 2)) else ([], 1)

theorem mExp_len2 (s : Int) (ls : List Int) (j : Int) : (mExp s ls j).1.length ≤ 8 := by
 unfold mExp
 split
 ·rename_i h
  have h8 := hi_of_isBraid _ _ h
  split
  ·split
   ·simp only [matX_len]; omega
   ·simp
  ·simp
 ·simp

theorem str_len4 {j : Int} {ls : List Int} : ∀ k f, strF j ls k = some f → f.length ≤ 400 := by
 intro k
 induction k with
 | zero =>
  intro f h
  have e : ([] : List Int) = f := Option.some.inj h
  rw [← e]
  simp
 | succ k ih =>
  intro f h
  cases hp : strF j ls k with
  | none => rw [strF_none hp 1] at h; cases h
  | some g =>
   rw [strF_some hp] at h
   unfold strStep at h
   split at h
   ·split at h
    ·cases h
    ·split at h
     ·cases h
     ·have e := Option.some.inj h
      rw [← e]
      omega
   ·have e := Option.some.inj h
    rw [← e]
    exact ih g hp

theorem comb_len4 : ∀ (J : Nat) (ls : List Int) (c : List (List Int)), combF J ls = some c → ∀ x ∈ c, x.length ≤ 400
 | 0, ls, c, h, x, hx => by
  have e : ([] : List (List Int)) = c := Option.some.inj h
  rw [← e] at hx
  cases hx
 | J + 1, ls, c, h, x, hx => by
  cases hf : strF ((J : Int) + 1) ls ls.length with
  | none => rw [combF_none hf] at h; cases h
  | some f =>
   rw [combF_some hf] at h
   cases hc : combF J (forgetL ((J : Int) + 1) ls) with
   | none => rw [hc] at h; cases h
   | some d =>
    rw [hc] at h
    have e : f :: d = c := Option.some.inj h
    rw [← e] at hx
    rcases List.mem_cons.1 hx with rfl | h1
    ·exact str_len4 _ _ hf
    ·exact comb_len4 J _ d hc x h1

/-- What is known of a comb with the code 0. -/
theorem comb_facts {s : Int} {ls : List Int} (hb : isBraid s ls = true) (h : (mCombOf s ls).2 = 0) {j : Nat} (h1 : 1 ≤ j) (h2 : (j : Int) < s) :
  (mCombOf s ls).1.length = (s - 1).toNat ∧ (∀ x ∈ (mCombOf s ls).1, x.length ≤ 400) ∧ ∀ z ∈ (mCombOf s ls).1.getD (s - 1 - j).toNat [], Lett ((j : Int) + 1) z := by
 have hp : pureC s ls = 0 := by
  unfold mCombOf at h
  by_cases e : pureC s ls = 0
  ·exact e
  ·rw [if_neg e] at h
   exact absurd h e
 have hlt := letts_of_isBraid hb
 rw [mCombOf, if_pos hp] at h ⊢
 unfold mComb at h ⊢
 cases hc : combF (s - 1).toNat ls with
 | none => rw [hc] at h; cases h
 | some c =>
  have hl := combF_len hc
  simp only
  refine ⟨hl, comb_len4 _ _ c hc, ?_⟩
  have hi : (s - 1 - j).toNat < c.length := by omega
  have e1 : ∀ i (h : i < c.length), c.getD i [] = c[i] := fun i h => by simp [List.getD, h]
  rw [e1 _ hi]
  intro z hz
  have h3 := comb_lett (s - 1).toNat ls (fun x hx => by have := hlt x hx; rw [show (((s - 1).toNat : Nat) : Int) + 1 = s by omega]; exact this) c hc _ hi z hz
  rw [show (((s - 1).toNat : Nat) : Int) - (((s - 1 - j).toNat : Nat) : Int) + 1 = (j : Int) + 1 by omega] at h3
  exact h3

set_option maxRecDepth 100000 in
set_option maxHeartbeats 2000000 in
theorem implExp_any {s : Int} {a : Option Addr} {n cap : Nat} {ls : List Int} {j : Int} {w : World} {r : List (List Int)} {fc : Int} (hr : Reads w a n ls) (hf : Fits ls) (hn : n ≤ 1048576) (_hj : (Lit.int .i64 j).wf = true) (hM : mExp s ls j = (r, fc)) :
  Calls Try.prog 47 #[.agg #[.int .i64 s, .slice a n cap], .int .i64 j] w (RetSSN w r fc) := by
 clear _hj
 have R := Lib.hid (hr.alloc (.cells #[.int .i64 s, .slice a n cap] 29)); clear hr
 have HF := Lib.hid hf; clear hf
 have A := Lib.hid (At2.new w (.int .i64 s) (.slice a n cap) 29)
 have BB := Lib.hid (below1 w (.cells #[.int .i64 s, .slice a n cap] 29))
 obtain ⟨qA1, qA2, qA3, qA4, qA5⟩ := A.out
 by_cases hbr : isBraid s ls = true
 ·have HBR := Lib.hid hbr
  have g1 := lo_of_isBraid _ _ hbr
  have g2 := hi_of_isBraid _ _ hbr
  have ws : IntKind.i64.wrap (s - 1) = s - 1 := IntWalk.i64_in _ (by omega)
  by_cases hj : 1 ≤ j ∧ j < s
  ·obtain ⟨J, rfl⟩ : ∃ J : Nat, j = (J : Int) := ⟨j.toNat, by omega⟩
   have hJ1 : 1 ≤ J := by omega
   have hJ7 : J ≤ 7 := by omega
   have hJs : (J : Int) < s := hj.2
   rw [mExp, if_pos hbr, if_pos hj, Int.toNat_natCast] at hM
   have d1 : ¬ (J : Int) < 1 := by omega
   have d2 : ¬ (J : Int) ≥ s := by omega
   by_cases hc0 : (mCombOf s ls).2 = 0
   ·obtain ⟨k1, k2, k3⟩ := comb_facts hbr hc0 hJ1 hJs
    rw [if_pos hc0] at hM
    simp only [Prod.mk.injEq] at hM
    obtain ⟨rfl, rfl⟩ := hM
    obtain ⟨c, hc⟩ : ∃ c, c = (mCombOf s ls).1 := ⟨_, rfl⟩
    have HMC : Hid (mCombOf s ls = (c, 0)) := Lib.hid (by rw [hc, ← hc0])
    rw [← hc] at k1 k2 k3
    have HK2 := Lib.hid k2
    obtain ⟨i, hi⟩ : ∃ i : Nat, s - 1 - (J : Int) = (i : Int) := ⟨(s - 1 - J).toNat, by omega⟩
    have hin : (s - 1 - (J : Int)).toNat = i := by omega
    rw [hin] at k3
    have hic : i < c.length := by omega
    have wi : IntKind.i64.wrap (s - 1 - (J : Int)) = (i : Int) := (IntWalk.i64_in _ (by omega)).trans hi
    have HFIN : Hid (matX J (xpW J (c.getD i [])).G = matX J (xpW J ((mCombOf s ls).1.getD (s - 1 - (J : Int)).toNat [])).G) := Lib.hid (by rw [hin, hc])
    have HK3 := Lib.hid k3
    clear hc hc0 hj hbr k2 k3 hin hi k1
    go_enter Try.func47, Try.ntmps47
    go_wp2_with fail
    refine (implIsBraid_any s a n cap ls _ R.out hn).mono ?_
    rintro e w1 ⟨rfl, hb⟩
    rw [HBR.out]
    clear qA1 qA2 qA3 qA4 qA5
    replace R := Lib.hid (R.out.below hb)
    replace A := Lib.hid (A.out.below hb)
    replace BB := Lib.hid (below_go BB.out hb BB.out.size)
    clear hb
    obtain ⟨qA1, qA2, qA3, qA4, qA5⟩ := A.out
    go_wp2_with fail
    refine (implCombOf_any R.out HF.out hn HMC.out).mono ?_
    rintro e w2 ⟨a2, m2, c2, rs, rfl, hrs, hr4, ho, hb⟩
    clear qA1 qA2 qA3 qA4 qA5
    have hrl : rs.length = c.length := by rw [← hrs, List.length_map]
    have hir : i < rs.length := by omega
    have hrd := ho.reads
    obtain ⟨gx, ox, hax, hcx⟩ := hrd.2.1.resolve_left (by have := ho.1; omega)
    have c0 := hcx i hir
    have hrr := (hrd.2.2 _ (List.getElem_mem hir)).1
    have hxi : rs[i].xs = c.getD i [] := by
     have e2 : (rs.map RowV.xs)[i]? = c[i]? := by rw [hrs]
     rw [List.getElem?_map, List.getElem?_eq_getElem hir, Option.map_some] at e2
     simp [List.getD, ← e2]
    have hx4 : rs[i].n ≤ 400 := by
     rw [← hrr.len, hxi]
     have : c.getD i [] = c[i] := by simp [List.getD, hic]
     rw [this]
     exact HK2.out _ (List.getElem_mem hic)
    obtain ⟨x, hx⟩ : ∃ x, x = rs[i] := ⟨_, rfl⟩
    rw [← hx] at c0 hrr hxi hx4
    rw [hxi] at hrr
    have HR3 := Lib.hid hrr
    replace A := Lib.hid (A.out.below hb)
    replace BB := Lib.hid (below_go BB.out hb BB.out.size)
    have i0 : (0 : Int) ≤ (i : Int) := by omega
    have i1 : (i : Int) < ((m2 : Nat) : Int) := by have := ho.1; omega
    have t0 : ((0 : Int) != 0) = false := by simp
    subst hax
    obtain ⟨mm, hmm⟩ : ∃ mm, mm = m2 := ⟨_, rfl⟩
    rw [← hmm] at i1 ⊢
    clear hcx hrd hrs hr4 ho hb hrl hir hxi hx hrr hmm
    obtain ⟨qA1, qA2, qA3, qA4, qA5⟩ := A.out
    go_wp2_with fail
    refine (expanded_any J hJ1 hJ7 x.a x.n x.cap (c.getD i []) _ HR3.out HK3.out hx4).mono ?_
    rintro e w3 ⟨a3, c3, rs3, rfl, hrs3, hG, hb⟩
    have zz := BB.out.size
    have HG := Lib.hid (hG.low zz)
    have HRS := Lib.hid hrs3
    replace BB := Lib.hid (below_go BB.out hb BB.out.size)
    clear hb hG hrs3 qA1 qA2 qA3 qA4 qA5
    go_wp2
    go_ret2
    exact ⟨a3, c3, rs3, rfl, by rw [HRS.out, HFIN.out], HG.out, BB.out⟩
   ·rw [if_neg hc0] at hM
    simp only [Prod.mk.injEq] at hM
    obtain ⟨rfl, rfl⟩ := hM
    have t0 : ((mCombOf s ls).2 != 0) = true := by simp [hc0]
    obtain ⟨cs, cd, hcd⟩ : ∃ cs cd, mCombOf s ls = (cs, cd) := ⟨_, _, rfl⟩
    have HMC := Lib.hid hcd
    rw [hcd] at t0 ⊢
    simp only at t0 ⊢
    clear hc0 hcd hj hbr
    go_enter Try.func47, Try.ntmps47
    go_wp2_with fail
    refine (implIsBraid_any s a n cap ls _ R.out hn).mono ?_
    rintro e w1 ⟨rfl, hb⟩
    rw [HBR.out]
    clear qA1 qA2 qA3 qA4 qA5
    replace R := Lib.hid (R.out.below hb)
    replace A := Lib.hid (A.out.below hb)
    replace BB := Lib.hid (below_go BB.out hb BB.out.size)
    clear hb
    obtain ⟨qA1, qA2, qA3, qA4, qA5⟩ := A.out
    go_wp2_with fail
    refine (implCombOf_any R.out HF.out hn HMC.out).mono ?_
    rintro e w2 ⟨a2, m2, c2, rs, rfl, hrs, hr4, ho, hb⟩
    replace BB := Lib.hid (below_go BB.out hb BB.out.size)
    clear qA1 qA2 qA3 qA4 qA5 hb ho hrs
    go_wp2
    go_ret2
    exact ⟨none, 0, [], rfl, rfl, GrowSS.nil _ _, BB.out⟩
  ·simp only [mExp, if_pos hbr, if_neg hj, Prod.mk.injEq] at hM
   obtain ⟨rfl, rfl⟩ := hM
   by_cases d1 : j < 1
   ·clear hj
    go_enter Try.func47, Try.ntmps47
    go_wp2_with fail
    refine (implIsBraid_any s a n cap ls _ R.out hn).mono ?_
    rintro e w1 ⟨rfl, hb⟩
    rw [HBR.out]
    clear qA1 qA2 qA3 qA4 qA5
    replace R := Lib.hid (R.out.below hb)
    replace A := Lib.hid (A.out.below hb)
    replace BB := Lib.hid (below_go BB.out hb BB.out.size)
    clear hb
    obtain ⟨qA1, qA2, qA3, qA4, qA5⟩ := A.out
    go_wp2
    go_ret2
    exact ⟨none, 0, [], rfl, rfl, GrowSS.nil _ _, BB.out⟩
   ·have d2 : j ≥ s := by omega
    clear hj
    go_enter Try.func47, Try.ntmps47
    go_wp2_with fail
    refine (implIsBraid_any s a n cap ls _ R.out hn).mono ?_
    rintro e w1 ⟨rfl, hb⟩
    rw [HBR.out]
    clear qA1 qA2 qA3 qA4 qA5
    replace R := Lib.hid (R.out.below hb)
    replace A := Lib.hid (A.out.below hb)
    replace BB := Lib.hid (below_go BB.out hb BB.out.size)
    clear hb
    obtain ⟨qA1, qA2, qA3, qA4, qA5⟩ := A.out
    go_wp2
    go_ret2
    exact ⟨none, 0, [], rfl, rfl, GrowSS.nil _ _, BB.out⟩
 ·have hb0 : isBraid s ls = false := by simpa using hbr
  have HBR := Lib.hid hb0
  simp only [mExp, if_neg hbr, Prod.mk.injEq] at hM
  obtain ⟨rfl, rfl⟩ := hM
  clear hbr hb0
  go_enter Try.func47, Try.ntmps47
  go_wp2_with fail
  refine (implIsBraid_any s a n cap ls _ R.out hn).mono ?_
  rintro e w1 ⟨rfl, hb⟩
  rw [HBR.out]
  clear qA1 qA2 qA3 qA4 qA5
  replace R := Lib.hid (R.out.below hb)
  replace A := Lib.hid (A.out.below hb)
  replace BB := Lib.hid (below_go BB.out hb BB.out.size)
  clear hb
  obtain ⟨qA1, qA2, qA3, qA4, qA5⟩ := A.out
  go_wp2
  go_ret2
  exact ⟨none, 0, [], rfl, rfl, GrowSS.nil _ _, BB.out⟩

set_option maxRecDepth 100000 in
set_option maxHeartbeats 2000000 in
theorem specExp_any {s : Int} {a : Option Addr} {n cap : Nat} {ls : List Int} {j : Int} {w : World} {r : List (List Int)} {fc : Int} (hr : Reads w a n ls) (hf : Fits ls) (hn : n ≤ 1048576) (_hj : (Lit.int .i64 j).wf = true) (hM : mExp s ls j = (r, fc)) :
  Calls Try.prog 46 #[.agg #[.int .i64 s, .slice a n cap], .int .i64 j] w (RetSSN w r fc) := by
 clear _hj
 have R := Lib.hid (hr.alloc (.cells #[.int .i64 s, .slice a n cap] 29)); clear hr
 have HF := Lib.hid hf; clear hf
 have A := Lib.hid (At2.new w (.int .i64 s) (.slice a n cap) 29)
 have BB := Lib.hid (below1 w (.cells #[.int .i64 s, .slice a n cap] 29))
 obtain ⟨qA1, qA2, qA3, qA4, qA5⟩ := A.out
 by_cases hbr : isBraid s ls = true
 ·have HBR := Lib.hid hbr
  have g1 := lo_of_isBraid _ _ hbr
  have g2 := hi_of_isBraid _ _ hbr
  have ws : IntKind.i64.wrap (s - 1) = s - 1 := IntWalk.i64_in _ (by omega)
  by_cases hj : 1 ≤ j ∧ j < s
  ·obtain ⟨J, rfl⟩ : ∃ J : Nat, j = (J : Int) := ⟨j.toNat, by omega⟩
   have hJ1 : 1 ≤ J := by omega
   have hJ7 : J ≤ 7 := by omega
   have hJs : (J : Int) < s := hj.2
   rw [mExp, if_pos hbr, if_pos hj, Int.toNat_natCast] at hM
   have t1 : inB (J : Int) 1 (s - 1) = true := (inB_iff _ _ _).2 ⟨by omega, by omega⟩
   by_cases hc0 : (mCombOf s ls).2 = 0
   ·obtain ⟨k1, k2, k3⟩ := comb_facts hbr hc0 hJ1 hJs
    rw [if_pos hc0] at hM
    simp only [Prod.mk.injEq] at hM
    obtain ⟨rfl, rfl⟩ := hM
    obtain ⟨c, hc⟩ : ∃ c, c = (mCombOf s ls).1 := ⟨_, rfl⟩
    have HMC : Hid (mCombOf s ls = (c, 0)) := Lib.hid (by rw [hc, ← hc0])
    rw [← hc] at k1 k2 k3
    have HK2 := Lib.hid k2
    obtain ⟨i, hi⟩ : ∃ i : Nat, s - 1 - (J : Int) = (i : Int) := ⟨(s - 1 - J).toNat, by omega⟩
    have hin : (s - 1 - (J : Int)).toNat = i := by omega
    rw [hin] at k3
    have hic : i < c.length := by omega
    have wi : IntKind.i64.wrap (s - 1 - (J : Int)) = (i : Int) := (IntWalk.i64_in _ (by omega)).trans hi
    have HFIN : Hid (matX J (xpW J (c.getD i [])).G = matX J (xpW J ((mCombOf s ls).1.getD (s - 1 - (J : Int)).toNat [])).G) := Lib.hid (by rw [hin, hc])
    have HK3 := Lib.hid k3
    clear hc hc0 hj hbr k2 k3 hin hi k1
    go_enter Try.func46, Try.ntmps46
    go_wp2_with fail
    refine (l01Is_any s a n cap ls _ R.out HF.out hn).mono ?_
    rintro e w1 ⟨rfl, hb⟩
    rw [HBR.out]
    clear qA1 qA2 qA3 qA4 qA5
    replace R := Lib.hid (R.out.below hb)
    replace A := Lib.hid (A.out.below hb)
    replace BB := Lib.hid (below_go BB.out hb BB.out.size)
    clear hb
    obtain ⟨qA1, qA2, qA3, qA4, qA5⟩ := A.out
    go_wp2_with (go_at_call 76; refine (l01In_any _ _ _ _).mono ?_; rintro e w' ⟨rfl, rfl⟩)
    refine (specCombOf_any R.out HF.out hn HMC.out).mono ?_
    rintro e w2 ⟨a2, c2, rs, rfl, hrs, ho, hb⟩
    clear qA1 qA2 qA3 qA4 qA5
    have hrl : rs.length = c.length := by rw [← hrs, List.length_map]
    have hir : i < rs.length := by omega
    have hrd := ho.ownSS.reads
    obtain ⟨gx, ox, hax, hcx⟩ := hrd.2.1.resolve_left (by omega)
    have c0 := hcx i hir
    have hrr := (hrd.2.2 _ (List.getElem_mem hir)).1
    have hxi : rs[i].xs = c.getD i [] := by
     have e2 : (rs.map RowV.xs)[i]? = c[i]? := by rw [hrs]
     rw [List.getElem?_map, List.getElem?_eq_getElem hir, Option.map_some] at e2
     simp [List.getD, ← e2]
    have hx4 : rs[i].n ≤ 400 := by
     rw [← hrr.len, hxi]
     have : c.getD i [] = c[i] := by simp [List.getD, hic]
     rw [this]
     exact HK2.out _ (List.getElem_mem hic)
    obtain ⟨x, hx⟩ : ∃ x, x = rs[i] := ⟨_, rfl⟩
    rw [← hx] at c0 hrr hxi hx4
    rw [hxi] at hrr
    have HR3 := Lib.hid hrr
    replace A := Lib.hid (A.out.below hb)
    replace BB := Lib.hid (below_go BB.out hb BB.out.size)
    have i0 : (0 : Int) ≤ (i : Int) := by omega
    have i1 : (i : Int) < ((rs.length : Nat) : Int) := by omega
    have t0 : ((0 : Int) != 0) = false := by simp
    subst hax
    obtain ⟨mm, hmm⟩ : ∃ mm, mm = rs.length := ⟨_, rfl⟩
    rw [← hmm] at i1 ⊢
    clear hcx hrd hrs ho hb hrl hir hxi hx hrr hmm
    obtain ⟨qA1, qA2, qA3, qA4, qA5⟩ := A.out
    go_wp2_with fail
    refine (l10Expansion_any J hJ1 hJ7 x.a x.n x.cap (c.getD i []) _ HR3.out HK3.out hx4).mono ?_
    rintro e w3 ⟨a3, c3, rs3, rfl, hrs3, hG, hb⟩
    have zz := BB.out.size
    have HG := Lib.hid (hG.low zz)
    have HRS := Lib.hid hrs3
    replace BB := Lib.hid (below_go BB.out hb BB.out.size)
    clear hb hG hrs3 qA1 qA2 qA3 qA4 qA5
    go_wp2
    go_ret2
    exact ⟨a3, c3, rs3, rfl, by rw [HRS.out, HFIN.out], HG.out, BB.out⟩
   ·rw [if_neg hc0] at hM
    simp only [Prod.mk.injEq] at hM
    obtain ⟨rfl, rfl⟩ := hM
    have t0 : ((mCombOf s ls).2 != 0) = true := by simp [hc0]
    obtain ⟨cs, cd, hcd⟩ : ∃ cs cd, mCombOf s ls = (cs, cd) := ⟨_, _, rfl⟩
    have HMC := Lib.hid hcd
    rw [hcd] at t0 ⊢
    simp only at t0 ⊢
    clear hc0 hcd hj hbr
    go_enter Try.func46, Try.ntmps46
    go_wp2_with fail
    refine (l01Is_any s a n cap ls _ R.out HF.out hn).mono ?_
    rintro e w1 ⟨rfl, hb⟩
    rw [HBR.out]
    clear qA1 qA2 qA3 qA4 qA5
    replace R := Lib.hid (R.out.below hb)
    replace A := Lib.hid (A.out.below hb)
    replace BB := Lib.hid (below_go BB.out hb BB.out.size)
    clear hb
    obtain ⟨qA1, qA2, qA3, qA4, qA5⟩ := A.out
    go_wp2_with (go_at_call 76; refine (l01In_any _ _ _ _).mono ?_; rintro e w' ⟨rfl, rfl⟩)
    refine (specCombOf_any R.out HF.out hn HMC.out).mono ?_
    rintro e w2 ⟨a2, c2, rs, rfl, hrs, ho, hb⟩
    replace BB := Lib.hid (below_go BB.out hb BB.out.size)
    clear qA1 qA2 qA3 qA4 qA5 hb ho hrs
    go_wp2
    go_ret2
    exact ⟨none, 0, [], rfl, rfl, GrowSS.nil _ _, BB.out⟩
  ·simp only [mExp, if_pos hbr, if_neg hj, Prod.mk.injEq] at hM
   obtain ⟨rfl, rfl⟩ := hM
   have t1 : inB j 1 (s - 1) = false := (inB_not _ _ _).2 (by omega)
   clear hj
   go_enter Try.func46, Try.ntmps46
   go_wp2_with fail
   refine (l01Is_any s a n cap ls _ R.out HF.out hn).mono ?_
   rintro e w1 ⟨rfl, hb⟩
   rw [HBR.out]
   clear qA1 qA2 qA3 qA4 qA5
   replace R := Lib.hid (R.out.below hb)
   replace A := Lib.hid (A.out.below hb)
   replace BB := Lib.hid (below_go BB.out hb BB.out.size)
   clear hb
   obtain ⟨qA1, qA2, qA3, qA4, qA5⟩ := A.out
   go_wp2_with (go_at_call 76; refine (l01In_any _ _ _ _).mono ?_; rintro e w' ⟨rfl, rfl⟩)
   go_ret2
   exact ⟨none, 0, [], rfl, rfl, GrowSS.nil _ _, BB.out⟩
 ·have hb0 : isBraid s ls = false := by simpa using hbr
  have HBR := Lib.hid hb0
  simp only [mExp, if_neg hbr, Prod.mk.injEq] at hM
  obtain ⟨rfl, rfl⟩ := hM
  clear hbr hb0
  go_enter Try.func46, Try.ntmps46
  go_wp2_with fail
  refine (l01Is_any s a n cap ls _ R.out HF.out hn).mono ?_
  rintro e w1 ⟨rfl, hb⟩
  rw [HBR.out]
  clear qA1 qA2 qA3 qA4 qA5
  replace R := Lib.hid (R.out.below hb)
  replace A := Lib.hid (A.out.below hb)
  replace BB := Lib.hid (below_go BB.out hb BB.out.size)
  clear hb
  obtain ⟨qA1, qA2, qA3, qA4, qA5⟩ := A.out
  go_wp2
  go_ret2
  exact ⟨none, 0, [], rfl, rfl, GrowSS.nil _ _, BB.out⟩

end Go.Proofs.Ytehcbamfendbaaa

