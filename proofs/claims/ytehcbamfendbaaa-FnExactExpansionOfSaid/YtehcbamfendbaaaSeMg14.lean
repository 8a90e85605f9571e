/- Merged texts. -/
import Derived.Test.YtehcbamfendbaaaSeSStr
import Derived.Test.YtehcbamfendbaaaSeMg19
import Derived.Test.YtehcbamfendbaaaSeMg20
import Derived.Test.YtehcbamfendbaaaSeCmoI

/- Combs: the model. -/
namespace Go.Proofs.Ytehcbamfendbaaa
open Go.RowKit Go.ChangeShapes

theorem combF_cut {J d : Nat} {ls cur : List Int} {pre : List (List Int)} (h : combF J ls = (combF (J - d) cur).map (pre ++ ·)) (hd : d < J) {f : List Int} (hf : strF ((J - d : Nat) : Int) cur cur.length = some f) :
  combF J ls = (combF (J - (d + 1)) (forgetL ((J - d : Nat) : Int) cur)).map ((pre ++ [f]) ++ ·) := by
 obtain ⟨q, hq⟩ : ∃ q, J - d = q + 1 := ⟨J - d - 1, by omega⟩
 have hq2 : J - (d + 1) = q := by omega
 rw [h, hq2]
 rw [hq] at hf ⊢
 have e : ((q + 1 : Nat) : Int) = (q : Int) + 1 := by omega
 rw [e] at hf ⊢
 rw [combF_some hf]
 cases combF q (forgetL ((q : Int) + 1) cur) <;> simp

theorem combF_stop {J d : Nat} {ls cur : List Int} {pre : List (List Int)} (h : combF J ls = (combF (J - d) cur).map (pre ++ ·)) (hd : d < J) (hf : strF ((J - d : Nat) : Int) cur cur.length = none) : combF J ls = none := by
 obtain ⟨q, hq⟩ : ∃ q, J - d = q + 1 := ⟨J - d - 1, by omega⟩
 rw [h]
 rw [hq] at hf ⊢
 have e : ((q + 1 : Nat) : Int) = (q : Int) + 1 := by omega
 rw [e] at hf
 rw [combF_none hf]
 rfl

theorem combF_full {J d : Nat} {ls cur : List Int} {pre : List (List Int)} (h : combF J ls = (combF (J - d) cur).map (pre ++ ·)) (hd : ¬ d < J) : combF J ls = some pre := by
 have e : J - d = 0 := by omega
 rw [h, e]
 simp [combF]

set_option maxRecDepth 100000 in
set_option maxHeartbeats 2000000 in
theorem l10Comb_any (J : Nat) (hJ : J ≤ 7) (a : Option Addr) (n cap : Nat) (ls : List Int) (w : World) (hr : Reads w a n ls) (hls : ∀ x ∈ ls, Lett ((J : Int) + 1) x) (hn : n ≤ 1000) :
  Calls Try.prog 85 #[.int .i64 ((J : Int) + 1), .slice a n cap] w fun e w' => ((∃ ad cd rs, combF J ls = some (rs.map RowV.xs) ∧ rs.length = J ∧ e = .returned (.tuple #[.slice ad J cd, .bool true]) ∧ (∀ x ∈ rs, x.n ≤ 400 ∧ Small x.xs) ∧ GrowSS w.heap.size w' (.slice ad J cd) J rs) ∨ (combF J ls = none ∧ e = .returned (.tuple #[.slice none 0 0, .bool false]))) ∧ Below w.heap.size w w' := by
 obtain ⟨i1, hj, hs0, hs1, hs2⟩ := info_parts infoSlice
 have HLS := Lib.hid hls; clear hls
 have HR := Lib.hid hr; clear hr
 have ew : IntKind.i64.wrap ((J : Int) + 1 - 1) = (J : Int) := (IntWalk.i64_in _ (by omega)).trans (by omega)
 go_enter Try.func85, Try.ntmps85
 go_wp2
 clear ew
 go_loopw [1, 6, 7] (fun vl vo jv wr => ∃ (d : Nat) (cur : List Int) (al : Option Addr) (nl cl : Nat) (os : List RowV), d ≤ J ∧ nl ≤ n ∧ jv = .int .i64 ((J : Int) - d) ∧ vl = .slice al nl cl ∧ Reads wr al nl cur ∧ (∀ x ∈ cur, Lett ((J : Int) - d + 1) x) ∧ combF J ls = (combF (J - d) cur).map (os.map RowV.xs ++ ·) ∧ (∀ x ∈ os, x.n ≤ 400 ∧ Small x.xs) ∧ GrowSS w.heap.size wr vo d os ∧ Below w.heap.size w wr) (fun _ _ jv _ => (intOf jv).toNat)
 case atStart => exact ⟨0, ls, a, n, cap, [], Nat.zero_le _, Nat.le_refl _, by simp, rfl, HR.out.alloc _, by simpa using HLS.out, by simp, (fun x hx => by cases hx), GrowSS.empty w, below1 w _⟩
 case round =>
  obtain ⟨d, cur, al, nl, cl, os, hd, hnl, rfl, rfl, hrc, hlc, hcf, hsm, hG, hbl⟩ := hrel
  have HRC := Lib.hid hrc; have HLC := Lib.hid hlc; have HCF := Lib.hid hcf; have HSM := Lib.hid hsm; have GG := Lib.hid hG; have HB := Lib.hid hbl
  have hz := hbl.size
  clear hrc hlc hcf hsm hG hbl
  obtain ⟨wo, hwo⟩ : ∃ wo, wo = wr := ⟨_, rfl⟩
  subst hwo
  by_cases hlt : d < J
  ·have c0 : (J : Int) - d > 0 := by omega
   have EJD : Hid ((J : Int) - d = ((J - d : Nat) : Int)) := Lib.hid (by omega)
   have ew : IntKind.i64.wrap ((J : Int) - d - 1) = (J : Int) - d - 1 := IntWalk.i64_in _ (by omega)
   go_wp2_with fail
   refine (l10Strand_any ((J : Int) - d) (by omega) (by omega) al nl cl cur _ HRC.out HLC.out (by omega)).mono ?_
   rintro e w2 ⟨hres, hb⟩
   rcases hres with ⟨f, fa, fn, fc, wa, wn, wc, hsf, rfl, hfn, hwn, hsz, hfs, hof, how⟩ | ⟨hsf, rfl⟩
   ·rw [← HRC.out.len, EJD.out] at hsf
    have HCF2 := Lib.hid (combF_cut HCF.out hlt hsf)
    rw [← EJD.out] at HCF2
    have HLC2 : Hid (∀ x ∈ forgetL ((J : Int) - d) cur, Lett ((J : Int) - (d + 1 : Nat) + 1) x) := Lib.hid (by
     have h := forgetL_lett (n := (J : Int) - d + 1) (p := (J : Int) - d) (by omega) (by omega) HLC.out
     rw [show (J : Int) - (d + 1 : Nat) + 1 = (J : Int) - d + 1 - 1 by omega]
     exact h)
    obtain ⟨b, hb1, hb2, hoi⟩ := own_block hof (by omega)
    have HOI := Lib.hid hoi
    have GL := Lib.hid GG.out.lt
    have G3 := Lib.hid (GG.out.below hb)
    have BB3 := Lib.hid (below_go HB.out hb hz)
    have HOW := Lib.hid (show OwnV wo.heap.size w2 (.slice wa wn wc) wn (forgetL ((J : Int) - d) cur) from how)
    have hol := GG.out.len
    have HFS := Lib.hid hfs
    clear hof how hoi hb hsf hfs
    have zz := BB3.out.size
    go_wp2_with (at_builtin; refine wpList_append_own_at _ rfl _ _ 26 rfl w.heap.size 22 i1 (.slice none 0 0) 1 24 Try.underlying26 hj hs0 hs1 hs2 rfl (by decide) _ _ _ rfl (World.ownsRow.alloc G3.out.own _) ⟨w2.heap.size, 0, none⟩ 1 1 [.slice fa fn fc] rfl rfl (cell_one_new w2 _ _) (fun u hu => by simp at hu; subst hu; rfl) (by unfold maxLen; omega) (by omega) (by simp; omega) ?_)
    intro v' w5 hown' hgrow _ hat
    have hgx := G3.out.appendR HOI.out (by omega) (by omega) hb2 (fun x hx => by have := GL.out.1 x hx; omega) (fun j hj => by have := GL.out.2 j hj; omega) hown' hgrow (by simpa using hat)
    have hb5 := G3.out.appBelow (by omega) hgrow
    have GX := Lib.hid hgx
    have BB5 : Hid (Below w.heap.size w w5) := Lib.hid (BB3.out.trans hb5)
    have hkeep : Reads w5 wa wn (forgetL ((J : Int) - d) cur) := Own.reads (show Own wo.heap.size w5 wa wn wc (forgetL ((J : Int) - d) cur) from HOW.out.keep hgrow (fun g e1 e2 => by
     have h1 := GL.out.2 g e1
     have h2 := HOW.out.block_ge e2
     omega))
    have HRW5 := Lib.hid hkeep
    clear hown' hgrow hat hgx hb5 hkeep
    go_wp2
    go_roundw
    case rel => exact ⟨d + 1, _, wa, wn, wc, os ++ [⟨b, fa, fn, fc, f⟩], by omega, by omega, by rw [show (J : Int) - (d + 1 : Nat) = (J : Int) - d - 1 by omega], rfl, HRW5.out, HLC2.out, by rw [List.map_append]; exact HCF2.out, (fun x hx => by
     rcases List.mem_append.1 hx with h | h
     ·exact HSM.out x h
     ·obtain rfl := List.mem_singleton.1 h
      exact ⟨hfn, HFS.out⟩), GX.out, BB5.out⟩
    case measure => simp [intOf]; omega
   ·rw [← HRC.out.len, EJD.out] at hsf
    have HST := Lib.hid (combF_stop HCF.out hlt hsf)
    have BB3 := Lib.hid (below_go HB.out hb hz)
    clear hsf hb
    go_wp2
    go_ret2
    exact ⟨.inr ⟨HST.out, rfl⟩, BB3.out⟩
  ·have c0 : ¬ ((J : Int) - d > 0) := by omega
   have HFU := Lib.hid (combF_full HCF.out hlt)
   have hdJ : d = J := by omega
   subst hdJ
   have hol := GG.out.len
   obtain ⟨ad, cd, rfl⟩ := GG.out.form
   go_wp2
   go_ret2
   exact ⟨.inl ⟨ad, cd, os, HFU.out, hol, rfl, HSM.out, GG.out⟩, HB.out⟩

end Go.Proofs.Ytehcbamfendbaaa

/- Merged texts. -/

/- CombOf: the program. -/
namespace Go.Proofs.Ytehcbamfendbaaa
open Go.RowKit Go.ChangeShapes

/-- What CombOf gives, and the code. -/
def mCombOf (s : Int) (ls : List Int) : List (List Int) × Int := if pureC s ls = 0 then mComb s ls else ([], pureC s ls)

set_option maxRecDepth 100000 in
set_option maxHeartbeats 2000000 in
theorem implCombOf_any {s : Int} {a : Option Addr} {n cap : Nat} {ls : List Int} {w : World} {r : List (List Int)} {fc : Int} (hr : Reads w a n ls) (hf : Fits ls) (hn : n ≤ 1048576) (hM : mCombOf s ls = (r, fc)) :
  Calls Try.prog 43 #[.agg #[.int .i64 s, .slice a n cap]] w (RetSSP w r fc) := by
 have R := Lib.hid (hr.alloc (.cells #[.int .i64 s, .slice a n cap] 29)); clear hr
 have HF := Lib.hid hf; clear hf
 have A := Lib.hid (At2.new w (.int .i64 s) (.slice a n cap) 29)
 have BB := Lib.hid (below1 w (.cells #[.int .i64 s, .slice a n cap] 29))
 obtain ⟨qA1, qA2, qA3, qA4, qA5⟩ := A.out
 by_cases hpc : pureC s ls = 0
 ·have hbr := (pureC_zero hpc).1
  rw [mCombOf, if_pos hpc] at hM
  have HM := Lib.hid hM; clear hM
  have HPC := Lib.hid hpc; clear hpc
  have HLT := Lib.hid (letts_of_isBraid hbr)
  obtain ⟨h1, h2, h3, h4⟩ := (isBraid_iff s ls).1 hbr
  have hn2 : n ≤ 1000 := by have := R.out.len; omega
  obtain ⟨M, hMs⟩ : ∃ M : Nat, s = (M : Int) + 1 := ⟨(s - 1).toNat, by omega⟩
  have HMS := Lib.hid hMs
  have hM9 : M ≤ 40 := by omega
  clear hMs h4 hbr
  go_enter Try.func43, Try.ntmps43
  go_wp2_with fail
  refine (pureCode_any R.out HF.out hn HPC.out).mono ?_
  rintro e w1 ⟨rfl, hb⟩
  clear qA1 qA2 qA3 qA4 qA5
  replace R := Lib.hid (R.out.below hb); replace A := Lib.hid (A.out.below hb)
  replace BB := Lib.hid (below_go BB.out hb (by simp)); clear hb
  obtain ⟨qA1, qA2, qA3, qA4, qA5⟩ := A.out
  have t1 : ((0 : Int) != 0) = false := by simp
  go_wp2_with fail
  refine (combOf_any s M a n cap ls _ R.out hn2 HMS.out hM9 HLT.out HM.out).mono ?_
  rintro e w2 ⟨a2, m2, c2, rs, rfl, hx, hr4, ho, hb⟩
  have HX := Lib.hid hx; have HR4 := Lib.hid hr4; have HO := Lib.hid ho
  have zb := BB.out.size
  replace BB := Lib.hid (below_go BB.out hb BB.out.size); clear hx hr4 ho hb
  clear qA1 qA2 qA3 qA4 qA5
  go_wp2
  go_ret2
  exact ⟨a2, m2, c2, rs, rfl, HX.out, HR4.out, HO.out.low zb, BB.out⟩
 ·rw [mCombOf, if_neg hpc] at hM
  obtain ⟨rfl, rfl⟩ := Prod.mk.injEq .. ▸ hM
  have t1 : (pureC s ls != 0) = true := by simp [hpc]
  obtain ⟨pc, hpcq⟩ : ∃ pc, pc = pureC s ls := ⟨_, rfl⟩
  have HPC : Hid (pureC s ls = pc) := Lib.hid hpcq.symm
  rw [← hpcq] at t1 ⊢
  clear hpc hpcq hM
  go_enter Try.func43, Try.ntmps43
  go_wp2_with fail
  refine (pureCode_any R.out HF.out hn HPC.out).mono ?_
  rintro e w1 ⟨rfl, hb⟩
  replace BB := Lib.hid (below_go BB.out hb (by simp)); clear hb
  clear qA1 qA2 qA3 qA4 qA5
  go_wp2
  go_ret2
  exact ⟨none, 0, 0, [], rfl, rfl, fun x hx => (by cases hx), ⟨rfl, .inl rfl, fun x hx => (by cases hx), fun i j hi => (by cases hi)⟩, BB.out⟩

end Go.Proofs.Ytehcbamfendbaaa

/- CombOf: the model. -/
namespace Go.Proofs.Ytehcbamfendbaaa
open Go.RowKit Go.ChangeShapes

set_option maxRecDepth 100000 in
set_option maxHeartbeats 2000000 in
theorem specCombOf_any {s : Int} {a : Option Addr} {n cap : Nat} {ls : List Int} {w : World} {r : List (List Int)} {fc : Int} (hr : Reads w a n ls) (hf : Fits ls) (hn : n ≤ 1048576) (hM : mCombOf s ls = (r, fc)) :
  Calls Try.prog 42 #[.agg #[.int .i64 s, .slice a n cap]] w (RetSSN w r fc) := by
 have R := Lib.hid (hr.alloc (.cells #[.int .i64 s, .slice a n cap] 29)); clear hr
 have HF := Lib.hid hf; clear hf
 have A := Lib.hid (At2.new w (.int .i64 s) (.slice a n cap) 29)
 have BB := Lib.hid (below1 w (.cells #[.int .i64 s, .slice a n cap] 29))
 obtain ⟨qA1, qA2, qA3, qA4, qA5⟩ := A.out
 by_cases hpc : pureC s ls = 0
 ·have hbr := (pureC_zero hpc).1
  rw [mCombOf, if_pos hpc] at hM
  have HM := Lib.hid hM; clear hM
  have HPC := Lib.hid hpc; clear hpc
  have hLT := letts_of_isBraid hbr
  obtain ⟨h1, h2, h3, h4⟩ := (isBraid_iff s ls).1 hbr
  have hn2 : n ≤ 1000 := by have := R.out.len; omega
  obtain ⟨M, hMs⟩ : ∃ M : Nat, s = (M : Int) + 1 := ⟨(s - 1).toNat, by omega⟩
  have hM7 : M ≤ 7 := by omega
  rw [hMs] at hLT
  have HLT := Lib.hid hLT
  have HMS := Lib.hid hMs
  clear hMs h4 hbr hLT
  go_enter Try.func42, Try.ntmps42
  go_wp2_with fail
  refine (l10Pure_any R.out HF.out hn HPC.out).mono ?_
  rintro e w1 ⟨rfl, hb⟩
  clear qA1 qA2 qA3 qA4 qA5
  replace R := Lib.hid (R.out.below hb); replace A := Lib.hid (A.out.below hb)
  replace BB := Lib.hid (below_go BB.out hb (by simp)); clear hb
  obtain ⟨qA1, qA2, qA3, qA4, qA5⟩ := A.out
  have t1 : ((0 : Int) != 0) = false := by simp
  go_wp2_with fail
  have hc := l10Comb_any M hM7 a n cap ls _ R.out HLT.out hn2
  rw [← HMS.out] at hc
  refine hc.mono ?_
  clear hc
  have zb := BB.out.size
  rintro e w2 ⟨(⟨ad, cd, rs, hcf, hrl, rfl, hsm, hG⟩ | ⟨hcf, rfl⟩), hb⟩
  ·have HG := Lib.hid hG
   replace BB := Lib.hid (below_go BB.out hb BB.out.size)
   have hm := HM.out
   rw [mComb_some HMS.out hcf] at hm
   obtain ⟨rfl, rfl⟩ := Prod.mk.injEq .. ▸ hm
   have HRL := Lib.hid hrl
   clear hb hm hcf hsm hG hrl qA1 qA2 qA3 qA4 qA5
   go_wp2
   go_ret2
   exact ⟨ad, cd, rs, by rw [HRL.out]; rfl, rfl, by rw [HRL.out]; exact HG.out.low zb, BB.out⟩
  ·replace BB := Lib.hid (below_go BB.out hb BB.out.size)
   have hm := HM.out
   rw [mComb_none HMS.out hcf] at hm
   obtain ⟨rfl, rfl⟩ := Prod.mk.injEq .. ▸ hm
   clear hb hm hcf qA1 qA2 qA3 qA4 qA5
   go_wp2
   go_ret2
   exact ⟨none, 0, [], rfl, rfl, GrowSS.nil _ _, BB.out⟩
 ·rw [mCombOf, if_neg hpc] at hM
  obtain ⟨rfl, rfl⟩ := Prod.mk.injEq .. ▸ hM
  have t1 : (pureC s ls != 0) = true := by simp [hpc]
  obtain ⟨pc, hpcq⟩ : ∃ pc, pc = pureC s ls := ⟨_, rfl⟩
  have HPC : Hid (pureC s ls = pc) := Lib.hid hpcq.symm
  rw [← hpcq] at t1 ⊢
  clear hpc hpcq hM
  go_enter Try.func42, Try.ntmps42
  go_wp2_with fail
  refine (l10Pure_any R.out HF.out hn HPC.out).mono ?_
  rintro e w1 ⟨rfl, hb⟩
  replace BB := Lib.hid (below_go BB.out hb (by simp)); clear hb
  clear qA1 qA2 qA3 qA4 qA5
  go_wp2
  go_ret2
  exact ⟨none, 0, [], rfl, rfl, GrowSS.nil _ _, BB.out⟩

end Go.Proofs.Ytehcbamfendbaaa
