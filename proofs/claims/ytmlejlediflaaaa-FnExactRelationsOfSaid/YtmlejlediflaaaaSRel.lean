/- Relations of closures: the exported function of the model. -/
import Derived.Test.YtmlejlediflaaaaRelP
namespace Go.Proofs.Ytmlejlediflaaaa
open Go.RowKit Go.Shelf Go.ChangeShapes

theorem mImgs_cs (n : Nat) (ls : List Int) : (∃ l, imgs ls n = some l ∧ mImgs n ls = (l, 0)) ∨ (imgs ls n = none ∧ mImgs n ls = ([], 3)) := by
  unfold mImgs
  cases h : imgs ls n with
  | none => exact .inr ⟨rfl, rfl⟩
  | some l => exact .inl ⟨l, rfl, rfl⟩

theorem l08Join_ro (au : Option Addr) (nu capu : Nat) (us : List Int) (a : Option Addr) (n cap : Nat) (xs : List Int) (w : World) (hu : Reads w au nu us) (hnu : nu ≤ 1048576) (hr : Reads w a n xs) (hsm : Small xs) (hn : n ≤ 1048576) (ro : List Int) (rl : Nat) (h : joinF us xs = ro) (hrl : rl = ro.length) :
    Calls Try.prog 84 #[.slice au nu capu, .slice a n cap] w (MadeInts w rl ro) := by
  subst hrl; subst h; exact l08Join_any au nu capu us a n cap xs w hu hnu hr hsm hn

set_option maxRecDepth 100000 in
set_option maxHeartbeats 1000000 in
theorem specRelationsOf_any {s : Int} {a : Option Addr} {n cap : Nat} {ls : List Int} {w : World} {r : List (List Int)} {fc : Int} (hr : Reads w a n ls) (hf : Fits ls) (hn : n ≤ 1048576) (hM : mRelations s ls = (r, fc)) :
    Calls Try.prog 57 #[.agg #[.int .i64 s, .slice a n cap]] w (RetSSN w r fc) := by
  obtain ⟨i1, hj, hs0, hs1, hs2⟩ := info_parts infoSlice
  have R := Lib.hid (hr.alloc (.cells #[.int .i64 s, .slice a n cap] 24)); clear hr
  have HF := Lib.hid hf; clear hf
  have A := Lib.hid (At2.new w (.int .i64 s) (.slice a n cap) 24)
  have BB := Lib.hid (below1 w (.cells #[.int .i64 s, .slice a n cap] 24))
  obtain ⟨qA1, qA2, qA3, qA4, qA5⟩ := A.out
  by_cases hbr : isBraid s ls = true
  · rw [mRelations, if_pos hbr] at hM
    obtain ⟨h1, h2, _, _⟩ := (isBraid_iff s ls).1 hbr
    obtain ⟨q, rfl⟩ : ∃ q : Nat, s = (q : Int) := ⟨s.toNat, by omega⟩
    rw [Int.toNat_natCast] at hM
    have hq8 : q ≤ 8 := by omega
    have HM := Lib.hid hM; clear hM
    have HLB := Lib.hid (letters_bd0 hbr)
    have HLB2 := Lib.hid (letters_bd hbr)
    go_enter Try.func57, Try.ntmps57
    go_wp2_with fail
    refine (l01Is_any (q : Int) a n cap ls _ R.out HF.out hn).mono ?_
    rintro e w1 ⟨rfl, hb⟩
    clear qA1 qA2 qA3 qA4 qA5
    replace R := Lib.hid (R.out.below hb); replace A := Lib.hid (A.out.below hb)
    replace BB := Lib.hid (below_go BB.out hb (by simp)); clear hb
    obtain ⟨qA1, qA2, qA3, qA4, qA5⟩ := A.out
    rcases mImgs_cs q ls with ⟨l, hi, hm⟩ | ⟨hi, hm⟩
    · have HI := Lib.hid hi; have HM1 := Lib.hid hm
      have hfin := HM.out
      rw [mRels, hi] at hfin
      obtain ⟨rfl, rfl⟩ := Prod.mk.injEq .. ▸ hfin
      clear hfin hi hm
      go_wp2_with fail
      refine (l08Images_any q a n cap ls _ hq8 R.out hn HLB.out HM1.out).mono ?_
      rintro e w2 ⟨ad, cd, rs, rfl, hrs, hg, hb⟩
      clear qA1 qA2 qA3 qA4 qA5
      have t1 : ((0 : Int) == 0) = true := by simp
      have z2 := BB.out.size
      replace BB := Lib.hid (below_go BB.out hb z2)
      have G1 := Lib.hid hg.ownSS.reads; have HRS := Lib.hid hrs
      have hrl : rs.length = q := by have := imgs_len ls q l HI.out; rw [← hrs, List.length_map] at this; exact this
      have hll : l.length = q := imgs_len ls q l HI.out
      clear hg hrs hb
      rw [hrl] at G1 ⊢
      have HRL := Lib.hid hrl; have HLL := Lib.hid hll; clear hrl hll
      have hge := GrowSS.empty w2
      have hb2 := below1 w2 (.cells #[] 22)
      obtain ⟨W, hW⟩ : ∃ W, W = w2.alloc (.cells #[] 22) := ⟨_, rfl⟩
      rw [← hW] at hge hb2
      have GE := Lib.hid hge; have HB2 := Lib.hid hb2; clear hge hb2
      have zz := BB.out.size
      go_wp2
      rw [← hW]
      clear hW
      go_loopw [6, 7] (fun lv i wr => ∃ k : Nat, k ≤ q ∧ i = .int .i64 k ∧ (∃ os : List RowV, os.map RowV.xs = relS l k ∧ GrowSS w2.heap.size wr lv os.length os) ∧ Below w2.heap.size w2 wr) (fun _ i _ => q - (intOf i).toNat)
      case atStart => exact ⟨0, Nat.zero_le _, rfl, ⟨[], rfl, GE.out⟩, HB2.out⟩
      case round =>
        obtain ⟨k, hk, rfl, ⟨os, hos, hG⟩, hb⟩ := hrel
        have HB := Lib.hid hb; have GG := Lib.hid hG; have HOS := Lib.hid hos; clear hb hG hos GE HB2
        obtain ⟨wo, rfl⟩ : ∃ x, x = wr := ⟨_, rfl⟩
        by_cases hlt : k < q
        · skip
          have kr : k < rs.length := by have := HRL.out; omega
          obtain ⟨g1, o1, rfl, hc1⟩ := G1.out.2.1.resolve_left (by omega)
          have x1 := hc1 k kr
          have c1 := (HB.out.cell (p := ⟨g1, o1 + k, none⟩) (World.block_lt_of_cell? _ _ x1)).trans x1
          have hrx : rs[k].xs = l.getD k [] := by
            have e := congrArg (fun z => z[k]?) HRS.out
            simp only [List.getElem?_map, List.getElem?_eq_getElem kr, Option.map_some] at e
            simp [List.getD, ← e]
          have hrd := (G1.out.2.2 rs[k] (List.getElem_mem kr)).1.below HB.out
          have hb1 := (G1.out.2.2 rs[k] (List.getElem_mem kr)).2
          rw [hrx] at hrd
          obtain ⟨r1, hr1⟩ : ∃ x, x = rs[k] := ⟨_, rfl⟩
          rw [← hr1] at c1 hb1 hrd
          have RR := Lib.hid hrd
          obtain ⟨f1, f2, f3, f4⟩ := rel_facts ls q l HI.out hq8 HLB2.out k hlt
          have hn1 : r1.n ≤ 4000 := by have := hrd.len; omega
          have F2 := Lib.hid f2; have F4 := Lib.hid f4
          have k0 : 0 ≤ (k : Int) := by omega
          have k1 : (k : Int) < (q : Int) := by omega
          have hlit := own_lit wo [-(k : Int) - 1] (by simp [maxLen])
          have RL := Lib.hid hlit.reads; clear hlit hr1 hrd x1 hc1 hrx f2 f4
          have hsm : Small [-(k : Int) - 1] := fun z hz => by obtain rfl := List.mem_singleton.1 hz; omega
          have HSM := Lib.hid hsm; clear hsm
          obtain ⟨ro, hro⟩ : ∃ x, x = relOf l k := ⟨_, rfl⟩
          have HRO := Lib.hid hro
          rw [← hro] at f1
          have hba := (Below.refl wo.heap.size wo).alloc (Nat.le_refl _) (.cells #[.int .i64 (-(k : Int) - 1)] 2)
          have HBA := Lib.hid hba; clear hba hro
          have hwk : IntKind.i64.wrap ((k : Int) + 1) = (k : Int) + 1 := IntWalk.i64_in _ (by omega)
          have hwn : IntKind.i64.wrap (-((k : Int) + 1)) = -(k : Int) - 1 := (IntWalk.i64_in _ (by omega)).trans (by omega)
          obtain ⟨rl, hrl⟩ : ∃ x, x = ro.length := ⟨_, rfl⟩
          rw [← hrl] at f1
          have hjr : joinF [-(k : Int) - 1] (l.getD k []) = ro := HRO.out.symm
          have HJR := Lib.hid hjr; have HRLN := Lib.hid hrl; clear hjr
          have hg1 : g1 < wo.heap.size := World.block_lt_of_cell? _ _ c1
          go_wp2_with fail
          refine (l08Join_ro _ 1 1 [-(k : Int) - 1] r1.a r1.n r1.cap (l.getD k []) _ RL.out (by omega) (RR.out.alloc _) F2.out (by omega) ro rl HJR.out HRLN.out).mono ?_
          rintro e w3 ⟨a3, c3, rfl, ho, hb⟩
          clear hwn
          have hb3 : Below wo.heap.size wo w3 := below_go HBA.out hb (by simp)
          have hz3 : wo.heap.size + 1 ≤ w3.heap.size := by have := hb.size; simp at this; exact this
          have hoo : Own wo.heap.size w3 a3 rl c3 ro := ho.mono (by simp)
          obtain ⟨b, hb1', hb2', hoi⟩ := own_block hoo (by omega)
          have G3 := Lib.hid (GG.out.below hb3)
          have BB3 := Lib.hid (below_go HB.out hb3 HB.out.size)
          have GL := Lib.hid GG.out.lt
          have HOI := Lib.hid hoi
          have zo := HB.out.size
          have hol8 : os.length ≤ 8 := by have := congrArg List.length HOS.out; rw [List.length_map, relS_len] at this; rw [this]; exact Nat.le_trans hk hq8
          have hf1 : decide ((4000 : Int) < (rl : Int)) = false := by simp; omega
          have hf2 : ¬ 4000 < rl := Nat.not_lt.2 f1
          clear ho hb hb3 hoo hoi hrl
          go_wp2_with (at_builtin; refine wpList_append_own_at _ rfl _ _ 30 rfl w2.heap.size 22 i1 (.slice none 0 0) 1 24 Try.underlying30 hj hs0 hs1 hs2 rfl (by decide) _ _ _ rfl (World.ownsRow.alloc G3.out.own _) ⟨w3.heap.size, 0, none⟩ 1 1 [.slice a3 rl c3] rfl rfl (cell_one_new w3 _ _) (fun u hu => by simp at hu; subst hu; rfl) (by unfold maxLen; omega) (by omega) (by simp; omega) ?_)
          intro v' w5 hown' hgrow _ hat
          have hol : os.length = k := by have := congrArg List.length HOS.out; rw [List.length_map, relS_len] at this; exact this
          have hgx := G3.out.appendR HOI.out (by omega) (by omega) hb2' (fun y hy => by have := GL.out.1 y hy; omega) (fun j hj => by have := GL.out.2 j hj; omega) hown' hgrow (by simpa using hat)
          have hb5 := G3.out.appBelow (by omega) hgrow
          have BB5 : Hid (Below w2.heap.size w2 w5) := Lib.hid (BB3.out.trans (hb5.mono (by omega)))
          have GX := Lib.hid hgx
          clear hgx hown' hgrow hat hb5 hf1 hf2
          go_wp2
          go_roundw
          case rel => exact ⟨k + 1, by omega, by go_num, ⟨os ++ [⟨b, a3, rl, c3, ro⟩], by rw [List.map_append, HOS.out, relS_succ, HRO.out]; rfl, by rw [List.length_append]; exact GX.out⟩, BB5.out⟩
          case measure => simp [intOf]; omega
        · have hkn : k = q := by omega
          have ho := HOS.out
          rw [hkn] at ho
          obtain ⟨ad2, cd2, hve⟩ := GG.out.form
          subst hve
          have HO := Lib.hid ho; clear ho hkn
          go_wp2
          go_ret2
          exact ⟨ad2, cd2, os, rfl, HO.out, GG.out.low (by omega), BB.out.trans (HB.out.mono zz)⟩
    · have HM1 := Lib.hid hm
      have hfin := HM.out
      rw [mRels, hi] at hfin
      obtain ⟨rfl, rfl⟩ := Prod.mk.injEq .. ▸ hfin
      have t1 : ((3 : Int) == 0) = false := by simp
      clear hfin hi hm
      go_wp2_with fail
      refine (l08Images_any q a n cap ls _ hq8 R.out hn HLB.out HM1.out).mono ?_
      rintro e w2 ⟨ad, cd, rs, rfl, hrs, hg, hb⟩
      clear qA1 qA2 qA3 qA4 qA5
      replace BB := Lib.hid (below_go BB.out hb BB.out.size); clear hrs hg hb
      go_wp2
      go_ret2
      exact ⟨none, 0, [], rfl, rfl, GrowSS.nil _ _, BB.out⟩
  · rw [mRelations, if_neg hbr] at hM
    obtain ⟨rfl, rfl⟩ := Prod.mk.injEq .. ▸ hM
    have hf' : isBraid s ls = false := by simpa using hbr
    clear hbr hM
    go_enter Try.func57, Try.ntmps57
    go_wp2_with fail
    refine (l01Is_any s a n cap ls _ R.out HF.out hn).mono ?_
    rintro e w1 ⟨rfl, hb⟩
    replace BB := Lib.hid (below_go BB.out hb (by simp)); clear hb
    clear qA1 qA2 qA3 qA4 qA5
    go_wp2
    go_ret2
    exact ⟨none, 0, [], rfl, rfl, GrowSS.nil _ _, BB.out⟩
end Go.Proofs.Ytmlejlediflaaaa
