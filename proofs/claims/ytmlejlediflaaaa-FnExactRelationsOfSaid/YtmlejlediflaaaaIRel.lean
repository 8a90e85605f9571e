/- Relations of closures: the exported function of the program. -/
import Derived.Test.YtmlejlediflaaaaSRel
namespace Go.Proofs.Ytmlejlediflaaaa
open Go.RowKit Go.Shelf Go.ChangeShapes

set_option maxRecDepth 100000 in
set_option maxHeartbeats 1000000 in
theorem implRelationsOf_any {s : Int} {a : Option Addr} {n cap : Nat} {ls : List Int} {w : World} {r : List (List Int)} {fc : Int} (hr : Reads w a n ls) (_hf : Fits ls) (hn : n ≤ 1048576) (hM : mRelations s ls = (r, fc)) :
    Calls Try.prog 58 #[.agg #[.int .i64 s, .slice a n cap]] w (RetSSN w r fc) := by
  obtain ⟨i1, hj, hs0, hs1, hs2⟩ := info_parts infoSlice
  have R := Lib.hid (hr.alloc (.cells #[.int .i64 s, .slice a n cap] 24)); clear hr
  have A := Lib.hid (At2.new w (.int .i64 s) (.slice a n cap) 24)
  have BB := Lib.hid (below1 w (.cells #[.int .i64 s, .slice a n cap] 24))
  obtain ⟨qA1, qA2, qA3, qA4, qA5⟩ := A.out
  by_cases hbr : isBraid s ls = true
  · rw [mRelations, if_pos hbr] at hM
    obtain ⟨h1, h2, _, _⟩ := (isBraid_iff s ls).1 hbr
    obtain ⟨q, rfl⟩ : ∃ q : Nat, s = (q : Int) := ⟨s.toNat, by omega⟩
    rw [Int.toNat_natCast] at hM
    have hq8 : q ≤ 8 := by omega
    have HM := Lib.hid hM; clear hM
    have HLB := Lib.hid (letters_bd hbr)
    have HLB2 := Lib.hid (letters_bd hbr)
    go_enter Try.func58, Try.ntmps58
    go_wp2_with fail
    refine (implIsBraid_any (q : Int) a n cap ls _ R.out hn).mono ?_
    rintro e w1 ⟨rfl, hb⟩
    clear qA1 qA2 qA3 qA4 qA5
    replace R := Lib.hid (R.out.below hb); replace A := Lib.hid (A.out.below hb)
    replace BB := Lib.hid (below_go BB.out hb (by simp)); clear hb
    obtain ⟨qA1, qA2, qA3, qA4, qA5⟩ := A.out
    rcases mImgs_cs q ls with ⟨l, hi, hm⟩ | ⟨hi, hm⟩
    · have HI := Lib.hid hi; have HM1 := Lib.hid hm
      have hfin := HM.out
      rw [mRels, hi] at hfin
      obtain ⟨rfl, rfl⟩ := Prod.mk.injEq .. ▸ hfin
      clear hfin hi hm
      go_wp2_with fail
      refine (imagesOf_any q a n cap ls _ hq8 R.out hn HLB.out HM1.out).mono ?_
      rintro e w2 ⟨ad, cd, rs, rfl, hrs, hg, hb⟩
      clear qA1 qA2 qA3 qA4 qA5
      have t1 : ((0 : Int) != 0) = false := by simp
      have z2 := BB.out.size
      replace BB := Lib.hid (below_go BB.out hb z2)
      have G1 := Lib.hid hg.ownSS.reads; have HRS := Lib.hid hrs
      have hrl : rs.length = q := by have := imgs_len ls q l HI.out; rw [← hrs, List.length_map] at this; exact this
      have hll : l.length = q := imgs_len ls q l HI.out
      clear hg hrs hb
      rw [hrl] at G1 ⊢
      have HRL := Lib.hid hrl; have HLL := Lib.hid hll; clear hrl hll
      go_wp2_with (at_make; refine wpList_make_full w2 rfl _ _ 30 rfl w2.heap.size 22 i1 (.slice none 0 0) 1 Try.underlying30 hj hs0 hs1 .i64 .i64 _ _ q rfl rfl (by omega) (by omega) (by rw [hs2]; omega) (by unfold maxLen; omega) (Nat.le_refl _) ?_)
      intro W hown hgrow
      have F0 := Lib.hid (fill_made hown)
      have HB2 := Lib.hid (Below.ofGrown hgrow)
      clear hown hgrow
      have zz := BB.out.size
      go_wp2
      go_loopw [25] (fun i wr => ∃ k : Nat, k ≤ q ∧ i = .int .i64 k ∧ (∃ os : List RowV, os.map RowV.xs = relS l k ∧ FillSS w2.heap.size wr w2.heap.size q k os) ∧ Below w2.heap.size w2 wr) (fun i _ => q - (intOf i).toNat)
      case atStart => exact ⟨0, Nat.zero_le _, rfl, ⟨[], rfl, F0.out⟩, HB2.out⟩
      case round =>
        obtain ⟨k, hk, rfl, ⟨os, hos, hF⟩, hb⟩ := hrel
        have HB := Lib.hid hb; have F := Lib.hid hF; have HOS := Lib.hid hos; clear hb hF hos F0 HB2
        obtain ⟨wo, rfl⟩ : ∃ x, x = wr := ⟨_, rfl⟩
        by_cases hlt : k < q
        · skip
          have kr : k < rs.length := by have := HRL.out; omega
          obtain ⟨g1, o1, rfl, hc1⟩ := G1.out.2.1.resolve_left (by omega)
          have x1 := hc1 k kr
          have c1 := (HB.out.cell (p := ⟨g1, o1 + k, none⟩) (World.block_lt_of_cell? _ _ x1)).trans x1
          have hrx : rs[k].xs = l.getD k [] := by
            have e := congrArg (fun z => z[k]?) HRS.out
            simp only [List.getElem?_map, List.getElem?_eq_getElem kr, Option.map_some] at e
            simp [List.getD, ← e]
          have hrd := (G1.out.2.2 rs[k] (List.getElem_mem kr)).1.below HB.out
          have hb1 := (G1.out.2.2 rs[k] (List.getElem_mem kr)).2
          rw [hrx] at hrd
          obtain ⟨r1, hr1⟩ : ∃ x, x = rs[k] := ⟨_, rfl⟩
          rw [← hr1] at c1 hb1 hrd
          have RR := Lib.hid hrd
          obtain ⟨f1, f2, f3, f4⟩ := rel_facts ls q l HI.out hq8 HLB2.out k hlt
          have hn1 : r1.n ≤ 4000 := by have := hrd.len; omega
          have F2 := Lib.hid f2; have F4 := Lib.hid f4
          have k0 : 0 ≤ (k : Int) := by omega
          have k1 : (k : Int) < (q : Int) := by omega
          have hlit := own_lit wo [-(k : Int) - 1] (by simp [maxLen])
          have RL := Lib.hid hlit.reads; clear hlit hr1 hrd x1 hc1 hrx f2 f4
          have hsm : Small [-(k : Int) - 1] := fun z hz => by obtain rfl := List.mem_singleton.1 hz; omega
          have HSM := Lib.hid hsm; clear hsm
          obtain ⟨ro, hro⟩ : ∃ x, x = relOf l k := ⟨_, rfl⟩
          have HRO := Lib.hid hro
          rw [← hro] at f1
          have hba := (Below.refl wo.heap.size wo).alloc (Nat.le_refl _) (.cells #[.int .i64 (-(k : Int) - 1)] 2)
          have HBA := Lib.hid hba; clear hba hro
          have hwn : IntKind.i64.wrap (-(k : Int)) = -(k : Int) := IntWalk.i64_in _ (by omega)
          have hwk : IntKind.i64.wrap (-(k : Int) - 1) = -(k : Int) - 1 := IntWalk.i64_in _ (by omega)
          go_wp2_with fail
          refine (multipliedFree_any _ r1.a 1 r1.n 1 r1.cap [-(k : Int) - 1] (l.getD k []) _ RL.out (RR.out.alloc _) HSM.out F2.out (by omega) (by omega) F4.out).mono ?_
          rintro e w3 ⟨a3, n3, c3, rfl, hl3, ho, hb⟩
          have hb3 : Below wo.heap.size wo w3 := below_go HBA.out hb (by simp)
          have hz3 : wo.heap.size + 1 ≤ w3.heap.size := by have := hb.size; simp at this; exact this
          have hoo : Own wo.heap.size w3 a3 n3 c3 ro := by rw [← HRO.out] at ho; exact ho.mono (by simp)
          obtain ⟨b, hb1', hb2', hoi⟩ := own_block hoo (by omega)
          have F3 := Lib.hid (F.out.below hb3)
          have BB3 := Lib.hid (below_go HB.out hb3 HB.out.size)
          have hrow := F.out.row
          have hfs := (F3.out.store hlt hoi hl3 (by have := F.out.lt; omega) hb2' (fun x hx => by have := (hrow x hx).2.2.2; omega))
          have FS := Lib.hid hfs
          have c2 : w3.cell? ⟨w2.heap.size, k, none⟩ = some (.slice none 0 0) := by
            have hl := F3.out.len
            have h := World.ownsRow.cellAt F3.out.own k (by have := F3.out.own.1; omega)
            refine h.trans ?_
            rw [List.getElem?_append_right (by rw [List.length_map]; omega), List.length_map, hl, Nat.sub_self]
            exact List.getElem?_replicate_of_lt (by omega)
          have fz := World.ownsRow.frozenAt F3.out.own k
          clear hfs ho hb hb3 hoo hoi hrow
          go_wp2
          go_roundw
          case rel => exact ⟨k + 1, by omega, by go_num, ⟨os ++ [⟨b, a3, n3, c3, ro⟩], by rw [List.map_append, HOS.out, relS_succ, HRO.out]; rfl, FS.out⟩, BB3.out.setCell (p := ⟨w2.heap.size, k, none⟩) (Nat.le_refl _) _⟩
          case measure => simp [intOf]; omega
        · have hkn : k = q := by omega
          have ho := HOS.out
          have hF2 := F.out
          rw [hkn] at ho hF2
          have hol : os.length = q := hF2.len
          have HO := Lib.hid ho; have HF2 := Lib.hid hF2.full; have HOL := Lib.hid hol; clear ho hkn hF2 hol
          go_wp2
          go_ret2
          exact ⟨_, q, os, by rw [HOL.out]; rfl, HO.out, by rw [HOL.out]; exact HF2.out.low (by omega), BB.out.trans (HB.out.mono zz)⟩
    · have HM1 := Lib.hid hm
      have hfin := HM.out
      rw [mRels, hi] at hfin
      obtain ⟨rfl, rfl⟩ := Prod.mk.injEq .. ▸ hfin
      have t1 : ((3 : Int) != 0) = true := by simp
      clear hfin hi hm
      go_wp2_with fail
      refine (imagesOf_any q a n cap ls _ hq8 R.out hn HLB.out HM1.out).mono ?_
      rintro e w2 ⟨ad, cd, rs, rfl, hrs, hg, hb⟩
      clear qA1 qA2 qA3 qA4 qA5
      replace BB := Lib.hid (below_go BB.out hb BB.out.size); clear hrs hg hb
      go_wp2
      go_ret2
      exact ⟨none, 0, [], rfl, rfl, GrowSS.nil _ _, BB.out⟩
  · rw [mRelations, if_neg hbr] at hM
    obtain ⟨rfl, rfl⟩ := Prod.mk.injEq .. ▸ hM
    have hf' : isBraid s ls = false := by simpa using hbr
    clear hbr hM
    go_enter Try.func58, Try.ntmps58
    go_wp2_with fail
    refine (implIsBraid_any s a n cap ls _ R.out hn).mono ?_
    rintro e w1 ⟨rfl, hb⟩
    replace BB := Lib.hid (below_go BB.out hb (by simp)); clear hb
    clear qA1 qA2 qA3 qA4 qA5
    go_wp2
    go_ret2
    exact ⟨none, 0, [], rfl, rfl, GrowSS.nil _ _, BB.out⟩
end Go.Proofs.Ytmlejlediflaaaa
