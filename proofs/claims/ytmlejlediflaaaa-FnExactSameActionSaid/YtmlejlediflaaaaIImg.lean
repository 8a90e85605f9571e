/- Images of braids: the program. -/
import Derived.Test.YtmlejlediflaaaaSImg
namespace Go.Proofs.Ytmlejlediflaaaa
open Go.RowKit Go.ChangeShapes

theorem fill_made {B : Nat} {w : World} {n : Nat} (h : w.ownsRow B 22 1 (.slice (some ⟨B, 0, none⟩) n n) n (madeCells #[Value.slice none 0 0] n).toList) : FillSS B w B n 0 [] := by
  rw [toList_madeCells_one] at h
  exact ⟨by simpa using h, rfl, Nat.zero_le _, fun x hx => (by cases hx), fun i j hi => (by cases hi)⟩

theorem OwnF.below {B : Nat} {w w' : World} {v : Value} {n : Nat} {ls : List Int} (h : OwnF B w v n ls) (k : Below w.heap.size w w') : OwnF B w' v n ls :=
  ownsRow_heap h fun j hj => k.block j (by have := World.ownsRow.lt h j hj; omega)

/-- The steps in memory, as passed wants them. -/
theorem OwnF.at {B : Nat} {w : World} {ga : Option Addr} {cs n : Nat} {ls : List Int} (ho : OwnF B w (.slice ga n cs) n ls) (hl : ls.length = n) : ∃ g, (n = 0 ∨ ga = some ⟨g, 0, none⟩) ∧ (n = 0 ∨ g < w.heap.size) ∧ (n = 0 ∨ B ≤ g) ∧ ∀ j (h : j < ls.length), w.cell? ⟨g, j, none⟩ = some (stepV ls[j]) := by
  rcases Nat.eq_zero_or_pos n with h0 | h0
  · exact ⟨0, .inl h0, .inl h0, .inl h0, fun j hj => by omega⟩
  · rcases ho.2 with ⟨hv, h1⟩ | ⟨g, c, cur, hv, hB, hh, _⟩
    · omega
    · obtain ⟨rfl, _, rfl⟩ := Value.slice.injEq .. ▸ hv
      refine ⟨g, .inr rfl, .inr (Array.getElem?_eq_some_iff.1 hh).1, .inr hB, fun j hj => ?_⟩
      have := World.ownsRow.cellAt ho j (by omega)
      rw [this]
      simp [hj]

set_option maxRecDepth 100000 in
set_option maxHeartbeats 1000000 in
theorem imagesOf_any (n : Nat) (a : Option Addr) (m cap : Nat) (ls : List Int) (w : World) (hn : n ≤ 8) (hr : Reads w a m ls) (hm : m ≤ 1048576) (hl8 : ∀ l ∈ ls, -100 < l ∧ l < 100) {r : List (List Int)} {c : Int} (hM : mImgs n ls = (r, c)) :
    Calls Try.prog 90 #[.agg #[.int .i64 n, .slice a m cap]] w (RetSSN w r c) := by
  obtain ⟨i1, hj, hs0, hs1, hs2⟩ := info_parts infoSlice
  have HLN := Lib.hid hr.len
  have HL8 := Lib.hid hl8; have HM := Lib.hid hM; clear hl8 hM
  have HR := Lib.hid hr; clear hr
  have A := Lib.hid (At2.new w (.int .i64 n) (.slice a m cap) 24)
  have BB := Lib.hid (below1 w (.cells #[.int .i64 n, .slice a m cap] 24))
  obtain ⟨qA1, qA2, qA3, qA4, qA5⟩ := A.out
  go_enter Try.func90, Try.ntmps90
  go_wp2_with (at_make; refine wpList_make_full (w.alloc (.cells #[.int .i64 n, .slice a m cap] 24)) rfl _ _ 30 rfl (w.heap.size + 1) 22 i1 (.slice none 0 0) 1 Try.underlying30 hj hs0 hs1 .i64 .i64 _ _ n rfl rfl (by omega) (by omega) (by rw [hs2]; omega) (by unfold maxLen; omega) (by simp) ?_)
  intro w1 hown hgrow
  have F0 := Lib.hid (fill_made hown)
  have hb1 := Below.ofGrown hgrow
  clear qA1 qA2 qA3 qA4 qA5
  replace A := Lib.hid (A.out.below hb1)
  replace BB := Lib.hid (below_go BB.out hb1 (by simp))
  have zf0 := F0.out.lt.2
  clear hown hgrow hb1
  obtain ⟨qA1, qA2, qA3, qA4, qA5⟩ := A.out
  go_wp2_with fail
  refine (pipeline_any (n : Int) a m cap ls _ (HR.out.below BB.out) hm).mono ?_
  rintro e w2 ⟨v2, rfl, ho, hb⟩
  clear qA1 qA2 qA3 qA4 qA5
  have zb := BB.out.size
  replace F0 := Lib.hid (F0.out.below hb)
  replace BB := Lib.hid (below_go BB.out hb zb)
  have OF := Lib.hid ho; clear ho hb A
  obtain ⟨ga, cs, rfl⟩ := OF.out.form
  obtain ⟨g, g1, g2, g4, g3⟩ := OF.out.at HLN.out
  have hfl := F0.out.lt
  have zf : w.heap.size + 1 < w1.heap.size := zf0
  have G1 := Lib.hid g1; have G2 := Lib.hid g2; have G3 := Lib.hid g3; have G4 : Hid (m = 0 ∨ w.heap.size + 1 < g) := Lib.hid (g4.imp id (fun h => by omega)); clear g1 g2 g3 g4 OF
  have z2 := BB.out.size
  go_wp2
  go_loopw [16] (fun i wr => ∃ k : Nat, k ≤ n ∧ i = .int .i64 k ∧ (∃ rs : List RowV, imgs ls k = some (rs.map RowV.xs) ∧ FillSS (w.heap.size + 1) wr (w.heap.size + 1) n k rs) ∧ (∀ j (h : j < ls.length), wr.cell? ⟨g, j, none⟩ = some (stepV ls[j])) ∧ (m = 0 ∨ g < wr.heap.size) ∧ Below w.heap.size w wr) (fun i _ => n - (intOf i).toNat)
  case atStart => exact ⟨0, Nat.zero_le _, rfl, ⟨[], rfl, F0.out⟩, G3.out, G2.out, BB.out⟩
  case round =>
    obtain ⟨k, hk, rfl, ⟨rs, hrs, hF⟩, hst, hgs, hBB⟩ := hrel
    clear F0 G3 G2 BB
    have F := Lib.hid hF; have ST := Lib.hid hst; have GS := Lib.hid hgs; have BB := Lib.hid hBB; have HRS := Lib.hid hrs
    clear hF hst hgs hBB hrs
    obtain ⟨wo, rfl⟩ : ∃ x, x = wr := ⟨_, rfl⟩
    by_cases hlt : k < n
    · have hw1 : IntKind.i64.wrap ((k : Int) + 1) = (k : Int) + 1 := IntWalk.i64_in _ (by omega)
      have k0 : 0 ≤ (k : Int) := by omega
      have k1 : (k : Int) < (n : Int) := by omega
      have hlit := own_lit wo [(k : Int) + 1] (by simp [maxLen])
      have RL := Lib.hid hlit.reads; clear hlit
      have hsm : Small [(k : Int) + 1] := fun z hz => by obtain rfl := List.mem_singleton.1 hz; omega
      have HSM := Lib.hid hsm; clear hsm
      have hba := (Below.refl wo.heap.size wo).alloc (Nat.le_refl _) (.cells #[.int .i64 ((k : Int) + 1)] 2)
      have hsa : (wo.alloc (.cells #[.int .i64 ((k : Int) + 1)] 2)).heap.size = wo.heap.size + 1 := by simp
      have hst1 : ∀ j (h : j < ls.length), (wo.alloc (.cells #[.int .i64 ((k : Int) + 1)] 2)).cell? ⟨g, j, none⟩ = some (stepV ls[j]) := fun j h => (hba.cell (p := ⟨g, j, none⟩) (GS.out.resolve_left (by have := HLN.out; omega))).trans (ST.out j h)
      have ST1 := Lib.hid hst1; clear hst1
      have GS1 : Hid (m = 0 ∨ g < (wo.alloc (.cells #[.int .i64 ((k : Int) + 1)] 2)).heap.size) := Lib.hid (GS.out.imp id (fun h => by omega))
      cases hac : actF ls [(k : Int) + 1] with
      | none =>
        have hmp := mPass_none hac
        have hin : imgs ls (k + 1) = none := by rw [imgs_step ls k _ HRS.out, hac]
        have hmn : mImgs n ls = ([], 3) := by unfold mImgs; rw [imgs_none ls (k + 1) n hin (by omega)]
        have HMP := Lib.hid hmp; clear hmp hac hin
        have hrc := HM.out
        rw [hmn] at hrc
        obtain ⟨rfl, rfl⟩ := Prod.mk.injEq .. ▸ hrc
        have HBA := Lib.hid hba
        clear hrc hmn hba
        go_wp2_with fail
        refine (passed_any 4000 (by omega) (by omega) g m cs ls _ 1 1 [(k : Int) + 1] _ HLN.out hm GS1.out ST1.out HL8.out RL.out HSM.out (by omega) ga G1.out ((mPassM_4000 _ _).trans HMP.out)).mono ?_
        rintro e w3 ⟨a3, n3, c3, rfl, hl3, ho, hb⟩
        have t1 : ((3 : Int) != 0) = true := by simp
        have B3 := Lib.hid (below_go (BB.out.trans (HBA.out.mono BB.out.size)) hb (by have := BB.out.size; omega)); clear ho hb
        go_wp2
        go_ret2
        exact ⟨none, 0, [], rfl, rfl, GrowSS.nil _ _, B3.out⟩
      | some ys =>
        have hmp := mPass_some hac
        have hin : imgs ls (k + 1) = some (rs.map RowV.xs ++ [ys]) := by rw [imgs_step ls k _ HRS.out, hac]
        have HMP := Lib.hid hmp; have HIN := Lib.hid hin; clear hmp hac hin
        have HBA := Lib.hid hba; clear hba
        go_wp2_with fail
        refine (passed_any 4000 (by omega) (by omega) g m cs ls _ 1 1 [(k : Int) + 1] _ HLN.out hm GS1.out ST1.out HL8.out RL.out HSM.out (by omega) ga G1.out ((mPassM_4000 _ _).trans HMP.out)).mono ?_
        rintro e w3 ⟨a3, n3, c3, rfl, hl3, ho, hb⟩
        have t1 : ((0 : Int) != 0) = false := by simp
        have hb3 : Below wo.heap.size wo w3 := below_go HBA.out hb (by omega)
        have hz3 : wo.heap.size + 1 ≤ w3.heap.size := by have := hb.size; omega
        have hoo : Own wo.heap.size w3 a3 n3 c3 ys := ho.mono (by omega)
        obtain ⟨b, hb1, hb2, hoi⟩ := own_block hoo (by omega)
        have F3 := Lib.hid (F.out.below hb3)
        have BB3 := Lib.hid (below_go BB.out hb3 BB.out.size)
        have hrow := F.out.row
        have hfs := (F3.out.store hlt hoi hl3 (by have := F.out.lt; omega) hb2 (fun x hx => by have := (hrow x hx).2.2.2; omega))
        have FS := Lib.hid hfs
        have c1 : w3.cell? ⟨w.heap.size + 1, k, none⟩ = some (.slice none 0 0) := by
          have hl := F3.out.len
          have h := World.ownsRow.cellAt F3.out.own k (by have := F3.out.own.1; omega)
          refine h.trans ?_
          rw [List.getElem?_append_right (by rw [List.length_map]; omega), List.length_map, hl, Nat.sub_self]
          exact List.getElem?_replicate_of_lt (by omega)
        have f1 := World.ownsRow.frozenAt F3.out.own k
        have hst3 : ∀ j (h : j < ls.length), (w3.setCell ⟨w.heap.size + 1, k, none⟩ (.slice a3 n3 c3)).cell? ⟨g, j, none⟩ = some (stepV ls[j]) := fun j h => by
          have hm0 : m ≠ 0 := by have := HLN.out; omega
          have hgg := G4.out.resolve_left hm0
          rw [World.cell?_of_block (w := w3) (a := ⟨g, j, none⟩) (Below.heap_setCell w3 ⟨w.heap.size + 1, k, none⟩ _ g (by show g ≠ w.heap.size + 1; omega))]
          exact (hb3.cell (p := ⟨g, j, none⟩) (GS.out.resolve_left hm0)).trans (ST.out j h)
        have ST3 := Lib.hid hst3
        have GS3 : Hid (m = 0 ∨ g < (w3.setCell ⟨w.heap.size + 1, k, none⟩ (.slice a3 n3 c3)).heap.size) := Lib.hid (GS.out.imp id (fun h => by simp [World.setCell]; omega))
        clear hfs hst3 ho hb hb3 hoo hoi hrow
        go_wp2
        go_roundw
        case rel => exact ⟨k + 1, by omega, by go_num, ⟨rs ++ [⟨b, a3, n3, c3, ys⟩], by rw [HIN.out]; simp, FS.out⟩, ST3.out, GS3.out, BB3.out.setCell (p := ⟨w.heap.size + 1, k, none⟩) (by simp) _⟩
        case measure => simp [intOf]; omega
    · have hkn : k = n := by omega
      have hrc := HM.out
      have hi := HRS.out
      have hF2 := F.out
      rw [hkn] at hi hF2
      rw [show mImgs n ls = (rs.map RowV.xs, 0) from by unfold mImgs; rw [hi]] at hrc
      obtain ⟨rfl, rfl⟩ := Prod.mk.injEq .. ▸ hrc
      have hrl : rs.length = n := hF2.len
      have HF2 := Lib.hid hF2.full; have HRL := Lib.hid hrl
      clear hrc hi hF2 hrl
      go_wp2
      go_ret2
      exact ⟨_, n, rs, by rw [HRL.out]; rfl, rfl, by rw [HRL.out]; exact HF2.out.low (by omega), BB.out⟩

set_option maxRecDepth 100000 in
set_option maxHeartbeats 1000000 in
theorem implImagesOf_any {s : Int} {a : Option Addr} {n cap : Nat} {ls : List Int} {w : World} {r : List (List Int)} {fc : Int} (hr : Reads w a n ls) (_hf : Fits ls) (hn : n ≤ 1048576) (hM : mImages s ls = (r, fc)) :
    Calls Try.prog 54 #[.agg #[.int .i64 s, .slice a n cap]] w (RetSSN w r fc) := by
  have R := Lib.hid (hr.alloc (.cells #[.int .i64 s, .slice a n cap] 24)); clear hr
  have A := Lib.hid (At2.new w (.int .i64 s) (.slice a n cap) 24)
  have BB := Lib.hid (below1 w (.cells #[.int .i64 s, .slice a n cap] 24))
  obtain ⟨qA1, qA2, qA3, qA4, qA5⟩ := A.out
  by_cases hbr : isBraid s ls = true
  · rw [mImages, if_pos hbr] at hM
    obtain ⟨h1, h2, _, _⟩ := (isBraid_iff s ls).1 hbr
    obtain ⟨q, rfl⟩ : ∃ q : Nat, s = (q : Int) := ⟨s.toNat, by omega⟩
    rw [Int.toNat_natCast] at hM
    have HM := Lib.hid hM; clear hM
    have HLB := Lib.hid (letters_bd hbr)
    go_enter Try.func54, Try.ntmps54
    go_wp2_with fail
    refine (implIsBraid_any (q : Int) a n cap ls _ R.out hn).mono ?_
    rintro e w1 ⟨rfl, hb⟩
    clear qA1 qA2 qA3 qA4 qA5
    replace R := Lib.hid (R.out.below hb); replace A := Lib.hid (A.out.below hb)
    replace BB := Lib.hid (below_go BB.out hb (by simp)); clear hb
    obtain ⟨qA1, qA2, qA3, qA4, qA5⟩ := A.out
    go_wp2_with fail
    refine (imagesOf_any q a n cap ls _ (by omega) R.out hn HLB.out HM.out).mono ?_
    rintro e w3 ⟨ad, cd, rs, rfl, hrs, hg, hb⟩
    clear qA1 qA2 qA3 qA4 qA5
    have z2 := BB.out.size
    have G := Lib.hid hg; replace BB := Lib.hid (below_go BB.out hb BB.out.size); clear hg hb
    have HRS := Lib.hid hrs; clear hrs
    go_wp2
    go_ret2
    exact ⟨ad, cd, rs, rfl, HRS.out, G.out.low z2, BB.out⟩
  · rw [mImages, if_neg hbr] at hM
    obtain ⟨rfl, rfl⟩ := Prod.mk.injEq .. ▸ hM
    have hf' : isBraid s ls = false := by simpa using hbr
    clear hbr hM
    go_enter Try.func54, Try.ntmps54
    go_wp2_with fail
    refine (implIsBraid_any s a n cap ls _ R.out hn).mono ?_
    rintro e w1 ⟨rfl, hb⟩
    replace BB := Lib.hid (below_go BB.out hb (by simp)); clear hb
    clear qA1 qA2 qA3 qA4 qA5
    go_wp2
    go_ret2
    exact ⟨none, 0, [], rfl, rfl, GrowSS.nil _ _, BB.out⟩

end Go.Proofs.Ytmlejlediflaaaa
