/- Images of braids: the model. -/
import Derived.Test.YtmlejlediflaaaaImgP
import Derived.Test.YtmlejlediflaaaaSAct
import Derived.Test.YtmlejlediflaaaaSAoF
import Derived.Test.YtmlejlediflaaaaKitR
namespace Go.Proofs.Ytmlejlediflaaaa
open Go.RowKit Go.ChangeShapes

set_option maxRecDepth 100000 in
set_option maxHeartbeats 1000000 in
theorem l08Images_any (n : Nat) (a : Option Addr) (m cap : Nat) (ls : List Int) (w : World) (hn : n ≤ 8) (hr : Reads w a m ls) (hm : m ≤ 1048576) (hl8 : ∀ l ∈ ls, -100 < l ∧ l < 100 ∧ l ≠ 0) {r : List (List Int)} {c : Int} (hM : mImgs n ls = (r, c)) :
    Calls Try.prog 89 #[.agg #[.int .i64 n, .slice a m cap]] w fun e w' => ∃ ad cap rs, e = .returned (.tuple #[.slice ad rs.length cap, .bool (c == 0)]) ∧ rs.map RowV.xs = r ∧ GrowSS w.heap.size w' (.slice ad rs.length cap) rs.length rs ∧ Below w.heap.size w w' := by
  obtain ⟨i1, hj, hs0, hs1, hs2⟩ := info_parts infoSlice
  have HL8 := Lib.hid hl8; have HM := Lib.hid hM; clear hl8 hM
  have HR := Lib.hid hr; clear hr
  have A := Lib.hid ((At2.new w (.int .i64 n) (.slice a m cap) 24).alloc (.cells #[] 22))
  have BB := Lib.hid (below2 w (.cells #[.int .i64 n, .slice a m cap] 24) (.cells #[] 22))
  have hge := GrowSS.empty (w.alloc (.cells #[.int .i64 n, .slice a m cap] 24))
  rw [World.size_alloc] at hge
  have GE := Lib.hid hge; clear hge
  obtain ⟨W, hW⟩ : ∃ W, W = (w.alloc (.cells #[.int .i64 n, .slice a m cap] 24)).alloc (.cells #[] 22) := ⟨_, rfl⟩
  go_enter Try.func89, Try.ntmps89
  go_wp2
  rw [← hW] at A GE BB ⊢
  clear hW
  go_loopw [4, 5] (fun lv i wr => ∃ k : Nat, k ≤ n ∧ i = .int .i64 ((k : Int) + 1) ∧ (∃ rs : List RowV, imgs ls k = some (rs.map RowV.xs) ∧ GrowSS (w.heap.size + 1) wr lv rs.length rs) ∧ At2 wr w.heap.size (.int .i64 n) (.slice a m cap) ∧ Below w.heap.size w wr) (fun _ i _ => n + 1 - (intOf i).toNat)
  case atStart => exact ⟨0, Nat.zero_le _, by simp, ⟨[], rfl, GE.out⟩, A.out, BB.out⟩
  case round =>
    obtain ⟨k, hk, rfl, ⟨rs, hrs, hG⟩, hA, hBB⟩ := hrel
    clear A GE BB
    have R := Lib.hid (HR.out.below hBB); have A := Lib.hid hA; have BB := Lib.hid hBB; have GG := Lib.hid hG; have HRS := Lib.hid hrs
    clear hA hBB hG hrs
    obtain ⟨qA1, qA2, qA3, qA4, qA5⟩ := A.out
    have hw1 : IntKind.i64.wrap ((k : Int) + 1 + 1) = (k : Int) + 1 + 1 := IntWalk.i64_in _ (by omega)
    obtain ⟨wo, rfl⟩ : ∃ x, x = wr := ⟨_, rfl⟩
    by_cases hlt : k < n
    · have hle : (k : Int) + 1 ≤ (n : Int) := by omega
      have hlit := own_lit wo [(k : Int) + 1] (by simp [maxLen])
      have RL := Lib.hid hlit.reads; clear hlit
      have hsm : Small [(k : Int) + 1] := fun z hz => by obtain rfl := List.mem_singleton.1 hz; omega
      have HSM := Lib.hid hsm; clear hsm
      cases hac : actF ls [(k : Int) + 1] with
      | none =>
        have hmp := mPass_none hac
        have hin : imgs ls (k + 1) = none := by rw [imgs_step ls k _ HRS.out, hac]
        have hmn : mImgs n ls = ([], 3) := by unfold mImgs; rw [imgs_none ls (k + 1) n hin (by omega)]
        have HMP := Lib.hid hmp; clear hmp hac hin
        have hrc := HM.out
        rw [hmn] at hrc
        obtain ⟨rfl, rfl⟩ := Prod.mk.injEq .. ▸ hrc
        clear hrc hmn
        go_wp2_with fail
        refine (l08Act_any a m cap ls _ 1 1 [(k : Int) + 1] _ (R.out.alloc _) hm HL8.out RL.out HSM.out (by omega) HMP.out).mono ?_
        rintro e w3 ⟨a3, n3, c3, rfl, hl3, ho, hb⟩
        have t1 : ((3 : Int) == 0) = false := by simp
        have B3 := Lib.hid (below_go (BB.out.alloc BB.out.size _) hb (by have := BB.out.size; simp; omega)); clear ho hb
        clear qA1 qA2 qA3 qA4 qA5
        go_wp2
        go_ret2
        exact ⟨none, 0, [], rfl, rfl, GrowSS.nil _ _, B3.out⟩
      | some ys =>
        have hmp := mPass_some hac
        have hin : imgs ls (k + 1) = some (rs.map RowV.xs ++ [ys]) := by rw [imgs_step ls k _ HRS.out, hac]
        have HMP := Lib.hid hmp; have HIN := Lib.hid hin; clear hmp hac hin
        have hrl : rs.length = k := by have := imgs_len ls k _ HRS.out; simpa using this
        go_wp2_with fail
        refine (l08Act_any a m cap ls _ 1 1 [(k : Int) + 1] _ (R.out.alloc _) hm HL8.out RL.out HSM.out (by omega) HMP.out).mono ?_
        rintro e w3 ⟨a3, n3, c3, rfl, hl3, ho, hb⟩
        have t1 : ((0 : Int) == 0) = true := by simp
        clear qA1 qA2 qA3 qA4 qA5
        have hba := (Below.refl wo.heap.size wo).alloc (Nat.le_refl _) (.cells #[.int .i64 ((k : Int) + 1)] 2)
        have hb3 : Below wo.heap.size wo w3 := below_go hba hb (by simp)
        have hz3 : wo.heap.size + 1 ≤ w3.heap.size := by have := hb.size; simp at this; exact this
        have hoo : Own wo.heap.size w3 a3 n3 c3 ys := ho.mono (by simp)
        obtain ⟨b, hb1, hb2, hoi⟩ := own_block hoo (by omega)
        have G3 := Lib.hid (GG.out.below hb3)
        have A3 := Lib.hid (A.out.below hb3)
        have BB3 := Lib.hid (below_go BB.out hb3 BB.out.size)
        have GL := Lib.hid GG.out.lt
        have HOI := Lib.hid hoi
        have zz := BB.out.size
        clear ho hb hba hb3 hoo hoi
        go_wp2_with (at_builtin; refine wpList_append_own_at _ rfl _ _ 30 rfl (w.heap.size + 1) 22 i1 (.slice none 0 0) 1 24 Try.underlying30 hj hs0 hs1 hs2 rfl (by decide) _ _ _ rfl (World.ownsRow.alloc G3.out.own _) ⟨w3.heap.size, 0, none⟩ 1 1 [.slice a3 n3 c3] rfl rfl (cell_one_new w3 _ _) (fun u hu => by simp at hu; subst hu; rfl) (by unfold maxLen; omega) (by omega) (by simp; omega) ?_)
        intro v' w5 hown' hgrow _ hat
        have hgx := G3.out.appendR HOI.out hl3 (by have := A.out.1; omega) hb2 (fun y hy => by have := GL.out.1 y hy; omega) (fun j hj => by have := GL.out.2 j hj; omega) (by rw [hrl]; exact hown') hgrow (by simpa using hat)
        have hb5 := G3.out.appBelow (by omega) hgrow
        have BB5 : Hid (Below w.heap.size w w5) := Lib.hid (BB3.out.trans (hb5.mono (by omega)))
        have A5 := Lib.hid (A3.out.heap hb5.size (hb5.block _ (by omega)))
        have GX := Lib.hid hgx
        clear hgx hown' hgrow hat hb5
        go_wp2
        go_roundw
        case rel => exact ⟨k + 1, by omega, by go_num, ⟨rs ++ [⟨b, a3, n3, c3, ys⟩], by rw [HIN.out]; simp, by rw [List.length_append]; exact GX.out⟩, A5.out, BB5.out⟩
        case measure => simp [intOf]; omega
    · have hkn : k = n := by omega
      have hle : ¬ (k : Int) + 1 ≤ (n : Int) := by omega
      have hrc := HM.out
      have hi := HRS.out
      rw [hkn] at hi
      rw [show mImgs n ls = (rs.map RowV.xs, 0) from by unfold mImgs; rw [hi]] at hrc
      obtain ⟨rfl, rfl⟩ := Prod.mk.injEq .. ▸ hrc
      obtain ⟨ad, cd, hve⟩ := GG.out.form
      subst hve
      clear hrc hi
      go_wp2
      go_ret2
      exact ⟨ad, cd, rs, rfl, rfl, GG.out.low (by omega), BB.out⟩

theorem mImgs_code (n : Nat) (ls : List Int) : (mImgs n ls).2 = 0 ∨ mImgs n ls = ([], 3) := by
  unfold mImgs
  split
  · exact .inl rfl
  · exact .inr rfl

set_option maxRecDepth 100000 in
set_option maxHeartbeats 1000000 in
theorem specImagesOf_any {s : Int} {a : Option Addr} {n cap : Nat} {ls : List Int} {w : World} {r : List (List Int)} {fc : Int} (hr : Reads w a n ls) (hf : Fits ls) (hn : n ≤ 1048576) (hM : mImages s ls = (r, fc)) :
    Calls Try.prog 53 #[.agg #[.int .i64 s, .slice a n cap]] w (RetSSN w r fc) := by
  have R := Lib.hid (hr.alloc (.cells #[.int .i64 s, .slice a n cap] 24)); clear hr
  have HF := Lib.hid hf; clear hf
  have A := Lib.hid (At2.new w (.int .i64 s) (.slice a n cap) 24)
  have BB := Lib.hid (below1 w (.cells #[.int .i64 s, .slice a n cap] 24))
  obtain ⟨qA1, qA2, qA3, qA4, qA5⟩ := A.out
  by_cases hbr : isBraid s ls = true
  · rw [mImages, if_pos hbr] at hM
    have hcode := mImgs_code s.toNat ls
    rw [hM] at hcode
    obtain ⟨h1, h2, _, _⟩ := (isBraid_iff s ls).1 hbr
    obtain ⟨q, rfl⟩ : ∃ q : Nat, s = (q : Int) := ⟨s.toNat, by omega⟩
    rw [Int.toNat_natCast] at hM
    have HM := Lib.hid hM; clear hM
    have HC := Lib.hid hcode; clear hcode
    have HLB := Lib.hid (letters_bd0 hbr)
    go_enter Try.func53, Try.ntmps53
    go_wp2_with fail
    refine (l01Is_any (q : Int) a n cap ls _ R.out HF.out hn).mono ?_
    rintro e w1 ⟨rfl, hb⟩
    clear qA1 qA2 qA3 qA4 qA5
    replace R := Lib.hid (R.out.below hb); replace A := Lib.hid (A.out.below hb)
    replace BB := Lib.hid (below_go BB.out hb (by simp)); clear hb
    obtain ⟨qA1, qA2, qA3, qA4, qA5⟩ := A.out
    go_wp2_with fail
    refine (l08Images_any q a n cap ls _ (by omega) R.out hn HLB.out HM.out).mono ?_
    rintro e w3 ⟨ad, cd, rs, rfl, hrs, hg, hb⟩
    clear qA1 qA2 qA3 qA4 qA5
    have z2 := BB.out.size
    have G := Lib.hid hg; replace BB := Lib.hid (below_go BB.out hb BB.out.size); clear hg hb
    have HRS := Lib.hid hrs; clear hrs
    rcases HC.out with h0 | h0
    · have h0 : fc = 0 := h0
      subst h0
      have t1 : ((0 : Int) == 0) = true := by simp
      go_wp2
      go_ret2
      exact ⟨ad, cd, rs, rfl, HRS.out, G.out.low z2, BB.out⟩
    · obtain ⟨rfl, rfl⟩ := Prod.mk.injEq .. ▸ h0
      have t1 : ((3 : Int) == 0) = false := by simp
      clear h0
      go_wp2
      go_ret2
      exact ⟨none, 0, [], rfl, rfl, GrowSS.nil _ _, BB.out⟩
  · rw [mImages, if_neg hbr] at hM
    obtain ⟨rfl, rfl⟩ := Prod.mk.injEq .. ▸ hM
    have hf' : isBraid s ls = false := by simpa using hbr
    clear hbr hM
    go_enter Try.func53, Try.ntmps53
    go_wp2_with fail
    refine (l01Is_any s a n cap ls _ R.out HF.out hn).mono ?_
    rintro e w1 ⟨rfl, hb⟩
    replace BB := Lib.hid (below_go BB.out hb (by simp)); clear hb
    clear qA1 qA2 qA3 qA4 qA5
    go_wp2
    go_ret2
    exact ⟨none, 0, [], rfl, rfl, GrowSS.nil _ _, BB.out⟩

end Go.Proofs.Ytmlejlediflaaaa
