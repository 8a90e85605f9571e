/- The program: the blocks of a part. -/
import Derived.Test.YtehcbamfendbaaaQA
import Derived.Test.YtehcbamfendbaaaQB
import Derived.Test.YtehcbamfendbaaaPSLst
import Derived.Deep.DeepCutAuto
namespace Go.Proofs.Ytehcbamfendbaaa
open Go.RowKit Go.ChangeShapes

theorem Bool8.wrote {w w' : World} {g lo hi : Nat} {f : Nat → Bool} (h : Bool8 w g f) (k : Wrote lo hi w w') (hg : g < lo ∨ hi ≤ g) : Bool8 w' g f :=
  have b := k.block g h.lt hg
  ⟨Nat.lt_of_lt_of_le h.lt k.size, fun j hj => (World.cell?_of_block (w := w) (a := ⟨g, j, none⟩) b).trans (h.cell j hj), fun j hj => (World.frozen?_of_block (w := w) (a := ⟨g, j, none⟩) b).trans (h.free j hj)⟩

theorem Bool8.under {B : Nat} {w w' : World} {g : Nat} {f : Nat → Bool} (h : Bool8 w g f) (b : Below B w w') (hg : g < B) : Bool8 w' g f :=
  have b2 := b.block g hg
  ⟨Nat.lt_of_lt_of_le h.lt b.size, fun j hj => (World.cell?_of_block (w := w) (a := ⟨g, j, none⟩) b2).trans (h.cell j hj), fun j hj => (World.frozen?_of_block (w := w) (a := ⟨g, j, none⟩) b2).trans (h.free j hj)⟩

theorem Bool8.below {w w' : World} {g : Nat} {f : Nat → Bool} (h : Bool8 w g f) (k : Below w.heap.size w w') : Bool8 w' g f := h.wrote (below_wrote (lo := 0) (hi := 0) k) (.inr (Nat.zero_le _))

theorem Row8.wrote {w w' : World} {g lo hi : Nat} {k : IntKind} {l : List Int} (h : Row8 w g k l) (b : Wrote lo hi w w') (hg : g < lo ∨ hi ≤ g) : Row8 w' g k l := h.heap b.size (b.block g h.lt hg)

theorem OwnV.setFar {B : Nat} {w : World} {v : Value} {n : Nat} {xs : List Int} (h : OwnV B w v n xs) {p : Addr} (hp : p.block < B) (x : Value) : OwnV B (w.setCell p x) v n xs :=
  ownsRow_heap (w := w) h fun k hk => Below.heap_setCell _ _ _ _ (by have := World.ownsRow.lt h k hk; omega)

set_option maxRecDepth 100000 in
set_option maxHeartbeats 4000000 in
theorem pBlocks_any (n : Nat) (p : List Int) (hp : Sim n p) (w : World) :
    Calls Try.prog 59 #[arr8 .u8 p, .int .i64 n] w (RetSS w (cycL n p n)) := by
  have h1 := hp.lo
  have h8 := hp.hi
  have lp := hp.len
  have HP := Lib.hid hp
  clear hp
  obtain ⟨i0, hi, hz0, hz1, hz2⟩ := info_parts infoInt
  obtain ⟨i1, hj, hy0, hy1, hy2⟩ := info_parts infoSlice
  go_enter Try.func59, Try.ntmps59
  have RA := Lib.hid ((Row8.place w .u8 p 64 w.heap.size rfl lp).alloc (.cells #[.bool false, .bool false, .bool false, .bool false, .bool false, .bool false, .bool false, .bool false] 73))
  have RM := Lib.hid (Bool8.place (w.alloc (.cells #[.int .u8 (at8 p 0), .int .u8 (at8 p 1), .int .u8 (at8 p 2), .int .u8 (at8 p 3), .int .u8 (at8 p 4), .int .u8 (at8 p 5), .int .u8 (at8 p 6), .int .u8 (at8 p 7)] 64)) 73 (w.heap.size + 1) (by simp))
  have BB := Lib.hid (below2 w (.cells #[.int .u8 (at8 p 0), .int .u8 (at8 p 1), .int .u8 (at8 p 2), .int .u8 (at8 p 3), .int .u8 (at8 p 4), .int .u8 (at8 p 5), .int .u8 (at8 p 6), .int .u8 (at8 p 7)] 64) (.cells #[.bool false, .bool false, .bool false, .bool false, .bool false, .bool false, .bool false, .bool false] 73))
  clear lp
  obtain ⟨W, hW⟩ : ∃ W, W = ((w.alloc (.cells #[.int .u8 (at8 p 0), .int .u8 (at8 p 1), .int .u8 (at8 p 2), .int .u8 (at8 p 3), .int .u8 (at8 p 4), .int .u8 (at8 p 5), .int .u8 (at8 p 6), .int .u8 (at8 p 7)] 64)).alloc (.cells #[.bool false, .bool false, .bool false, .bool false, .bool false, .bool false, .bool false, .bool false] 73)) := ⟨_, rfl⟩
  go_wp2
  rw [← hW] at RA RM BB ⊢
  clear hW
  go_loopw [5, 11] (fun lv i wr => ∃ x : Nat, x ≤ n ∧ i = .int .i64 x ∧ (∃ rs : List RowV, rs.map RowV.xs = cycL n p x ∧ GrowSS (w.heap.size + 1 + 1) wr lv rs.length rs) ∧ Row8 wr w.heap.size .u8 p ∧ Bool8 wr (w.heap.size + 1) (metP n p x 0) ∧ Below w.heap.size w wr) (fun _ i _ => n - (intOf i).toNat)
  case atStart => exact ⟨0, Nat.zero_le _, rfl, ⟨[], rfl, GrowSS.nil _ _⟩, RA.out, RM.out.congr fun j _ => (metP_start n p j).symm, BB.out⟩
  case round =>
    obtain ⟨x, hx, rfl, ⟨rs, hrs, hG⟩, hRA, hRM, hBB⟩ := hrel
    clear RA RM BB
    have RA := Lib.hid hRA
    have RM := Lib.hid hRM
    have BB := Lib.hid hBB
    have GG := Lib.hid hG
    have HRS := Lib.hid hrs
    clear hRA hRM hBB hG hrs
    have z1 := RM.out.lt
    by_cases hlt : x < n
    · have c1 := RM.out.cell x (by omega)
      by_cases hm : metP n p x 0 x = true
      · have HN := Lib.hid ((Way.start (p := p) x hlt).next HP.out hm)
        have HNO : Hid (lstN n p x ≠ x) := Lib.hid (by
          rcases (Way.start (p := p) x hlt).stop HP.out hm with ⟨h, _⟩ | ⟨_, h, _⟩
          · omega
          · omega)
        rw [hm] at c1
        clear hm
        go_wp2
        go_roundw
        case rel => exact ⟨x + 1, by omega, by go_num, ⟨rs, by rw [HRS.out, cycL_no _ _ _ HNO.out], GG.out⟩, RA.out, RM.out.congr HN.out.1, BB.out⟩
        case measure => simp [intOf]; omega
      · have hm0 : metP n p x 0 x = false := by simpa using hm
        clear hm
        rw [hm0] at c1
        have HM := Lib.hid hm0
        clear hm0
        go_wp2
        clear c1
        obtain ⟨wo, hwo⟩ : ∃ wo, wo = wr := ⟨_, rfl⟩
        rw [← hwo] at RA RM BB GG z1 ⊢
        clear hwo
        obtain ⟨C, hC⟩ : ∃ C, C = wo.heap.size := ⟨_, rfl⟩
        have HC := Lib.hid hC
        have hC1 : w.heap.size + 1 < C := by omega
        clear hC
        go_loopg [8, 9] (n + 1) (fun g bv y wx => ∃ j : Nat, g + j = n + 1 ∧ y = .int .i64 (itN (nx p) j x : Nat) ∧ Way n p x j ∧ OwnV C wx bv j (blkN p x j) ∧ Row8 wx w.heap.size .u8 p ∧ Bool8 wx (w.heap.size + 1) (metP n p x j) ∧ Wrote (w.heap.size + 1) (w.heap.size + 1 + 1) wo wx)
        case atStart => exact ⟨0, by omega, rfl, Way.start x hlt, OwnV.nil _ _, RA.out, RM.out, wrote_refl _ _ _⟩
        case round =>
          obtain ⟨j, hgj, rfl, hway, hO, hRA, hRM, hW⟩ := hrel
          obtain ⟨ba, bc, rfl, _⟩ := hO.form
          clear RA RM
          have RA := Lib.hid hRA
          have RM := Lib.hid hRM
          have HO := Lib.hid hO
          have HWR := Lib.hid hW
          clear hRA hRM hO hW
          have hin := hway.here HP.out
          obtain ⟨v, hv⟩ : ∃ v, v = itN (nx p) j x := ⟨_, rfl⟩
          have c1 := RM.out.cell v (by omega)
          have f1 := RM.out.free v (by omega)
          have c3 := RA.out.cell v (by omega)
          have z3 := RM.out.lt
          rw [HP.out.nx v] at c3
          have hn2 := HP.out.prm.bd v (by omega)
          obtain ⟨u, hu⟩ : ∃ u, u = nx p v := ⟨_, rfl⟩
          rw [← hu] at c3 hn2
          rw [← hv] at hin ⊢
          have HV := Lib.hid hv
          have HU := Lib.hid hu
          have HW := Lib.hid hway
          have hzw := HWR.out.size
          have zC : C ≤ wr.heap.size := by rw [HC.out]; exact hzw
          clear hv hu hway
          by_cases hm : metP n p x j v = true
          · have HN := Lib.hid (HW.out.next HP.out (by rw [← HV.out]; exact hm))
            have HS : Hid (lstN n p x = x ∧ 1 ≤ j ∧ itN (nx p) j x = x) := Lib.hid (by
              rcases HW.out.stop HP.out (by rw [← HV.out]; exact hm) with ⟨_, h0⟩ | h
              · subst h0
                have hv0 : v = x := HV.out
                rw [hv0, HM.out] at hm
                cases hm
              · exact h)
            have HPER := Lib.hid (HW.out.back HS.out.2.1 HS.out.2.2)
            have HCY := Lib.hid (cycL_yes n p x HS.out.1)
            have hj1 := HS.out.2.1
            have hjn := HW.out.le HP.out
            have hlen : rs.length ≤ 8 := by
              have h2 := cycL_len n p x
              have h3 : (rs.map RowV.xs).length = (cycL n p x).length := by rw [HRS.out]
              rw [List.length_map] at h3
              omega
            rw [hm] at c1
            clear hm f1 c3
            have ho : Own C wr ba j bc (blkN p x j) := HO.out
            obtain ⟨g, rfl, hg1, hg2⟩ := ho.block (by omega)
            have HOW := Lib.hid ho
            clear ho
            have G2 := Lib.hid (GG.out.wrote HWR.out (.inl (Nat.le_refl _)))
            have GL := Lib.hid GG.out.lt
            have BB2 : Hid (Below w.heap.size w wr) := Lib.hid (below_write BB.out HWR.out (by omega) BB.out.size)
            have zb := BB2.out.size
            go_wp2_with (at_builtin; refine wpList_append_own_at _ rfl _ _ 26 rfl (w.heap.size + 1 + 1) 22 i1 (.slice none 0 0) 1 24 Try.underlying26 hj hy0 hy1 hy2 rfl (by decide) _ _ _ rfl (World.ownsRow.alloc G2.out.own _) ⟨wr.heap.size, 0, none⟩ 1 1 [.slice (some ⟨g, 0, none⟩) j bc] rfl rfl (cell_one_new wr _ _) (fun u hu => by simp at hu; subst hu; rfl) (by unfold maxLen; omega) (by omega) (by simp; omega) ?_)
            intro v' w1 hown' hgrow _ hat
            have hgx := G2.out.append (HOW.out.mono (show w.heap.size + 1 + 1 ≤ C by omega)) (by omega) (fun y hy => by have := GL.out.1 y hy; have := HC.out; omega) (fun k hk => by have := GL.out.2 k hk; have := HC.out; omega) hown' hgrow hat
            have GX := Lib.hid hgx
            have hb := G2.out.appBelow (by omega) hgrow
            have RA3 := Lib.hid (RA.out.under hb (by omega))
            have RM3 := Lib.hid (RM.out.under hb (by omega))
            have BB3 : Hid (Below w.heap.size w w1) := Lib.hid (BB2.out.trans (hb.mono (by omega)))
            clear hgx hown' hgrow hat hb
            go_wp2
            go_roundw
            case rel =>
              refine ⟨x + 1, by omega, by go_num, ⟨rs ++ [⟨g, some ⟨g, 0, none⟩, j, bc, blkN p x j⟩], ?_, by rw [List.length_append]; exact GX.out⟩, RA3.out, RM3.out.congr HN.out.1, BB3.out⟩
              rw [List.map_append, HRS.out, HCY.out, HPER.out]
              rfl
            case measure => simp [intOf]; omega
          · have hm0 : metP n p x j v = false := by simpa using hm
            clear hm
            have HG := Lib.hid (HW.out.go HP.out (by rw [← HV.out]; exact hm0))
            rw [hm0] at c1
            clear hm0
            have hjn := HG.out.2
            obtain ⟨W1, hW1⟩ : ∃ W1, W1 = wr.setCell ⟨w.heap.size + 1, v, none⟩ (.bool true) := ⟨_, rfl⟩
            go_upto_region 12 with fail
            rw [← hW1]
            have O1 : Hid (OwnV C W1 (.slice ba j bc) j (blkN p x j)) := Lib.hid (by rw [hW1]; exact HO.out.setFar (by simp; omega) _)
            have RA1 : Hid (Row8 W1 w.heap.size .u8 p) := Lib.hid (by rw [hW1]; exact RA.out.setCell (by simp) _)
            have RM1 : Hid (Bool8 W1 (w.heap.size + 1) (metP n p x (j + 1))) := Lib.hid (by
              rw [hW1]
              refine (RM.out.store v (by omega) true).congr fun z _ => ?_
              rw [metP_step, ← HV.out])
            have WR1 : Hid (Wrote (w.heap.size + 1) (w.heap.size + 1 + 1) wo W1) := Lib.hid (by rw [hW1]; exact wrote_setCell HWR.out (by simp) (by simp) _)
            have zC1 : C ≤ W1.heap.size := by rw [hW1]; simpa [World.setCell] using zC
            clear hW1 c1 f1 c3
            go_wp2_with (at_builtin; refine wpList_append_own _ rfl _ _ 22 rfl C 2 i0 (.int .i64 0) 1 8 Try.underlying22 hi hz0 hz1 hz2 rfl (by decide) _ _ _ rfl (World.ownsRow.alloc O1.out _) ⟨W1.heap.size, 0, none⟩ 1 1 [.int .i64 (v : Int)] rfl rfl (one_new W1 (v : Int) _) (one_cell _) (by unfold maxLen; omega) (by omega) (by simp; omega) ?_)
            intro v' w1 hown' hgrow _
            have HO2 := Lib.hid (OwnV.appended hown')
            have hb := below_appended (Below.refl C W1) zC1 O1.out hgrow
            have RA2 := Lib.hid (RA1.out.under hb (by omega))
            have RM2 := Lib.hid (RM1.out.under hb (by omega))
            have WR2 : Hid (Wrote (w.heap.size + 1) (w.heap.size + 1 + 1) wo w1) := Lib.hid (wrote_step WR1.out (by rw [← HC.out]; exact hb))
            have c5 := RA2.out.cell v (by omega)
            rw [HP.out.nx v, ← HU.out] at c5
            clear hown' hgrow hb
            go_wp2
            go_roundg (gk - 1)
            case measure => omega
            case rel =>
              refine ⟨j + 1, by omega, by rw [show itN (nx p) (j + 1) x = nx p (itN (nx p) j x) from rfl, ← HV.out, ← HU.out], HG.out.1, ?_, RA2.out, RM2.out, WR2.out⟩
              rw [blkN_step, ← HV.out]
              exact HO2.out
    · have hxn : x = n := by omega
      subst hxn
      obtain ⟨a, cap, rfl⟩ := GG.out.form
      go_wp2
      go_ret
      exact ⟨a, cap, rs, rfl, HRS.out, GG.out.low (by omega), BB.out⟩

end Go.Proofs.Ytehcbamfendbaaa
