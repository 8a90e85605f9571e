/- The table of crossings, by the model. -/
import Derived.Test.YtmlejlediflaaaaCroP
import Derived.Test.YtmlejlediflaaaaStrands
import Derived.Test.YtmlejlediflaaaaKit9
import Derived.Test.YtmlejlediflaaaaTabC
import Derived.Deep.DeepCutAuto
import Derived.Great.Walk
namespace Go.Proofs.Ytmlejlediflaaaa
open Go.RowKit Go.ChangeShapes Go.Great

set_option maxRecDepth 100000 in
set_option maxHeartbeats 4000000 in
theorem l01Crossings_any (q : Nat) (hq : q ≤ 8) (a : Option Addr) (n cap : Nat) (xs : List Int) (w : World) (hr : Reads w a n xs) (hx : Letts q xs) (hn : n ≤ 1000) :
    Calls Try.prog 71 #[.int .i64 q, .slice a n cap] w fun e w' => e = .returned (.agg (cells (runT xs).2)) ∧ Below w.heap.size w w' := by
  have HL := Lib.hid hr.len
  have R := Lib.hid hr; clear hr
  have HX := Lib.hid hx; clear hx
  have zc : (cells (List.replicate 64 0)) = cells (List.replicate 64 0) := rfl
  go_enter Try.func71, Try.ntmps71
  go_wp2_with fail
  refine (l01Strands_any q hq none 0 0 [] _ ⟨rfl, Or.inl rfl⟩ (fun x hx => by cases hx) (by omega)).mono ?_
  rintro e w2 ⟨rfl, hb⟩
  have zb : w.heap.size + 1 ≤ w2.heap.size := by have := hb.size; simp at this; exact this
  have T0 := Lib.hid ((Blk.place w (List.replicate 64 0) 67 w.heap.size rfl).below hb)
  have BB := Lib.hid (below_go (below1 w (.cells (cells (List.replicate 64 0)) 67)) hb (by simp))
  clear hb
  have T1 := Lib.hid ((Blk.place w2 (List.replicate 64 0) 67 w2.heap.size rfl).alloc (.cells #[.int .u8 0, .int .u8 0, .int .u8 0, .int .u8 0, .int .u8 0, .int .u8 0, .int .u8 0, .int .u8 0] 91))
  have O0 := Lib.hid (Row8.zeros (w2.alloc (.cells (cells (List.replicate 64 0)) 67)) .u8 91 (w2.heap.size + 1) (by simp))
  have e1 : (w2.alloc (.cells (cells (List.replicate 64 0)) 67)).heap.size = w2.heap.size + 1 := by simp
  rename (∀ (a : Act) (w : World), wpList _ _ _ _ a w → _) => tl
  refine tl _ _ ?_
  refine wpList_allocTo rfl (some 5) rfl (.pointer (some ⟨w2.heap.size, 0, none⟩)) (.cells (cells (List.replicate 64 0)) 67) (by rfl) ?_
  refine wpList_allocTo rfl (some 6) rfl (.pointer (some ⟨w2.heap.size + 1, 0, none⟩)) (.cells #[.int .u8 0, .int .u8 0, .int .u8 0, .int .u8 0, .int .u8 0, .int .u8 0, .int .u8 0, .int .u8 0] 91) (by rw [← e1]; rfl) ?_
  refine wpList_store_blk rfl 67 _ _ rfl w2.heap.size (m := List.replicate 64 0) rfl rfl T1.out (by rfl) (by rw [List.length_replicate]; kernel_rfl) ?_
  intro hblk
  clear e1
  obtain ⟨W, hW⟩ : ∃ W, W = ((w2.alloc (.cells (cells (List.replicate 64 0)) 67)).alloc (.cells #[.int .u8 0, .int .u8 0, .int .u8 0, .int .u8 0, .int .u8 0, .int .u8 0, .int .u8 0, .int .u8 0] 91)).setRow w2.heap.size (cells (List.replicate 64 0)) := ⟨_, rfl⟩
  have O1 : Row8 W (w2.heap.size + 1) .u8 [0, 0, 0, 0, 0, 0, 0, 0] := by
    rw [hW]
    exact O0.out.heap (by simp [World.setRow]) (setRow_other _ _ _ _ (by omega))
  have B1 : Below w2.heap.size w2 W := by
    rw [hW]
    exact below_setRow (below2 w2 _ _) (Nat.le_refl _) _
  rw [← hW] at hblk ⊢
  have T2 := Lib.hid hblk
  have zW : w2.heap.size + 2 ≤ W.heap.size := by have := O1.lt; omega
  have OF := Lib.hid (O1.fill (run8 (startM q) []) (startM_len q hq))
  have BF := Lib.hid (below_fill8 B1 (w2.heap.size + 1) (by omega) (.int .u8 (at8 (run8 (startM q) []) 0)) (.int .u8 (at8 (run8 (startM q) []) 1)) (.int .u8 (at8 (run8 (startM q) []) 2)) (.int .u8 (at8 (run8 (startM q) []) 3)) (.int .u8 (at8 (run8 (startM q) []) 4)) (.int .u8 (at8 (run8 (startM q) []) 5)) (.int .u8 (at8 (run8 (startM q) []) 6)) (.int .u8 (at8 (run8 (startM q) []) 7)))
  have TF := Lib.hid (blk_far8 T2.out (w2.heap.size + 1) (by omega) (.int .u8 (at8 (run8 (startM q) []) 0)) (.int .u8 (at8 (run8 (startM q) []) 1)) (.int .u8 (at8 (run8 (startM q) []) 2)) (.int .u8 (at8 (run8 (startM q) []) 3)) (.int .u8 (at8 (run8 (startM q) []) 4)) (.int .u8 (at8 (run8 (startM q) []) 5)) (.int .u8 (at8 (run8 (startM q) []) 6)) (.int .u8 (at8 (run8 (startM q) []) 7)))
  obtain ⟨⟨c0, c1, c2, c3⟩, c4, c5, c6, c7⟩ := O1.all
  obtain ⟨⟨f0, f1, f2, f3⟩, f4, f5, f6, f7⟩ := O1.frees
  clear T1 O0 O1 B1 hblk hW
  go_wp2
  clear c0 c1 c2 c3 c4 c5 c6 c7 f0 f1 f2 f3 f4 f5 f6 f7
  go_loopw [7] (fun i wr => ∃ j : Nat, j ≤ n ∧ i = .int .i64 j ∧ Blk wr w2.heap.size 67 (runS q (xs.take j)).2 ∧ Row8 wr (w2.heap.size + 1) .u8 (runS q (xs.take j)).1 ∧ Below w2.heap.size w2 wr) (fun i _ => n - (intOf i).toNat)
  case atStart => exact ⟨0, Nat.zero_le _, rfl, TF.out, OF.out, BF.out⟩
  case round =>
    obtain ⟨j, hj, rfl, ht, ho, hbl⟩ := hrel
    clear TF OF BF T2
    have T1 := Lib.hid ht
    have O1 := Lib.hid ho
    have HB := Lib.hid hbl
    have zr := hbl.size
    clear ht ho hbl
    by_cases hlt : j < n
    · obtain ⟨b, off, rfl, hb, hc⟩ := R.out.cells (by omega)
      have h1 := ((BB.out.trans (HB.out.mono (by omega))).cell (p := ⟨b, off + j, none⟩) hb).trans (hc j hlt)
      have hok := runS_ok q hq xs HX.out j (by rw [HL.out]; exact hj)
      have hst := runS_step q xs j (by rw [HL.out]; exact hlt)
      obtain ⟨x0, x1, x2⟩ := HX.out _ (getD_mem xs j (by rw [HL.out]; exact hlt))
      obtain ⟨x, hx⟩ : ∃ x, x = xs.getD j 0 := ⟨_, rfl⟩
      rw [← hx] at h1 hst x0 x1 x2
      clear hx hc
      obtain ⟨i1, i2, i3⟩ := idx_bounds q x x0 x1 x2
      have hdif := runS_dif q hq (xs.take j) (fun y hy => HX.out y (List.mem_of_mem_take hy))
      obtain ⟨l, hl⟩ : ∃ l, l = (runS q (xs.take j)).1 := ⟨_, rfl⟩
      obtain ⟨tb, htb⟩ : ∃ tb, tb = (runS q (xs.take j)).2 := ⟨_, rfl⟩
      have hpair : runS q (xs.take j) = (l, tb) := by rw [hl, htb]
      rw [hpair] at hst
      rw [← hl] at O1 hok hdif
      rw [← htb] at T1 hok
      clear hl htb hpair
      obtain ⟨m, hm⟩ : ∃ m, m + 1 = idxN x := ⟨idxN x - 1, by omega⟩
      rw [← hm] at i1 i2 i3
      obtain ⟨v0, v8⟩ := hok.bd (m + 1) (by omega)
      obtain ⟨u0, u8⟩ := hok.bd m (by omega)
      have hne := hdif m (m + 1) (by omega) i2 (by omega)
      obtain ⟨u, hu⟩ : ∃ u : Nat, at8 l m = u := ⟨(at8 l m).toNat, by omega⟩
      obtain ⟨v, hv⟩ : ∃ v : Nat, at8 l (m + 1) = v := ⟨(at8 l (m + 1)).toNat, by omega⟩
      have hu8 : u < 8 := by omega
      have hv8 : v < 8 := by omega
      have huv : u ≠ v := by omega
      have hsets := stepT_setsM l tb x m u v hm hu hv hok.tlen hu8 hv8 huv
      rw [hsets] at hst
      obtain ⟨s1, s2⟩ := hok.small (u * 8 + v)
      obtain ⟨s3, s4⟩ := hok.small (v * 8 + u)
      have d1 := T1.out.cell (u * 8 + v) (by rw [hok.tlen]; omega)
      have d2 := T1.out.cell (v * 8 + u) (by rw [hok.tlen]; omega)
      obtain ⟨y, hy⟩ : ∃ y, y = at8 tb (u * 8 + v) := ⟨_, rfl⟩
      obtain ⟨z, hz⟩ : ∃ z, z = at8 tb (v * 8 + u) := ⟨_, rfl⟩
      rw [← hy] at d1 s1 s2 hst
      rw [← hz] at d2 s3 s4 hst
      have g1 := T1.out.free (u * 8 + v)
      have g2 := T1.out.free (v * 8 + u)
      have p1 := O1.out.cell m (by omega)
      have p2 := O1.out.cell (m + 1) (by omega)
      have g3 := O1.out.free m (by omega)
      have g4 := O1.out.free (m + 1) (by omega)
      rw [hu] at p1
      rw [hv] at p2
      have huv8 : ¬ (u * 8 + v = v * 8 + u) := by omega
      have hvu8 : ¬ (v * 8 + u = u * 8 + v) := by omega
      have zt := T1.out.lt
      have zo := O1.out.lt
      have hm7 : m + 1 < 8 := by omega
      have wm : IntKind.i64.wrap (m : Int) = (m : Int) := IntWalk.i64_in _ (by omega)
      have HST := Lib.hid hst
      have hzy : at8 (tb.set (u * 8 + v) (y + cnt x)) (v * 8 + u) = z := by rw [at8_set _ _ _ _ (by rw [hok.tlen]; omega), if_neg huv8]; exact hz.symm
      have K1 : Hid (∀ W : World, Blk W w2.heap.size 67 tb → W.cell? ⟨w2.heap.size, u * 8 + v, none⟩ = some (.int .i64 y)) := Lib.hid (fun W h => by have := h.cell (u * 8 + v) (by rw [hok.tlen]; omega); rw [← hy] at this; exact this)
      have K2 : Hid (∀ W : World, Blk W w2.heap.size 67 (tb.set (u * 8 + v) (y + cnt x)) → W.cell? ⟨w2.heap.size, v * 8 + u, none⟩ = some (.int .i64 z)) := Lib.hid (fun W h => by have := h.cell (v * 8 + u) (by rw [List.length_set, hok.tlen]; omega); rw [hzy] at this; exact this)
      clear hst hsets hy hz hu hv hne hdif hok hzy d1 d2 g1 g2
      by_cases hn0 : x < 0
      · have hc : cnt x = -1 := if_pos hn0
        rw [hc] at HST K2
        have wx : IntKind.i64.wrap (-x) = (m : Int) + 1 := (IntWalk.i64_in _ (by omega)).trans (by omega)
        have wy : IntKind.i64.wrap (y + -1) = y + -1 := IntWalk.i64_in _ (by omega)
        have wz : IntKind.i64.wrap (z + -1) = z + -1 := IntWalk.i64_in _ (by omega)
        clear hc i3 hm x0 x1 x2
        go_wp2
        go_quiet (fail)
        have hb1 := below_draws wr.heap.size wr nq
        have hb2 := below_draws w2.heap.size wr nq
        obtain ⟨wq, hwq⟩ : ∃ wq, wq = wr.drewN nq := ⟨_, rfl⟩
        rw [← hwq] at hb1 hb2 ⊢
        replace T1 := Lib.hid (T1.out.below hb1)
        replace O1 := Lib.hid (O1.out.below hb1)
        replace HB := Lib.hid (HB.out.trans hb2)
        clear hwq hb1 hb2 p1 p2 g3 g4 zt zo h1
        have zt := T1.out.lt
        have zo := O1.out.lt
        go_upto_region 10 with fail
        go_cut [] from 36 to 46 (fun wx => Blk wx w2.heap.size 67 (tb.set (u * 8 + v) (y + -1)) ∧ Row8 wx (w2.heap.size + 1) .u8 l ∧ Below w2.heap.size w2 wx)
        case first =>
          have d1 := K1.out _ T1.out
          have g1 := T1.out.free (u * 8 + v)
          go_region_with (fail)
          all_goals
            go_wp2_with fail
            go_meet
            exact ⟨T1.out.store (u * 8 + v) (y + -1), (O1.out.setCell (p := ⟨w2.heap.size, u * 8 + v, none⟩) (by simp) _).drew, (HB.out.setCell (p := ⟨w2.heap.size, u * 8 + v, none⟩) (Nat.le_refl _) _).drew⟩
        case rest =>
          obtain ⟨t2, o2, b2⟩ := hcut
          obtain ⟨V, hV⟩ : ∃ x, x = wc := ⟨_, rfl⟩; subst hV
          clear zt zo T1 O1 HB
          have T1 := Lib.hid t2; have O1 := Lib.hid o2; have HB := Lib.hid b2
          clear t2 o2 b2
          have zt := T1.out.lt
          have zo := O1.out.lt
          go_upto_region 11 with fail
          go_cut [] from 47 to 57 (fun wx => Blk wx w2.heap.size 67 ((tb.set (u * 8 + v) (y + -1)).set (v * 8 + u) (z + -1)) ∧ Row8 wx (w2.heap.size + 1) .u8 l ∧ Below w2.heap.size w2 wx)
          case first =>
            have d2 := K2.out _ T1.out
            have g2 := T1.out.free (v * 8 + u)
            go_region_with (fail)
            all_goals
              go_wp2_with fail
              go_meet
              exact ⟨T1.out.store (v * 8 + u) (z + -1), (O1.out.setCell (p := ⟨w2.heap.size, v * 8 + u, none⟩) (by simp) _).drew, (HB.out.setCell (p := ⟨w2.heap.size, v * 8 + u, none⟩) (Nat.le_refl _) _).drew⟩
          case rest =>
            obtain ⟨t2, o2, b2⟩ := hcut
            obtain ⟨U, hU⟩ : ∃ x, x = wc := ⟨_, rfl⟩; subst hU
            clear zt zo T1 O1 HB
            have T1 := Lib.hid t2; have O1 := Lib.hid o2; have HB := Lib.hid b2
            clear t2 o2 b2
            have g3 := O1.out.free m (by omega)
            have g4 := O1.out.free (m + 1) (by omega)
            have p1 := O1.out.cell m (by omega)
            have p2 := O1.out.cell (m + 1) (by omega)
            have zt := T1.out.lt
            have zo := O1.out.lt
            go_wp2
            go_roundw
            case rel =>
              refine ⟨j + 1, by omega, by go_num, ?_, ?_, ?_⟩
              · rw [HST.out]
                exact (T1.out.setCell (p := ⟨w2.heap.size + 1, m, none⟩) (by simp) _).setCell (p := ⟨w2.heap.size + 1, m + 1, none⟩) (by simp) _
              · rw [HST.out]
                exact (O1.out.store m (by omega) v).store (m + 1) (by omega) u
              · exact (HB.out.setCell (p := ⟨w2.heap.size + 1, m, none⟩) (by simp) _).setCell (p := ⟨w2.heap.size + 1, m + 1, none⟩) (by simp) _
            case measure => simp [intOf]; omega
      · have hc : cnt x = 1 := if_neg hn0
        rw [hc] at HST K2
        obtain rfl : x = (m : Int) + 1 := by omega
        have wy : IntKind.i64.wrap (y + 1) = y + 1 := IntWalk.i64_in _ (by omega)
        have wz : IntKind.i64.wrap (z + 1) = z + 1 := IntWalk.i64_in _ (by omega)
        clear hc i3 hm x0 x1 x2
        go_wp2
        go_quiet (fail)
        have hb1 := below_draws wr.heap.size wr nq
        have hb2 := below_draws w2.heap.size wr nq
        obtain ⟨wq, hwq⟩ : ∃ wq, wq = wr.drewN nq := ⟨_, rfl⟩
        rw [← hwq] at hb1 hb2 ⊢
        replace T1 := Lib.hid (T1.out.below hb1)
        replace O1 := Lib.hid (O1.out.below hb1)
        replace HB := Lib.hid (HB.out.trans hb2)
        clear hwq hb1 hb2 p1 p2 g3 g4 zt zo h1
        have zt := T1.out.lt
        have zo := O1.out.lt
        go_upto_region 10 with fail
        go_cut [] from 36 to 46 (fun wx => Blk wx w2.heap.size 67 (tb.set (u * 8 + v) (y + 1)) ∧ Row8 wx (w2.heap.size + 1) .u8 l ∧ Below w2.heap.size w2 wx)
        case first =>
          have d1 := K1.out _ T1.out
          have g1 := T1.out.free (u * 8 + v)
          go_region_with (fail)
          all_goals
            go_wp2_with fail
            go_meet
            exact ⟨T1.out.store (u * 8 + v) (y + 1), (O1.out.setCell (p := ⟨w2.heap.size, u * 8 + v, none⟩) (by simp) _).drew, (HB.out.setCell (p := ⟨w2.heap.size, u * 8 + v, none⟩) (Nat.le_refl _) _).drew⟩
        case rest =>
          obtain ⟨t2, o2, b2⟩ := hcut
          obtain ⟨V, hV⟩ : ∃ x, x = wc := ⟨_, rfl⟩; subst hV
          clear zt zo T1 O1 HB
          have T1 := Lib.hid t2; have O1 := Lib.hid o2; have HB := Lib.hid b2
          clear t2 o2 b2
          have zt := T1.out.lt
          have zo := O1.out.lt
          go_upto_region 11 with fail
          go_cut [] from 47 to 57 (fun wx => Blk wx w2.heap.size 67 ((tb.set (u * 8 + v) (y + 1)).set (v * 8 + u) (z + 1)) ∧ Row8 wx (w2.heap.size + 1) .u8 l ∧ Below w2.heap.size w2 wx)
          case first =>
            have d2 := K2.out _ T1.out
            have g2 := T1.out.free (v * 8 + u)
            go_region_with (fail)
            all_goals
              go_wp2_with fail
              go_meet
              exact ⟨T1.out.store (v * 8 + u) (z + 1), (O1.out.setCell (p := ⟨w2.heap.size, v * 8 + u, none⟩) (by simp) _).drew, (HB.out.setCell (p := ⟨w2.heap.size, v * 8 + u, none⟩) (Nat.le_refl _) _).drew⟩
          case rest =>
            obtain ⟨t2, o2, b2⟩ := hcut
            obtain ⟨U, hU⟩ : ∃ x, x = wc := ⟨_, rfl⟩; subst hU
            clear zt zo T1 O1 HB
            have T1 := Lib.hid t2; have O1 := Lib.hid o2; have HB := Lib.hid b2
            clear t2 o2 b2
            have g3 := O1.out.free m (by omega)
            have g4 := O1.out.free (m + 1) (by omega)
            have p1 := O1.out.cell m (by omega)
            have p2 := O1.out.cell (m + 1) (by omega)
            have zt := T1.out.lt
            have zo := O1.out.lt
            go_wp2
            go_roundw
            case rel =>
              refine ⟨j + 1, by omega, by go_num, ?_, ?_, ?_⟩
              · rw [HST.out]
                exact (T1.out.setCell (p := ⟨w2.heap.size + 1, m, none⟩) (by simp) _).setCell (p := ⟨w2.heap.size + 1, m + 1, none⟩) (by simp) _
              · rw [HST.out]
                exact (O1.out.store m (by omega) v).store (m + 1) (by omega) u
              · exact (HB.out.setCell (p := ⟨w2.heap.size + 1, m, none⟩) (by simp) _).setCell (p := ⟨w2.heap.size + 1, m + 1, none⟩) (by simp) _
            case measure => simp [intOf]; omega
    · have hjn : j = n := by omega
      have hu : xs.take j = xs := List.take_of_length_le (by rw [HL.out, hjn]; exact Nat.le_refl _)
      rw [hu, runS_tab q hq xs HX.out] at T1
      have tlen : (runT xs).2.length = 64 := (runT_ok xs (fun y hy => by obtain ⟨e1, e2, e3⟩ := HX.out y hy; exact ⟨e1, by omega, by omega⟩)).tlen
      have HK := Lib.hid hjn
      clear hjn hu
      have T2 := Lib.hid (T0.out.heap (HB.out.block _ (by omega)))
      rename (∀ (a : Act) (w : World), Code.wp _ _ _ a w → _) => tl2
      have TL := Lib.hid tl2
      have TN := Lib.hid tlen
      clear tl2 tlen
      go_wp2
      refine TL.out _ _ ?_
      refine wp_seq ?_
      refine wp_region_lit ?_
      refine wpList_load_blk rfl 67 _ rfl w2.heap.size rfl T1.out (.array 8 66) (by kernel_rfl) rfl (by rw [TN.out]; kernel_rfl) ?_
      refine wpList_store_blk rfl 67 _ _ rfl w.heap.size rfl rfl T2.out (by rw [TN.out]; rfl) (by kernel_rfl) ?_
      intro hblk
      have HBK := Lib.hid hblk
      clear hblk
      go_wp2
      have hld := HBK.out.load (P := Try.prog) 67 (.array 8 66) (by kernel_rfl) rfl (by rw [TN.out]; kernel_rfl)
      refine bodyPost_ret (v := .agg (cells (runT xs).2)) ?_ rfl ⟨rfl, below_setRow (BB.out.trans (HB.out.mono (by omega))) (Nat.le_refl _) _⟩
      simp only [results, Try.results71]
      simp [asAddr, Act.put, hld]

end Go.Proofs.Ytmlejlediflaaaa
