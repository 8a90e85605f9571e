/- Merged texts. -/
import Derived.Test.YtehcbamfendbaaaSeOrder
import Derived.Deep.RegionHeld3
import Derived.Test.YtehcbamfendbaaaSeMg3
import Derived.Test.YtehcbamfendbaaaSeMg13
import Derived.Deep.DeepCutAuto

/- The program's crossing of two places of an order. -/
namespace Go.Proofs.Ytehcbamfendbaaa
open Go.RowKit Go.ChangeShapes

set_option maxHeartbeats 4000000 in
theorem crossed_at (a b c d e f p q x : Int) (m : Nat) (hm : m = 0 ∨ m = 1 ∨ m = 2 ∨ m = 3 ∨ m = 4 ∨ m = 5 ∨ m = 6) (hx : x * cnt x = m + 1) (h1 : -1000 < x) (h2 : x < 1000) (w : World) :
  Calls Try.prog 99 #[arr8 .i64 [a, b, c, d, e, f, p, q], .int .i64 x] w fun en w' =>
   en = .returned (.tuple #[arr8 .i64 (swapL [a, b, c, d, e, f, p, q] (m + 1)), .int .i64 (at8 [a, b, c, d, e, f, p, q] (m + 1)), .int .i64 (at8 [a, b, c, d, e, f, p, q] m)]) ∧ Below w.heap.size w w' := by
 have C1 := fun W => index_any x W h1 h2
 rw [hx] at C1
 have K1 := Lib.hid C1
 clear C1 hx
 rcases hm with rfl | rfl | rfl | rfl | rfl | rfl | rfl
 all_goals
  go_enter Try.func99, Try.ntmps99
  go_wp2_with (go_at_call 111; refine (K1.out _).mono ?_; rintro e w' ⟨rfl, rfl⟩)
  go_region
  go_wp2
  go_region
  go_wp2
  refine bodyPost_ret (v := _) (by simp [results, Try.results99, go_sem]; exact ⟨rfl, rfl, rfl, rfl, rfl, rfl, rfl, rfl⟩) rfl ⟨rfl, ?_⟩
  exact (below2 w _ _).drew.drew

theorem crossed_any (l : List Int) (hl : l.length = 8) (x : Int) (m : Nat) (hm : 1 ≤ m) (h8 : m < 8) (hx : x * cnt x = m) (h1 : -1000 < x) (h2 : x < 1000) (w : World) :
  Calls Try.prog 99 #[arr8 .i64 l, .int .i64 x] w fun en w' =>
   en = .returned (.tuple #[arr8 .i64 (swapL l m), .int .i64 (at8 l m), .int .i64 (at8 l (m - 1))]) ∧ Below w.heap.size w w' := by
 match l, hl with
 | [a, b, c, d, e, f, p, q], _ =>
  have h := crossed_at a b c d e f p q x (m - 1) (by omega) (by rw [hx]; omega) h1 h2 w
  rw [show m - 1 + 1 = m by omega] at h
  exact h

end Go.Proofs.Ytehcbamfendbaaa

/- Merged texts. -/

/- Where the strands end: the program's answer. -/
namespace Go.Proofs.Ytehcbamfendbaaa
open Go.RowKit Go.ChangeShapes

theorem idx_cnt (x : Int) : x * cnt x = idxN x := by
 rw [idx_eq]
 unfold idxN
 split <;> omega

end Go.Proofs.Ytehcbamfendbaaa

/- The program's table of crossings. -/
namespace Go.Proofs.Ytehcbamfendbaaa
open Go.RowKit Go.ChangeShapes

theorem tget_le (tb : List Int) (p q : Nat) : tget tb p q = at8 tb (p * 8 + q) := by
 unfold tget
 rw [Nat.mul_comm]

/-- The two stores of a crossing. -/
theorem stepT_sets (l tb : List Int) (x : Int) (m u v : Nat) (hm : m = idxN x) (hu : at8 l (m - 1) = (u : Int)) (hv : at8 l m = (v : Int)) (hl : tb.length = 64) (hu8 : u < 8) (hv8 : v < 8) (huv : u ≠ v) :
  stepT (l, tb) x = (swapL l m, (tb.set (v * 8 + u) (at8 tb (v * 8 + u) + cnt x)).set (u * 8 + v) (at8 tb (u * 8 + v) + cnt x)) := by
 unfold stepT
 rw [← hm]
 simp only [hu, hv, Int.toNat_natCast]
 have e : tget (tadd tb v u (cnt x)) u v = tget tb u v := by rw [tget_tadd _ _ _ _ _ _ hl hv8 hu8 hu8 hv8, if_neg (by omega)]
 unfold tadd at e ⊢
 rw [e, tget_le, tget_le, Nat.mul_comm 8 v, Nat.mul_comm 8 u]

theorem blk_far8 {w : World} {g : Nat} {t : TypeId} {l : List Int} (h : Blk w g t l) (b : Nat) (hb : b ≠ g) (v0 v1 v2 v3 v4 v5 v6 v7 : Value) :
  Blk ((((((((w.setCell ⟨b, 0, none⟩ v0).setCell ⟨b, 1, none⟩ v1).setCell ⟨b, 2, none⟩ v2).setCell ⟨b, 3, none⟩ v3).setCell ⟨b, 4, none⟩ v4).setCell ⟨b, 5, none⟩ v5).setCell ⟨b, 6, none⟩ v6).setCell ⟨b, 7, none⟩ v7) g t l :=
 (((((((h.setCell (p := ⟨b, 0, none⟩) hb v0).setCell (p := ⟨b, 1, none⟩) hb v1).setCell (p := ⟨b, 2, none⟩) hb v2).setCell (p := ⟨b, 3, none⟩) hb v3).setCell (p := ⟨b, 4, none⟩) hb v4).setCell (p := ⟨b, 5, none⟩) hb v5).setCell (p := ⟨b, 6, none⟩) hb v6).setCell (p := ⟨b, 7, none⟩) hb v7

set_option maxRecDepth 100000 in
set_option maxHeartbeats 8000000 in
theorem crossingTableOf_any (s : Int) (a : Option Addr) (n cap : Nat) (xs : List Int) (w : World) (hr : Reads w a n xs) (hx : Letts 8 xs) (hn : n ≤ 1000) :
  Calls Try.prog 65 #[.agg #[.int .i64 s, .slice a n cap]] w fun e w' => e = .returned (.agg (cells (runT xs).2)) ∧ Below w.heap.size w w' := by
 have HL := Lib.hid hr.len
 have R := Lib.hid hr; clear hr
 have HX := Lib.hid hx; clear hx
 go_enter Try.func65, Try.ntmps65
 have A0 := Lib.hid (((At2.new w (.int .i64 s) (.slice a n cap) 29).alloc (.cells (cells (List.replicate 64 0)) 70)).alloc (.cells (cells (List.replicate 64 0)) 70))
 have T0 := Lib.hid ((Blk.place (w.alloc (.cells #[.int .i64 s, .slice a n cap] 29)) (List.replicate 64 0) 70 (w.heap.size + 1) (by simp)).alloc (.cells (cells (List.replicate 64 0)) 70))
 have T1 := Lib.hid (Blk.place ((w.alloc (.cells #[.int .i64 s, .slice a n cap] 29)).alloc (.cells (cells (List.replicate 64 0)) 70)) (List.replicate 64 0) 70 (w.heap.size + 1 + 1) (by simp))
 have BB := Lib.hid (below3 w (.cells #[.int .i64 s, .slice a n cap] 29) (.cells (cells (List.replicate 64 0)) 70) (.cells (cells (List.replicate 64 0)) 70))
 go_wp2_with fail
 refine (firstOrder_any _).mono ?_
 rintro e w2 ⟨rfl, hb⟩
 have zb := hb.size
 replace A0 := Lib.hid (A0.out.below hb)
 replace T0 := Lib.hid (T0.out.below hb)
 replace T1 := Lib.hid (T1.out.below hb)
 replace BB := Lib.hid (below_go BB.out hb (by simp; omega))
 clear hb
 have O1 := Lib.hid (Row8.place w2 .i64 order8 98 w2.heap.size rfl rfl)
 have B1 := Lib.hid (below1 w2 (.cells #[.int .i64 (at8 order8 0), .int .i64 (at8 order8 1), .int .i64 (at8 order8 2), .int .i64 (at8 order8 3), .int .i64 (at8 order8 4), .int .i64 (at8 order8 5), .int .i64 (at8 order8 6), .int .i64 (at8 order8 7)] 98))
 have zt := T1.out.lt
 replace T1 := Lib.hid (T1.out.alloc (.cells #[.int .i64 (at8 order8 0), .int .i64 (at8 order8 1), .int .i64 (at8 order8 2), .int .i64 (at8 order8 3), .int .i64 (at8 order8 4), .int .i64 (at8 order8 5), .int .i64 (at8 order8 6), .int .i64 (at8 order8 7)] 98))
 obtain ⟨q1, q2, q3, q4, q5⟩ := A0.out
 go_wp2
 clear q1 q2 q3 q4 q5
 go_loopw [15] (fun i wr => ∃ j : Nat, j ≤ n ∧ i = .int .i64 j ∧ Blk wr (w.heap.size + 1 + 1) 70 (runT (xs.take j)).2 ∧ Row8 wr w2.heap.size .i64 (runT (xs.take j)).1 ∧ Below (w.heap.size + 1 + 1) w2 wr) (fun i _ => n - (intOf i).toNat)
 case atStart => exact ⟨0, Nat.zero_le _, rfl, T1.out, O1.out, B1.out.mono (by omega)⟩
 case round =>
  obtain ⟨j, hj, rfl, ht, ho, hbl⟩ := hrel
  clear T1 O1 B1
  have T1 := Lib.hid ht
  have O1 := Lib.hid ho
  have HB := Lib.hid hbl
  have zr := hbl.size
  clear ht ho hbl
  by_cases hlt : j < n
  ·obtain ⟨b, off, rfl, hb, hc⟩ := R.out.cells (by omega)
   have h1 := ((BB.out.trans (HB.out.mono (by omega))).cell (p := ⟨b, off + j, none⟩) hb).trans (hc j hlt)
   have hok := runT_ok (xs.take j) (fun y hy => HX.out y (List.mem_of_mem_take hy))
   have hle : (xs.take j).length ≤ 1000 := Nat.le_trans (List.length_take_le _ _) (by omega)
   have hst := runT_step xs j (by rw [HL.out]; exact hlt)
   obtain ⟨x0, x1, x2⟩ := HX.out _ (getD_mem xs j (by rw [HL.out]; exact hlt))
   obtain ⟨x, hx⟩ : ∃ x, x = xs.getD j 0 := ⟨_, rfl⟩
   rw [← hx] at h1 hst x0 x1 x2
   clear hx hc
   obtain ⟨i1, i2, _⟩ := idx_bounds 8 x x0 x1 x2
   have hm := idx_cnt x
   obtain ⟨m, hm2⟩ : ∃ m, m = idxN x := ⟨_, rfl⟩
   rw [← hm2] at i1 i2 hm
   obtain ⟨l, hl⟩ : ∃ l, l = (runT (xs.take j)).1 := ⟨_, rfl⟩
   obtain ⟨tb, htb⟩ : ∃ tb, tb = (runT (xs.take j)).2 := ⟨_, rfl⟩
   have hpair : runT (xs.take j) = (l, tb) := by rw [hl, htb]
   rw [hpair] at hst
   rw [← hl] at O1 hok
   rw [← htb] at T1 hok
   clear hl htb hpair
   obtain ⟨v0, v8⟩ := hok.bd m i2
   obtain ⟨u0, u8⟩ := hok.bd (m - 1) (by omega)
   have hne : at8 l (m - 1) ≠ at8 l m := fun e => by have := hok.inj (m - 1) m (by omega) i2 e; omega
   obtain ⟨u, hu⟩ : ∃ u : Nat, at8 l (m - 1) = u := ⟨(at8 l (m - 1)).toNat, by omega⟩
   obtain ⟨v, hv⟩ : ∃ v : Nat, at8 l m = v := ⟨(at8 l m).toNat, by omega⟩
   have hu8 : u < 8 := by omega
   have hv8 : v < 8 := by omega
   have huv : u ≠ v := by omega
   have hsets := stepT_sets l tb x m u v hm2 hu hv hok.tlen hu8 hv8 huv
   rw [hsets] at hst
   obtain ⟨s1, s2⟩ := hok.small v u hv8 hu8
   obtain ⟨s3, s4⟩ := hok.small u v hu8 hv8
   rw [tget_le] at s1 s2 s3 s4
   have K1 := Lib.hid (fun W => crossed_any l O1.out.len x m i1 (by omega) hm (by omega) (by omega) W)
   rw [hu, hv] at K1
   have hc1 := cnt_or x
   have K2 := Lib.hid (fun W => count_any x W)
   obtain ⟨c, hcc⟩ : ∃ c, c = cnt x := ⟨_, rfl⟩
   rw [← hcc] at hst hc1 K2
   have c1 := T1.out.cell (v * 8 + u) (by rw [hok.tlen]; omega)
   have c2 := T1.out.cell (u * 8 + v) (by rw [hok.tlen]; omega)
   obtain ⟨y, hy⟩ : ∃ y, y = at8 tb (v * 8 + u) := ⟨_, rfl⟩
   obtain ⟨z, hz⟩ : ∃ z, z = at8 tb (u * 8 + v) := ⟨_, rfl⟩
   have CY := Lib.hid hy.symm
   rw [← hy] at c1 s1 s2 hst
   have CZ := Lib.hid hz.symm
   rw [← hz] at c2 s3 s4 hst
   have C1 := Lib.hid c1
   have C2 := Lib.hid c2
   have HST := Lib.hid hst
   have ey : IntKind.i64.wrap (y + c) = y + c := IntWalk.i64_in _ (by omega)
   have ez : IntKind.i64.wrap (z + c) = z + c := IntWalk.i64_in _ (by omega)
   have EY := Lib.hid ey
   have EZ := Lib.hid ez
   have HOK := Lib.hid hok
   clear hy hz hcc c1 c2 hst hsets hu hv hm hm2 hok hne v0 v8 u0 u8 s1 s2 s3 s4 ey ez
   obtain ⟨⟨c0, c1, c2, c3⟩, c4, c5, c6, c7⟩ := O1.out.all
   have zg := O1.out.lt
   go_wp2_with fail
   refine (K1.out _).mono ?_
   rintro e w3 ⟨rfl, hb3⟩
   have O3 := Lib.hid (O1.out.below hb3)
   have T3 := Lib.hid (T1.out.below hb3)
   have HB3 := Lib.hid (HB.out.trans (hb3.mono (by omega)))
   have z3 := hb3.size
   clear hb3 c0 c1 c2 c3 c4 c5 c6 c7
   have zl := T3.out.lt
   have zo := O3.out.lt
   have hnq2 : ¬ (v * 8 + u = u * 8 + v) := by omega
   go_upto_region 8 with fail
   have z3g : w2.heap.size < w3.heap.size := zo
   have U3 := T3
   have V3 := O3
   have W3 := HB3
   replace T3 := Lib.hid (T3.out.alloc (.cells #[.int .i64 (at8 (swapL l m) 0), .int .i64 (at8 (swapL l m) 1), .int .i64 (at8 (swapL l m) 2), .int .i64 (at8 (swapL l m) 3), .int .i64 (at8 (swapL l m) 4), .int .i64 (at8 (swapL l m) 5), .int .i64 (at8 (swapL l m) 6), .int .i64 (at8 (swapL l m) 7)] 98))
   go_cut [] from 27 to 36 (fun wx => Blk wx (w.heap.size + 1 + 1) 70 (tb.set (v * 8 + u) (y + c)) ∧ Row8 wx w2.heap.size .i64 l ∧ Row8 wx w3.heap.size .i64 (swapL l m) ∧ Below (w.heap.size + 1 + 1) w2 wx)
   case first =>
    have c1' := (T3.out.cell (v * 8 + u) (by rw [HOK.out.tlen]; omega))
    rw [CY.out] at c1'
    have f1 := T3.out.free (v * 8 + u)
    have ey := EY.out
    go_region_with (go_at_call 103; refine (K2.out _).mono ?_; rintro e w' ⟨rfl, rfl⟩)
    all_goals
     go_wp2_with fail
     go_meet
     exact ⟨(U3.out.store (v * 8 + u) (y + c)).alloc _, ((V3.out.setCell (p := ⟨w.heap.size + 1 + 1, v * 8 + u, none⟩) (by show w.heap.size + 1 + 1 ≠ w2.heap.size; omega) _).alloc _).drew,
      (Row8.place _ .i64 (swapL l m) 98 w3.heap.size (by simp [World.setCell]) (by rw [swapL_len]; exact V3.out.len)).drew,
      ((W3.out.setCell (p := ⟨w.heap.size + 1 + 1, v * 8 + u, none⟩) (Nat.le_refl _) _).alloc (by simp [World.setCell]; omega) _).drew⟩
   case rest =>
    obtain ⟨t1, t2, t3, t4⟩ := hcut
    obtain ⟨wp, hwp⟩ : ∃ x, x = wc := ⟨_, rfl⟩; subst hwp
    clear U3 V3 W3 T3
    have U3 := Lib.hid t1
    have V3 := Lib.hid t2
    have N3 := Lib.hid t3
    have W3 := Lib.hid t4
    clear t1 t2 t3 t4
    have zl2 := U3.out.lt
    have zo2 := V3.out.lt
    have zn2 := N3.out.lt
    go_upto_region 9 with fail
    go_cut [] from 37 to 46 (fun wx => Blk wx (w.heap.size + 1 + 1) 70 ((tb.set (v * 8 + u) (y + c)).set (u * 8 + v) (z + c)) ∧ Row8 wx w2.heap.size .i64 l ∧ Row8 wx w3.heap.size .i64 (swapL l m) ∧ Below (w.heap.size + 1 + 1) w2 wx)
    case first =>
     have c2' := (U3.out.cell (u * 8 + v) (by rw [List.length_set, HOK.out.tlen]; omega))
     rw [at8_set _ _ _ _ (by rw [HOK.out.tlen]; omega), if_neg hnq2, CZ.out] at c2'
     have f2 := U3.out.free (u * 8 + v)
     have ez := EZ.out
     go_region_with (go_at_call 103; refine (K2.out _).mono ?_; rintro e w' ⟨rfl, rfl⟩)
     all_goals
      go_wp2_with fail
      go_meet
      exact ⟨U3.out.store (u * 8 + v) (z + c), (V3.out.setCell (p := ⟨w.heap.size + 1 + 1, u * 8 + v, none⟩) (by show w.heap.size + 1 + 1 ≠ w2.heap.size; omega) _).drew,
       (N3.out.setCell (p := ⟨w.heap.size + 1 + 1, u * 8 + v, none⟩) (by show w.heap.size + 1 + 1 ≠ w3.heap.size; omega) _).drew, (W3.out.setCell (p := ⟨w.heap.size + 1 + 1, u * 8 + v, none⟩) (Nat.le_refl _) _).drew⟩
    case rest =>
     obtain ⟨t1, t2, t3, t4⟩ := hcut
     obtain ⟨wq, hwq⟩ : ∃ x, x = wc := ⟨_, rfl⟩; subst hwq
     obtain ⟨⟨c0, c1, c2, c3⟩, c4, c5, c6, c7⟩ := t3.all
     obtain ⟨⟨d0, d1, d2, d3⟩, d4, d5, d6, d7⟩ := t2.all
     obtain ⟨⟨f0, f1, f2, f3⟩, f4, f5, f6, f7⟩ := t2.frees
     have U4 := Lib.hid t1
     have V4 := Lib.hid t2
     have W4 := Lib.hid t4
     have zv := t2.lt
     have zn := t3.lt
     clear t1 t2 t3 t4
     go_wp2
     go_roundw
     case rel =>
      refine ⟨j + 1, by omega, by go_num, ?_, ?_, ?_⟩
      ·rw [HST.out]
       exact blk_far8 U4.out w2.heap.size (by omega) _ _ _ _ _ _ _ _
      ·rw [HST.out]
       exact V4.out.fill (swapL l m) (by rw [swapL_len]; exact V4.out.len)
      ·exact below_fill8 W4.out _ (by omega) _ _ _ _ _ _ _ _
     case measure => simp [intOf]; omega
  ·have hjn : j = n := by omega
   have hu : xs.take j = xs := List.take_of_length_le (by rw [HL.out, hjn]; exact Nat.le_refl _)
   rw [hu] at T1
   have tlen : (runT xs).2.length = 64 := (runT_ok xs HX.out).tlen
   have HK := Lib.hid hjn
   clear hjn hu
   have T2 := Lib.hid (T0.out.heap (HB.out.block _ (by omega)))
   rename (∀ (a : Act) (w : World), Code.wp _ _ _ a w → _) => tl
   have TL := Lib.hid tl
   have TN := Lib.hid tlen
   clear tl tlen
   go_wp2
   refine TL.out _ _ ?_
   refine wp_seq ?_
   refine wp_region_lit ?_
   refine wpList_load_blk rfl 70 _ rfl (w.heap.size + 1 + 1) rfl T1.out (.array 8 54) (by kernel_rfl) rfl (by rw [TN.out]; kernel_rfl) ?_
   refine wpList_store_blk rfl 70 _ _ rfl (w.heap.size + 1) rfl rfl T2.out (by rw [TN.out]; rfl) (by kernel_rfl) ?_
   intro hblk
   have HBK := Lib.hid hblk
   clear hblk
   go_wp2
   have hld := HBK.out.load (P := Try.prog) 70 (.array 8 54) (by kernel_rfl) rfl (by rw [TN.out]; kernel_rfl)
   refine bodyPost_ret (v := .agg (cells (runT xs).2)) ?_ rfl ⟨rfl, below_setRow (BB.out.trans (HB.out.mono (by omega))) (by omega) _⟩
   simp only [results, Try.results65]
   simp [asAddr, Act.put, hld]

end Go.Proofs.Ytehcbamfendbaaa
