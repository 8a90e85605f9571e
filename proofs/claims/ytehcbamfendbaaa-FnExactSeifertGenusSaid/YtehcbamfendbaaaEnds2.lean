/- Where the strands end: the program's answer. -/
import Derived.Test.YtehcbamfendbaaaEnds
import Derived.Test.YtehcbamfendbaaaCross
namespace Go.Proofs.Ytehcbamfendbaaa
open Go.RowKit Go.ChangeShapes

theorem idx_cnt (x : Int) : x * cnt x = idxN x := by
  rw [idx_eq]
  unfold idxN
  split <;> omega

/-- A row of eight numbers, cut to its first k. -/
theorem slice_order (g k : Nat) (h : k ≤ 8) (w : World) :
    Sem.run Try.prog (Instr.sliceAt 98 (.pointer (some ⟨g, 0, none⟩)) none (some (.int .i64 (k : Int))) none) w = .ok (.slice (some ⟨g, 0, none⟩) k 8) w := by
  have hl : Try.prog.arrayLen 98 = 8 := by kernel_rfl
  have hz : (sizeOf (Try.prog.elem 98)).run Try.prog w = .ok 1 w := by kernel_rfl
  have ht : Try.prog.underlying 98 = some (.array (Try.prog.arrayLen 98) (Try.prog.elem 98)) := by kernel_rfl
  refine (run_sliceAt_array_h w _ _ ht .i64 k (by omega) (by rw [hl]; omega)).trans ?_
  rw [hz, hl]
  simp [slicedAt, Result.andThen, Addr.add]

set_option maxHeartbeats 4000000 in
theorem implEnds_any {s : Int} {a : Option Addr} {n cap : Nat} {xs : List Int} {w : World} {fxs : List Int} {fc : Int} (hr : Reads w a n xs) (_hf : Fits xs) (hn : n ≤ 1048576) (hM : mEnds s xs = (fxs, fc)) :
    Calls Try.prog 56 #[.agg #[.int .i64 s, .slice a n cap]] w (RetInts w fxs fc) := by
  obtain ⟨i0, hi, hz0, hz1, hz2⟩ := info_parts infoInt
  have HL := Lib.hid hr.len
  have R := Lib.hid hr; clear hr
  by_cases hbr : isBraid s xs = true
  · simp only [mEnds, if_pos hbr, Prod.mk.injEq] at hM
    obtain ⟨rfl, rfl⟩ := hM
    obtain ⟨k, rfl, k1, k8, hx⟩ := braid_nat hbr
    rw [Int.toNat_natCast]
    have HX := Lib.hid hx
    have HOK := Lib.hid (run8_ok k order8 xs (order8_ok k k8) (by exact k8) hx)
    clear hx
    go_enter Try.func56, Try.ntmps56
    go_wp2_with fail
    refine (implIsBraid_any _ _ _ _ xs _ (R.out.alloc _) hn).mono ?_
    rintro e w1 ⟨rfl, hb⟩
    have A1 := Lib.hid ((At2.new w (.int .i64 k) (.slice a n cap) 29).below hb)
    obtain ⟨q1, q2, q3, q4, q5⟩ := A1.out
    have R1 := Lib.hid ((R.out.alloc (.cells #[.int .i64 k, .slice a n cap] 29)).below hb)
    have BB := Lib.hid (below_go (below1 w _) hb (by simp)); clear hb
    go_wp2_with fail
    refine (firstOrder_any _).mono ?_
    rintro e w2 ⟨rfl, hb⟩
    replace BB := Lib.hid (below_go BB.out hb (by omega))
    replace A1 := Lib.hid (A1.out.below hb)
    replace R1 := Lib.hid (R1.out.below hb)
    clear hb
    clear q1 q2 q3 q4 q5
    have O1 := Lib.hid (Row8.place w2 .i64 order8 98 w2.heap.size rfl rfl)
    have B1 := Lib.hid (below1 w2 (.cells #[.int .i64 (at8 order8 0), .int .i64 (at8 order8 1), .int .i64 (at8 order8 2), .int .i64 (at8 order8 3), .int .i64 (at8 order8 4), .int .i64 (at8 order8 5), .int .i64 (at8 order8 6), .int .i64 (at8 order8 7)] 98))
    have z2 := BB.out.size
    obtain ⟨q1, q2, q3, q4, q5⟩ := A1.out
    go_wp2
    clear q1 q2 q3 q4 q5
    go_loopw [17] (fun i wr => ∃ j : Nat, j ≤ n ∧ i = .int .i64 j ∧ Row8 wr w2.heap.size .i64 (run8 order8 (xs.take j)) ∧ Below w2.heap.size w2 wr) (fun i _ => n - (intOf i).toNat)
    case atStart => exact ⟨0, Nat.zero_le _, rfl, O1.out, B1.out⟩
    case round =>
      obtain ⟨j, hj, rfl, hrow, hbl⟩ := hrel
      clear O1 B1
      have HROW := Lib.hid hrow; clear hrow
      have HB := Lib.hid hbl; clear hbl
      have zr := HB.out.size
      by_cases hlt : j < n
      · obtain ⟨b, off, rfl, hb, hc⟩ := R1.out.cells (by omega)
        have h1 := (HB.out.cell (p := ⟨b, off + j, none⟩) hb).trans (hc j hlt)
        have hst := run8_step order8 xs j (by rw [HL.out]; exact hlt)
        obtain ⟨x0, x1, x2⟩ := HX.out _ (getD_mem xs j (by rw [HL.out]; exact hlt))
        obtain ⟨x, hx⟩ : ∃ x, x = xs.getD j 0 := ⟨_, rfl⟩
        rw [← hx] at h1 hst x0 x1 x2
        clear hx hc
        obtain ⟨i1, i2, _⟩ := idx_bounds k x x0 x1 x2
        have hm := idx_cnt x
        obtain ⟨m, hm2⟩ : ∃ m, m = idxN x := ⟨_, rfl⟩
        rw [← hm2] at hst i1 i2 hm
        have HST := Lib.hid hst
        have HM := Lib.hid hm
        clear hm2 hst hm
        obtain ⟨l, hl⟩ : ∃ l, l = run8 order8 (xs.take j) := ⟨_, rfl⟩
        rw [← hl] at HROW HST
        clear hl
        have K1 := Lib.hid (fun W => crossed_any l HROW.out.len x m i1 (by omega) HM.out (by omega) (by omega) W)
        obtain ⟨⟨c0, c1, c2, c3⟩, c4, c5, c6, c7⟩ := HROW.out.all
        have zg := HROW.out.lt
        go_wp2_with fail
        refine (K1.out _).mono ?_
        rintro e w3 ⟨rfl, hb3⟩
        have HROW3 := Lib.hid (HROW.out.below hb3)
        have HB3 := Lib.hid (HB.out.trans (hb3.mono zr))
        clear hb3 c0 c1 c2 c3 c4 c5 c6 c7
        obtain ⟨⟨d0, d1, d2, d3⟩, d4, d5, d6, d7⟩ := HROW3.out.all
        obtain ⟨⟨f0, f1, f2, f3⟩, f4, f5, f6, f7⟩ := HROW3.out.frees
        have zg3 := HROW3.out.lt
        go_wp2
        go_roundw
        case rel =>
          refine ⟨j + 1, by omega, by go_num, ?_, ?_⟩
          · rw [HST.out]
            exact HROW3.out.fill (swapL l m) (by rw [swapL_len]; exact HROW3.out.len)
          · exact below_fill8 HB3.out _ (Nat.le_refl _) _ _ _ _ _ _ _ _
        case measure => simp [intOf]; omega
      · have hjn : j = n := by omega
        have hu : xs.take j = xs := List.take_of_length_le (by rw [HL.out, hjn]; exact Nat.le_refl _)
        rw [hu] at HROW
        have HA := Lib.hid (A1.out.heap HB.out.size (HB.out.block _ A1.out.1))
        obtain ⟨q1, q2, q3, q4, q5⟩ := HA.out
        have HK := Lib.hid hjn
        clear hjn hu
        obtain ⟨l, hl⟩ : ∃ l, l = run8 order8 xs := ⟨_, rfl⟩
        rw [← hl] at HROW HOK
        have HLL := Lib.hid hl
        clear hl
        go_wp2_with (at_make; refine wpList_make_full wr rfl _ _ 22 rfl wr.heap.size 2 i0 (.int .i64 0) 1 Try.underlying22 hi hz0 hz1 .i64 .i64 _ _ k rfl rfl (by omega) (by omega) (by rw [hz2]; omega) (by unfold maxLen; omega) (by simp) ?_)
        intro w4 hown hgrow
        have hown1 := own_made hown
        have hb4 := Below.ofGrown hgrow
        clear hown hgrow q1 q2 q3 q4 q5
        have O4 := Lib.hid (HROW.out.below hb4)
        have B4 := Lib.hid (HB.out.trans (hb4.mono zr))
        have zz := hb4.size
        obtain ⟨q1, q2, q3, q4, q5⟩ := HA.out.below hb4
        clear hb4
        have hsl := slice_order w2.heap.size k k8
        go_wp2
        clear hsl q1 q2 q3 q4 q5
        have zt : w2.heap.size < wr.heap.size := HROW.out.lt
        have OWN0 := Lib.hid hown1
        clear hown1
        go_loopw [36] (fun i wt => ∃ t : Nat, t ≤ k ∧ i = .int .i64 t ∧ Own wr.heap.size wt (some ⟨wr.heap.size, 0, none⟩) k k (ends k l t) ∧ Below wr.heap.size w4 wt) (fun i _ => k - (intOf i).toNat)
        case atStart => exact ⟨0, Nat.zero_le _, rfl, OWN0.out, Below.refl _ _⟩
        case round =>
          obtain ⟨t, ht, rfl, ho, hbt⟩ := hrel
          clear OWN0
          have O5 := Lib.hid (O4.out.heap hbt.size (hbt.block _ zt))
          have B5 := Lib.hid (B4.out.trans (hbt.mono zr))
          by_cases hlt3 : t < k
          · obtain ⟨o1, o2⟩ := HOK.out t hlt3
            have st := ends_step k l t
            obtain ⟨v, hv⟩ : ∃ v : Nat, at8 l t = (v : Int) := ⟨(at8 l t).toNat, by omega⟩
            have c5 := O5.out.cell t (by omega)
            rw [hv] at c5 o1 o2 st
            rw [Int.toNat_natCast] at st
            have HST := Lib.hid st
            clear hv st
            have c1 := ho.cellAt v (by omega)
            have c2 := ho.frozenAt v
            obtain ⟨y, hy⟩ : ∃ y, y = (ends k l t).getD v 0 := ⟨_, rfl⟩
            rw [← hy] at c1
            clear hy
            have HO := Lib.hid ho; clear ho
            have HBT := Lib.hid hbt; clear hbt
            go_wp2
            go_roundw
            case rel =>
              have hs2 := HO.out.store v (t : Int)
              rw [← HST.out] at hs2
              exact ⟨t + 1, by omega, by go_num, hs2.1, HBT.out.setCell (by simp) _⟩
            case measure => simp [intOf]; omega
          · have htk : t = k := by omega
            have HK2 := Lib.hid htk
            clear htk
            have HO := Lib.hid ho; clear ho
            go_wp2
            go_ret2
            rw [← HLL.out]
            rw [HK2.out] at HO
            exact ⟨_, k, k, rfl, by omega, HO.out.mono (by omega), below_go BB.out B5.out z2⟩
  · have hb0 : isBraid s xs = false := by simpa using hbr
    simp only [mEnds, if_neg hbr, Prod.mk.injEq] at hM
    obtain ⟨rfl, rfl⟩ := hM
    clear hbr
    go_enter Try.func56, Try.ntmps56
    go_wp2_with (go_at_call 67; refine (implIsBraid_any _ _ _ _ xs _ (R.out.alloc _) hn).mono ?_; rintro e w1 ⟨rfl, hb⟩)
    go_ret2
    exact ⟨none, 0, 0, rfl, by omega, Own.nil _ _, below_go (below1 w _) hb (by simp)⟩

end Go.Proofs.Ytehcbamfendbaaa
