/- The free form of a braid: the model's answer and the program's. -/
import Derived.Test.YtmiihjhhbjpalaaFree
import Derived.Deep.RegionHeld3
namespace Go.Proofs.Ytmiihjhhbjpalaa
open Go.RowKit Go.ChangeShapes

set_option maxHeartbeats 1000000 in
theorem specFree_any {s : Int} {a : Option Addr} {n cap : Nat} {xs : List Int} {w : World} {fs : Int} {fxs : List Int} {fc : Int} (hr : Reads w a n xs) (hf : Fits xs) (hn : n ≤ 1048576) (hM : mFree s xs = (fs, fxs, fc)) :
    Calls Try.prog 36 #[.agg #[.int .i64 s, .slice a n cap]] w (RetBraid w fs fxs fc) := by
  have R := Lib.hid hr; clear hr
  have HF := Lib.hid hf; clear hf
  by_cases hbr : isBraid s xs = true
  · simp only [mFree, if_pos hbr, Prod.mk.injEq] at hM
    obtain ⟨rfl, rfl, rfl⟩ := hM
    have HSM := Lib.hid (small_of_isBraid _ _ hbr)
    have fl : (free xs).length ≤ 1048576 := by have := free_len xs; have := len_of_isBraid _ _ hbr; omega
    go_enter Try.func36, Try.ntmps36
    replace R := Lib.hid (R.out.alloc (.cells #[.int .i64 s, .slice a n cap] 27))
    have A := Lib.hid (At2.new w (.int .i64 s) (.slice a n cap) 27)
    have BB := Lib.hid (below1 w (.cells #[.int .i64 s, .slice a n cap] 27))
    replace R := Lib.hid (R.out.alloc (.cells #[.int .i64 0, .slice none 0 0] 27))
    replace A := Lib.hid (A.out.alloc (.cells #[.int .i64 0, .slice none 0 0] 27))
    have Z := Lib.hid (At2.place (w.alloc (.cells #[.int .i64 s, .slice a n cap] 27)) (.int .i64 0) (.slice none 0 0) 27 (w.heap.size + 1) (by simp))
    replace BB := Lib.hid (BB.out.alloc (by first | omega | (simp; done) | (simp; omega)) (.cells #[.int .i64 0, .slice none 0 0] 27))
    go_wp2_with fail
    refine (l01Is_any _ _ _ _ xs _ R.out HF.out hn).mono ?_
    rintro e w1 ⟨rfl, hb⟩
    replace R := Lib.hid (R.out.below hb)
    replace A := Lib.hid (A.out.below hb)
    replace Z := Lib.hid (Z.out.below hb)
    have z1 : w.heap.size + 2 ≤ w1.heap.size := by have := hb.size; simp at this; omega
    replace BB := Lib.hid (below_go BB.out hb (by first | omega | (simp; done) | (simp; omega)))
    clear hb
    obtain ⟨qA1, qA2, qA3, qA4, qA5⟩ := A.out
    obtain ⟨qZ1, qZ2, qZ3, qZ4, qZ5⟩ := Z.out
    go_wp2
    go_region_held3 (fun w' => w'.cell? ⟨w.heap.size, 0, none⟩ = some (.int .i64 s) ∧ w'.cell? ⟨w.heap.size, 1, none⟩ = some (.slice a n cap)) (first | exact ⟨qA2, qA3⟩ | exact ⟨rA2, rA3⟩ | go_keep)
      (first
        | (go_at_call 67; refine (l01Free_any _ _ _ _ _ R.out.drew HSM.out hn).mono ?_; rintro e w2 ⟨a2, c2, rfl, ho, hb⟩; obtain ⟨rA1, rA2, rA3, rA4, rA5⟩ := A.out.drew.below hb; obtain ⟨rZ1, rZ2, rZ3, rZ4, rZ5⟩ := Z.out.drew.below hb))
    go_wp2
    have z2 : w1.heap.size ≤ w2.heap.size := hb.size
    obtain ⟨_, e2, e3, _, _⟩ := (Z.out.drew.below hb).fill (.int .i64 s) (.slice a2 (free xs).length c2)
    refine bodyPost_ret (v := .tuple #[.agg #[.int .i64 s, .slice a2 (free xs).length c2], .int .i64 0]) (by simp [results, Try.results36, go_sem, e2, e3]) rfl ⟨a2, _, c2, rfl, fl, ?_, ?_⟩
    · exact ((ho.setCell_below (by show _ < w1.heap.size; simp; omega) _).setCell_below (by show _ < w1.heap.size; simp; omega) _).mono (by show _ ≤ w1.heap.size; omega)
    · exact ((below_go BB.out.drew hb (by show _ ≤ w1.heap.size; omega)).setCell (p := ⟨w.heap.size + 1, 0, none⟩) (by simp) _).setCell (p := ⟨w.heap.size + 1, 1, none⟩) (by simp) _
  · have hb0 : isBraid s xs = false := by simpa using hbr
    simp only [mFree, if_neg hbr, Prod.mk.injEq] at hM
    obtain ⟨rfl, rfl, rfl⟩ := hM
    clear hbr
    go_enter Try.func36, Try.ntmps36
    replace R := Lib.hid (R.out.alloc (.cells #[.int .i64 s, .slice a n cap] 27))
    have A := Lib.hid (At2.new w (.int .i64 s) (.slice a n cap) 27)
    have BB := Lib.hid (below1 w (.cells #[.int .i64 s, .slice a n cap] 27))
    replace R := Lib.hid (R.out.alloc (.cells #[.int .i64 0, .slice none 0 0] 27))
    replace A := Lib.hid (A.out.alloc (.cells #[.int .i64 0, .slice none 0 0] 27))
    have Z := Lib.hid (At2.place (w.alloc (.cells #[.int .i64 s, .slice a n cap] 27)) (.int .i64 0) (.slice none 0 0) 27 (w.heap.size + 1) (by simp))
    replace BB := Lib.hid (BB.out.alloc (by first | omega | (simp; done) | (simp; omega)) (.cells #[.int .i64 0, .slice none 0 0] 27))
    go_wp2_with fail
    refine (l01Is_any _ _ _ _ xs _ R.out HF.out hn).mono ?_
    rintro e w1 ⟨rfl, hb⟩
    replace R := Lib.hid (R.out.below hb)
    replace A := Lib.hid (A.out.below hb)
    replace Z := Lib.hid (Z.out.below hb)
    have z1 : w.heap.size + 2 ≤ w1.heap.size := by have := hb.size; simp at this; omega
    replace BB := Lib.hid (below_go BB.out hb (by first | omega | (simp; done) | (simp; omega)))
    clear hb
    obtain ⟨qA1, qA2, qA3, qA4, qA5⟩ := A.out
    obtain ⟨qZ1, qZ2, qZ3, qZ4, qZ5⟩ := Z.out
    go_wp2
    obtain ⟨_, e2, e3, _, _⟩ := Z.out.fill (.int .i64 0) (.slice none 0 0)
    refine bodyPost_ret (v := .tuple #[.agg #[.int .i64 0, .slice none 0 0], .int .i64 1]) (by simp [results, Try.results36, go_sem, e2, e3]) rfl ⟨none, 0, 0, rfl, Nat.zero_le _, Own.nil _ _, ?_⟩
    exact (BB.out.setCell (p := ⟨w.heap.size + 1, 0, none⟩) (by simp) _).setCell (p := ⟨w.heap.size + 1, 1, none⟩) (by simp) _

set_option maxHeartbeats 1000000 in
theorem implFree_any {s : Int} {a : Option Addr} {n cap : Nat} {xs : List Int} {w : World} {fs : Int} {fxs : List Int} {fc : Int} (hr : Reads w a n xs) (hf : Fits xs) (hn : n ≤ 1048576) (hM : mFree s xs = (fs, fxs, fc)) :
    Calls Try.prog 37 #[.agg #[.int .i64 s, .slice a n cap]] w (RetBraid w fs fxs fc) := by
  have R := Lib.hid hr; clear hr
  have HF := Lib.hid hf; clear hf
  obtain ⟨i0, hi, hz0, hz1, hz2⟩ := info_parts infoInt
  by_cases hbr : isBraid s xs = true
  · have HSM := Lib.hid (small_of_isBraid _ _ hbr)
    have HL := Lib.hid R.out.len
    have hl200 := len_of_isBraid _ _ hbr
    have hn200 : n ≤ 200 := by have := HL.out; omega
    clear hl200
    simp only [mFree, if_pos hbr, Prod.mk.injEq] at hM
    obtain ⟨rfl, rfl, rfl⟩ := hM
    rcases Nat.eq_zero_or_pos n with h0 | h0
    · subst h0
      go_enter Try.func37, Try.ntmps37
      replace R := Lib.hid (R.out.alloc (.cells #[.int .i64 s, .slice a 0 cap] 27))
      have A := Lib.hid (At2.new w (.int .i64 s) (.slice a 0 cap) 27)
      have BB := Lib.hid (below1 w (.cells #[.int .i64 s, .slice a 0 cap] 27))
      replace R := Lib.hid (R.out.alloc (.cells #[.int .i64 0, .slice none 0 0] 27))
      replace A := Lib.hid (A.out.alloc (.cells #[.int .i64 0, .slice none 0 0] 27))
      have Z := Lib.hid (At2.place (w.alloc (.cells #[.int .i64 s, .slice a 0 cap] 27)) (.int .i64 0) (.slice none 0 0) 27 (w.heap.size + 1) (by simp))
      replace BB := Lib.hid (BB.out.alloc (by first | omega | (simp; done) | (simp; omega)) (.cells #[.int .i64 0, .slice none 0 0] 27))
      go_wp2_with fail
      refine (implIsBraid_any _ _ _ _ xs _ R.out hn).mono ?_
      rintro e w1 ⟨rfl, hb⟩
      replace R := Lib.hid (R.out.below hb)
      replace A := Lib.hid (A.out.below hb)
      replace Z := Lib.hid (Z.out.below hb)
      have z1 : w.heap.size + 2 ≤ w1.heap.size := by have := hb.size; simp at this; omega
      replace BB := Lib.hid (below_go BB.out hb (by first | omega | (simp; done) | (simp; omega)))
      clear hb
      obtain ⟨qA1, qA2, qA3, qA4, qA5⟩ := A.out
      obtain ⟨qZ1, qZ2, qZ3, qZ4, qZ5⟩ := Z.out
      have hsz1 : w.heap.size + 2 ≤ w1.heap.size := z1
      go_wp2_with (at_make; refine wpList_make_own w1 rfl _ _ 22 rfl w1.heap.size 2 i0 (.int .i64 0) 1 Try.underlying22 hi hz0 hz1 .i64 .i64 _ 0 rfl rfl (by first | rfl | omega) (by rw [hz2]; omega) (by unfold maxLen; omega) (Nat.le_refl _) ?_)
      intro w2 hown hgrow
      have hown1 : Own w1.heap.size w2 (some ⟨w1.heap.size, 0, none⟩) 0 0 [] := hown
      have hb := Below.ofGrown hgrow
      clear hown hgrow
      clear qA1 qA2 qA3 qA4 qA5 qZ1 qZ2 qZ3 qZ4 qZ5
      replace R := Lib.hid (R.out.below hb)
      replace A := Lib.hid (A.out.below hb)
      replace Z := Lib.hid (Z.out.below hb)
      have z2 : w1.heap.size ≤ w2.heap.size := hb.size
      replace BB := Lib.hid (below_go BB.out hb (by omega))
      clear hb
      obtain ⟨qA1, qA2, qA3, qA4, qA5⟩ := A.out
      obtain ⟨qZ1, qZ2, qZ3, qZ4, qZ5⟩ := Z.out
      go_wp2
      refine wp_loop_rounds 1 ?_; rw [rounds_succ]
      go_wp2
      obtain ⟨_, e2, e3, _, _⟩ := Z.out.fill (.int .i64 s) (.slice (some ⟨w1.heap.size, 0, none⟩) 0 0)
      have hx : xs = [] := List.eq_nil_of_length_eq_zero HL.out
      rw [hx]
      refine bodyPost_ret (v := .tuple #[.agg #[.int .i64 s, .slice (some ⟨w1.heap.size, 0, none⟩) 0 0], .int .i64 0]) (by simp [results, Try.results37, go_sem, e2, e3]) rfl ⟨_, 0, 0, rfl, Nat.zero_le _, ?_, ?_⟩
      · exact ((hown1.setCell_below (by simp; omega) _).setCell_below (by simp; omega) _).mono (by omega)
      · exact (BB.out.setCell (p := ⟨w.heap.size + 1, 0, none⟩) (by simp) _).setCell (p := ⟨w.heap.size + 1, 1, none⟩) (by simp) _
    · obtain ⟨b, off, rfl, hb0, hc⟩ := R.out.cells h0
      have HC := Lib.hid hc; clear hc
      go_enter Try.func37, Try.ntmps37
      replace R := Lib.hid (R.out.alloc (.cells #[.int .i64 s, .slice (some ⟨b, off, none⟩) n cap] 27))
      have A := Lib.hid (At2.new w (.int .i64 s) (.slice (some ⟨b, off, none⟩) n cap) 27)
      have BB := Lib.hid (below1 w (.cells #[.int .i64 s, .slice (some ⟨b, off, none⟩) n cap] 27))
      replace R := Lib.hid (R.out.alloc (.cells #[.int .i64 0, .slice none 0 0] 27))
      replace A := Lib.hid (A.out.alloc (.cells #[.int .i64 0, .slice none 0 0] 27))
      have Z := Lib.hid (At2.place (w.alloc (.cells #[.int .i64 s, .slice (some ⟨b, off, none⟩) n cap] 27)) (.int .i64 0) (.slice none 0 0) 27 (w.heap.size + 1) (by simp))
      replace BB := Lib.hid (BB.out.alloc (by first | omega | (simp; done) | (simp; omega)) (.cells #[.int .i64 0, .slice none 0 0] 27))
      go_wp2_with fail
      refine (implIsBraid_any _ _ _ _ xs _ R.out hn).mono ?_
      rintro e w1 ⟨rfl, hb⟩
      replace R := Lib.hid (R.out.below hb)
      replace A := Lib.hid (A.out.below hb)
      replace Z := Lib.hid (Z.out.below hb)
      have z1 : w.heap.size + 2 ≤ w1.heap.size := by have := hb.size; simp at this; omega
      replace BB := Lib.hid (below_go BB.out hb (by first | omega | (simp; done) | (simp; omega)))
      clear hb
      obtain ⟨qA1, qA2, qA3, qA4, qA5⟩ := A.out
      obtain ⟨qZ1, qZ2, qZ3, qZ4, qZ5⟩ := Z.out
      have hsz1 : w.heap.size + 2 ≤ w1.heap.size := z1
      go_wp2_with (at_make; refine wpList_make_own w1 rfl _ _ 22 rfl w1.heap.size 2 i0 (.int .i64 0) 1 Try.underlying22 hi hz0 hz1 .i64 .i64 _ n rfl rfl (by first | rfl | omega) (by rw [hz2]; omega) (by unfold maxLen; omega) (Nat.le_refl _) ?_)
      intro w2 hown hgrow
      have hown1 : Own w1.heap.size w2 (some ⟨w1.heap.size, 0, none⟩) 0 n [] := hown
      have hb := Below.ofGrown hgrow
      clear hown hgrow
      clear qA1 qA2 qA3 qA4 qA5 qZ1 qZ2 qZ3 qZ4 qZ5
      replace R := Lib.hid (R.out.below hb)
      replace A := Lib.hid (A.out.below hb)
      replace Z := Lib.hid (Z.out.below hb)
      have z2 : w1.heap.size ≤ w2.heap.size := hb.size
      replace BB := Lib.hid (below_go BB.out hb (by omega))
      clear hb
      obtain ⟨qA1, qA2, qA3, qA4, qA5⟩ := A.out
      obtain ⟨qZ1, qZ2, qZ3, qZ4, qZ5⟩ := Z.out
      go_wp2
      have HA := A; have HZ := Z; have HBB := BB; clear A Z BB
      clear qA1 qA2 qA3 qA4 qA5 qZ1 qZ2 qZ3 qZ4 qZ5
      go_loopw [4, 19] (fun v i wr => ∃ k : Nat, k ≤ n ∧ i = .int .i64 k ∧ (∃ a m c, v = .slice a m c ∧ Own w1.heap.size wr a m c (free (xs.take k))) ∧ Below w1.heap.size w2 wr) (fun _ i _ => n - (intOf i).toNat)
      case atStart => exact ⟨0, Nat.zero_le _, rfl, ⟨_, _, _, rfl, hown1⟩, Below.refl _ _⟩
      case round =>
        obtain ⟨k, hk, rfl, ⟨av, m, cv, rfl, ho⟩, hbl⟩ := hrel
        clear hown1
        have hA := HA.out.heap hbl.size (hbl.block _ (by omega))
        have hZ := HZ.out.heap hbl.size (hbl.block _ (by omega))
        have HZ1 := Lib.hid hZ
        have HBr := Lib.hid (HBB.out.trans (hbl.mono (by omega)))
        obtain ⟨qA1, qA2, qA3, qA4, qA5⟩ := hA
        obtain ⟨qZ1, qZ2, qZ3, qZ4, qZ5⟩ := hZ
        by_cases hlt : k < n
        · have hm := HSM.out _ (getD_mem xs k (by rw [HL.out]; omega))
          have st := free_step xs k (by rw [HL.out]; omega)
          have fl := free_len (xs.take k)
          rw [List.length_take] at fl
          have mlen := ho.len
          obtain ⟨x, hx⟩ : ∃ x, x = xs.getD k 0 := ⟨_, rfl⟩
          have h1 : wr.cell? ⟨b, off + k, none⟩ = some (.int .i64 x) := by rw [hx]; exact (HBr.out.cell (by exact hb0)).trans (HC.out _ (by omega))
          rw [← hx] at hm st
          obtain ⟨l, hl⟩ : ∃ l, l = free (xs.take k) := ⟨_, rfl⟩
          rw [← hl] at st fl mlen ho
          have hmk : m ≤ 1048576 := by omega
          have HLn := Lib.hid mlen
          have HST := Lib.hid st; clear st fl mlen hx hl
          obtain ⟨hm1, hm2⟩ := hm
          have hzs : w2.heap.size ≤ wr.heap.size := hbl.size
          have HO := Lib.hid ho
          have HB := Lib.hid hbl; clear hbl
          have C1 := fun W => inverse_any x W hm1 hm2
          have K1 := Lib.hid C1; clear C1
          have g0 : 0 ≤ (k : Int) := by omega
          have g1 : (k : Int) < (n : Int) := by omega
          rcases Nat.eq_zero_or_pos m with hm0 | hm0
          · subst hm0
            clear ho
            have hnl : l = [] := List.eq_nil_of_length_eq_zero HLn.out
            have HNL := Lib.hid hnl; clear hnl
            go_wp2
            go_quiet ((go_at_call 57; exact Calls.quiet_of_same ((K1.out _).mono fun _ _ ⟨he, hw⟩ => ⟨he, hw.symm⟩)))
            have HOn : Hid (OwnV w1.heap.size (wr.drewN nq) (.slice av 0 cv) 0 l) := Lib.hid (HO.out.heap (fun _ _ => rfl))
            have HBn : Hid (Below w1.heap.size w2 (wr.drewN nq)) := Lib.hid (HB.out.trans (below_draws _ _ _))
            have hzn : w1.heap.size ≤ (wr.drewN nq).heap.size := by show _ ≤ wr.heap.size; omega
            clear h1 HO HB hzs qA1 qA2 qA3 qA4 qA5 qZ1 qZ2 qZ3 qZ4 qZ5 HZ1 HBr
            generalize wr.drewN nq = wd at *
            go_wp2_with (at_builtin; refine wpList_append_own _ rfl _ _ 22 rfl w1.heap.size 2 i0 (.int .i64 0) 1 8 Try.underlying22 hi hz0 hz1 hz2 rfl (by decide) _ _ _ rfl (World.ownsRow.alloc HOn.out _) ⟨wd.heap.size, 0, none⟩ 1 1 [.int .i64 x] rfl rfl (one_new wd x _) (one_cell _) (by unfold maxLen; omega) (by omega) (by simp; omega) ?_)
            intro v' w3 hown' hgrow _
            have ho' := OwnV.appended hown'
            have HB' := Lib.hid (HBn.out.trans (below_appended (Below.refl w1.heap.size wd) hzn HOn.out hgrow))
            clear hown' hgrow
            obtain ⟨av', cv', rfl, ho2⟩ := ho'.form
            have HO' := Lib.hid ho2; clear ho' ho2
            go_wp2
            go_roundw
            case rel =>
              refine ⟨k + 1, by omega, by go_num, ⟨_, _, _, rfl, ?_⟩, HB'.out⟩
              rw [HST.out, show freeStep l x = l ++ [x] from by rw [HNL.out]; rfl]
              exact HO'.out
            case measure => simp [intOf]; omega
          · obtain ⟨g, rfl, hg1, hg2⟩ := ho.block hm0
            have mcap := ho.cap_ge
            have c1 := ho.cellAt (m - 1) (by omega)
            have hlast := last_eq l m HLn.out hm0
            obtain ⟨y, hy⟩ : ∃ y, y = l.getD (m - 1) 0 := ⟨_, rfl⟩
            rw [← hy] at c1 hlast
            have HLA := Lib.hid hlast; clear hlast hy ho
            have j0 : 0 ≤ (m : Int) - 1 := by omega
            have j1 : (m : Int) - 1 < (m : Int) := by omega
            have j2 : ((m : Int) - 1).toNat = m - 1 := by omega
            have j4 : 1 ≤ (m : Int) := by omega
            by_cases hxy : y = -x
            · have t1 : (y == -x) = true := by simp [hxy]
              have HXY := Lib.hid hxy; clear hxy
              go_wp2
              go_quiet ((go_at_call 57; exact Calls.quiet_of_same ((K1.out _).mono fun _ _ ⟨he, hw⟩ => ⟨he, hw.symm⟩)))
              have HOn : Hid (Own w1.heap.size (wr.drewN nq) (some ⟨g, 0, none⟩) (m - 1) cv l.dropLast) := Lib.hid (Own.pop (HO.out.heap (fun _ _ => rfl)))
              have HBn : Hid (Below w1.heap.size w2 (wr.drewN nq)) := Lib.hid (HB.out.trans (below_draws _ _ _))
              go_wp2
              go_roundw
              case rel =>
                refine ⟨k + 1, by omega, by go_num, ⟨_, _, _, rfl, ?_⟩, HBn.out⟩
                rw [HST.out, show freeStep l x = l.dropLast from by unfold freeStep; rw [HLA.out, HXY.out, if_pos rfl]]
                exact HOn.out
              case measure => simp [intOf]; omega
            · have t1 : (y == -x) = false := by simp [hxy]
              have HXY := Lib.hid hxy; clear hxy
              go_wp2
              go_quiet ((go_at_call 57; exact Calls.quiet_of_same ((K1.out _).mono fun _ _ ⟨he, hw⟩ => ⟨he, hw.symm⟩)))
              have HOn : Hid (OwnV w1.heap.size (wr.drewN nq) (.slice (some ⟨g, 0, none⟩) m cv) m l) := Lib.hid (HO.out.heap (fun _ _ => rfl))
              have HBn : Hid (Below w1.heap.size w2 (wr.drewN nq)) := Lib.hid (HB.out.trans (below_draws _ _ _))
              have hzn : w1.heap.size ≤ (wr.drewN nq).heap.size := by show _ ≤ wr.heap.size; omega
              clear h1 c1 HO HB hzs qA1 qA2 qA3 qA4 qA5 qZ1 qZ2 qZ3 qZ4 qZ5 HZ1 HBr
              generalize wr.drewN nq = wd at *
              go_wp2_with (at_builtin; refine wpList_append_own _ rfl _ _ 22 rfl w1.heap.size 2 i0 (.int .i64 0) 1 8 Try.underlying22 hi hz0 hz1 hz2 rfl (by decide) _ _ _ rfl (World.ownsRow.alloc HOn.out _) ⟨wd.heap.size, 0, none⟩ 1 1 [.int .i64 x] rfl rfl (one_new wd x _) (one_cell _) (by unfold maxLen; omega) (by omega) (by simp; omega) ?_)
              intro v' w3 hown' hgrow _
              have ho' := OwnV.appended hown'
              have HB' := Lib.hid (HBn.out.trans (below_appended (Below.refl w1.heap.size wd) hzn HOn.out hgrow))
              clear hown' hgrow
              obtain ⟨av', cv', rfl, ho2⟩ := ho'.form
              have HO' := Lib.hid ho2; clear ho' ho2
              go_wp2
              go_roundw
              case rel =>
                refine ⟨k + 1, by omega, by go_num, ⟨_, _, _, rfl, ?_⟩, HB'.out⟩
                rw [HST.out, show freeStep l x = l ++ [x] from by unfold freeStep; rw [HLA.out, if_neg (fun e => HXY.out (Option.some.inj e))]]
                exact HO'.out
              case measure => simp [intOf]; omega
        · have hkn : k = n := by omega
          have HK := Lib.hid hkn; clear hkn
          go_wp2
          have hh := HL.out
          rw [HK.out, List.take_of_length_le (by omega)] at ho
          have ml := ho.len
          have fl := free_len xs
          obtain ⟨_, e2, e3, _, _⟩ := HZ1.out.fill (.int .i64 s) (.slice av m cv)
          refine bodyPost_ret (v := .tuple #[.agg #[.int .i64 s, .slice av m cv], .int .i64 0]) (by simp [results, Try.results37, go_sem, e2, e3]) rfl ⟨av, m, cv, rfl, by omega, ?_, ?_⟩
          · exact ((ho.setCell_below (by simp; omega) _).setCell_below (by simp; omega) _).mono (by omega)
          · exact (HBr.out.setCell (p := ⟨w.heap.size + 1, 0, none⟩) (by simp) _).setCell (p := ⟨w.heap.size + 1, 1, none⟩) (by simp) _
  · have hb0 : isBraid s xs = false := by simpa using hbr
    simp only [mFree, if_neg hbr, Prod.mk.injEq] at hM
    obtain ⟨rfl, rfl, rfl⟩ := hM
    clear hbr
    go_enter Try.func37, Try.ntmps37
    replace R := Lib.hid (R.out.alloc (.cells #[.int .i64 s, .slice a n cap] 27))
    have A := Lib.hid (At2.new w (.int .i64 s) (.slice a n cap) 27)
    have BB := Lib.hid (below1 w (.cells #[.int .i64 s, .slice a n cap] 27))
    replace R := Lib.hid (R.out.alloc (.cells #[.int .i64 0, .slice none 0 0] 27))
    replace A := Lib.hid (A.out.alloc (.cells #[.int .i64 0, .slice none 0 0] 27))
    have Z := Lib.hid (At2.place (w.alloc (.cells #[.int .i64 s, .slice a n cap] 27)) (.int .i64 0) (.slice none 0 0) 27 (w.heap.size + 1) (by simp))
    replace BB := Lib.hid (BB.out.alloc (by first | omega | (simp; done) | (simp; omega)) (.cells #[.int .i64 0, .slice none 0 0] 27))
    go_wp2_with fail
    refine (implIsBraid_any _ _ _ _ xs _ R.out hn).mono ?_
    rintro e w1 ⟨rfl, hb⟩
    replace R := Lib.hid (R.out.below hb)
    replace A := Lib.hid (A.out.below hb)
    replace Z := Lib.hid (Z.out.below hb)
    have z1 : w.heap.size + 2 ≤ w1.heap.size := by have := hb.size; simp at this; omega
    replace BB := Lib.hid (below_go BB.out hb (by first | omega | (simp; done) | (simp; omega)))
    clear hb
    obtain ⟨qA1, qA2, qA3, qA4, qA5⟩ := A.out
    obtain ⟨qZ1, qZ2, qZ3, qZ4, qZ5⟩ := Z.out
    go_wp2
    obtain ⟨_, e2, e3, _, _⟩ := Z.out.fill (.int .i64 0) (.slice none 0 0)
    refine bodyPost_ret (v := .tuple #[.agg #[.int .i64 0, .slice none 0 0], .int .i64 1]) (by simp [results, Try.results37, go_sem, e2, e3]) rfl ⟨none, 0, 0, rfl, Nat.zero_le _, Own.nil _ _, ?_⟩
    exact (BB.out.setCell (p := ⟨w.heap.size + 1, 0, none⟩) (by simp) _).setCell (p := ⟨w.heap.size + 1, 1, none⟩) (by simp) _

end Go.Proofs.Ytmiihjhhbjpalaa