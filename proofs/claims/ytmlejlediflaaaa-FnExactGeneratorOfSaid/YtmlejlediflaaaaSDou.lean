/- DoubleStrand: the model. -/
import Derived.Test.YtmlejlediflaaaaSFor
import Derived.Test.YtmlejlediflaaaaSIm
namespace Go.Proofs.Ytmlejlediflaaaa
open Go.RowKit Go.ChangeShapes

theorem doubleP_pos {P l q : Int} (hq : q = idx l) (hc : cnt l = 1) (hl : l = q) : doubleP P l = if q < P then [q] else if q = P then [q, q + 1] else if q = P + 1 then [q + 1, q] else [q + 1] := by
  unfold doubleP; rw [← hq, hc, hl, Int.mul_one]
theorem doubleP_neg {P l q : Int} (hq : q = idx l) (hc : cnt l = -1) (hl : l = -q) : doubleP P l = if q < P then [-q] else if q = P then [-q, -(q + 1)] else if q = P + 1 then [-(q + 1), -q] else [-(q + 1)] := by
  unfold doubleP; rw [← hq, hc, hl, Int.mul_neg, Int.mul_one]

theorem two_new (w : World) (x y : Int) (t : TypeId) : ∀ j u, [Value.int .i64 x, Value.int .i64 y][j]? = some u → (w.alloc (.cells #[.int .i64 x, .int .i64 y] t)).cell? ((⟨w.heap.size, 0, none⟩ : Addr).add j) = some u := by
  intro j u hj
  match j, hj with
  | 0, hj => simp at hj; subst hj; simp [Addr.add]
  | 1, hj => simp at hj; subst hj; simp [Addr.add]

theorem two_cell (x y : Int) : ∀ u ∈ [Value.int .i64 x, Value.int .i64 y], u.oneCell' = true := by
  intro u hu
  simp at hu
  rcases hu with rfl | rfl <;> rfl

theorem OwnV.appended2 {B : Nat} {w : World} {v : Value} {n : Nat} {xs : List Int} {x y : Int} (h : w.ownsRow B 2 1 v (n + 2) (ints xs ++ [.int .i64 x, .int .i64 y])) : OwnV B w v (n + 2) (xs ++ [x, y]) := by
  unfold OwnV ints at *
  rw [List.map_append]
  exact h

set_option maxRecDepth 100000 in
set_option maxHeartbeats 2000000 in
theorem specDouble_any {s : Int} {a : Option Addr} {n cap : Nat} {xs : List Int} {x : Int} {w : World} {fs : Int} {fxs : List Int} {fc : Int} (hr : Reads w a n xs) (hf : Fits xs) (hn : n ≤ 1048576) (hx : (Lit.int .i64 x).wf = true) (hM : mDouble s xs x = (fs, fxs, fc)) :
    Calls Try.prog 41 #[.agg #[.int .i64 s, .slice a n cap], .int .i64 x] w (RetBraid w fs fxs fc) := by
  obtain ⟨i0, hi, hz0, hz1, hz2⟩ := info_parts infoInt
  have R := Lib.hid hr; clear hr
  have HF := Lib.hid hf; clear hf
  have HX := Lib.hid hx; clear hx
  by_cases hbr : isBraid s xs = true
  · have HLS := Lib.hid (letts_of_isBraid hbr)
    have g1 := lo_of_isBraid _ _ hbr
    have g2 := hi_of_isBraid _ _ hbr
    have HLEN := Lib.hid (len_of_isBraid _ _ hbr)
    have ws : IntKind.i64.wrap (s - 1) = s - 1 := IntWalk.i64_in _ (by omega)
    by_cases hkk : 0 ≤ x ∧ x < s
    · have HM : Hid ((if (doubleL x xs).length ≤ 200 ∧ s < 8 then (s + 1, doubleL x xs, 0) else (0, [], 3)) = (fs, fxs, fc)) := Lib.hid (by rw [← hM, mDouble, if_pos hbr, if_pos hkk])
      clear hM
      obtain ⟨k1, k2⟩ := hkk
      have t1 : inB x 0 (s - 1) = true := (inB_iff _ _ _).2 ⟨by omega, by omega⟩
      by_cases b2 : s < 8
      rotate_left
      · have hm2 := HM.out
        rw [if_neg (fun h => b2 h.2)] at hm2
        simp only [Prod.mk.injEq] at hm2
        obtain ⟨rfl, rfl, rfl⟩ := hm2
        have n2 : s = 8 := by omega
        have n3 : (s == 8) = true := by simp [n2]
        have HN2 := Lib.hid n2; clear n2
        go_enter Try.func41, Try.ntmps41
        replace R := Lib.hid ((R.out.alloc (.cells #[.int .i64 s, .slice a n cap] 24)).alloc (.cells #[.int .i64 0, .slice none 0 0] 24))
        have A := Lib.hid ((At2.new w (.int .i64 s) (.slice a n cap) 24).alloc (.cells #[.int .i64 0, .slice none 0 0] 24))
        have Z := Lib.hid (At2.place (w.alloc (.cells #[.int .i64 s, .slice a n cap] 24)) (.int .i64 0) (.slice none 0 0) 24 (w.heap.size + 1) (by simp))
        have BB := Lib.hid (below2 w (.cells #[.int .i64 s, .slice a n cap] 24) (.cells #[.int .i64 0, .slice none 0 0] 24))
        obtain ⟨qA1, qA2, qA3, qA4, qA5⟩ := A.out
        go_wp2_with fail
        refine (l01Is_any s a n cap xs _ R.out HF.out hn).mono ?_
        rintro e w1 ⟨rfl, hb⟩
        clear qA1 qA2 qA3 qA4 qA5
        replace R := Lib.hid (R.out.below hb)
        replace A := Lib.hid (A.out.below hb)
        replace Z := Lib.hid (Z.out.below hb)
        replace BB := Lib.hid (below_go BB.out hb BB.out.size)
        clear hb
        obtain ⟨qA1, qA2, qA3, qA4, qA5⟩ := A.out
        obtain ⟨qZ1, qZ2, qZ3, qZ4, qZ5⟩ := Z.out
        go_wp2_with (go_at_call 59; refine (l01In_any _ _ _ _).mono ?_; rintro e w' ⟨rfl, rfl⟩)
        obtain ⟨_, e2, e3, _, _⟩ := Z.out.fill (.int .i64 0) (.slice none 0 0)
        refine bodyPost_ret (v := .tuple #[.agg #[.int .i64 0, .slice none 0 0], .int .i64 3]) (by simp [results, Try.results41, go_sem, e2, e3]) rfl ⟨none, 0, 0, rfl, Nat.zero_le _, Own.nil _ _, ?_⟩
        exact (BB.out.setCell (p := ⟨w.heap.size + 1, 0, none⟩) (by simp) _).setCell (p := ⟨w.heap.size + 1, 1, none⟩) (by simp) _
      have n2 : (s == 8) = false := by simp; omega
      have HL := Lib.hid R.out.len
      have R0 := R
      go_enter Try.func41, Try.ntmps41
      replace R := Lib.hid ((R.out.alloc (.cells #[.int .i64 s, .slice a n cap] 24)).alloc (.cells #[.int .i64 0, .slice none 0 0] 24))
      have A := Lib.hid ((At2.new w (.int .i64 s) (.slice a n cap) 24).alloc (.cells #[.int .i64 0, .slice none 0 0] 24))
      have Z := Lib.hid (At2.place (w.alloc (.cells #[.int .i64 s, .slice a n cap] 24)) (.int .i64 0) (.slice none 0 0) 24 (w.heap.size + 1) (by simp))
      have BB := Lib.hid (below2 w (.cells #[.int .i64 s, .slice a n cap] 24) (.cells #[.int .i64 0, .slice none 0 0] 24))
      obtain ⟨qA1, qA2, qA3, qA4, qA5⟩ := A.out
      go_wp2_with fail
      refine (l01Is_any s a n cap xs _ R.out HF.out hn).mono ?_
      rintro e w1 ⟨rfl, hb⟩
      clear qA1 qA2 qA3 qA4 qA5
      replace R := Lib.hid (R.out.below hb)
      replace A := Lib.hid (A.out.below hb)
      replace Z := Lib.hid (Z.out.below hb)
      replace BB := Lib.hid (below_go BB.out hb BB.out.size)
      clear hb
      obtain ⟨qA1, qA2, qA3, qA4, qA5⟩ := A.out
      clear R
      have hnl : n ≤ 200 := by have := HLEN.out; have := HL.out; omega
      have hz1' : w.heap.size + 1 + 1 ≤ w1.heap.size := Z.out.1
      go_wp2_with (go_at_call 59; refine (l01In_any _ _ _ _).mono ?_; rintro e w' ⟨rfl, rfl⟩)
      clear hbr t1 n2 qA1 qA2 qA3 qA4 qA5
      go_loopw [6, 7, 8] (fun v pv i wr => ∃ k m : Nat, k ≤ n ∧ m ≤ 2 * k ∧ i = .int .i64 k ∧ pv = .int .i64 (placeL x (xs.take k)) ∧ OwnV (w.heap.size + 1 + 1) wr v m (doubleL x (xs.take k)) ∧ At2 wr w.heap.size (.int .i64 s) (.slice a n cap) ∧ At2 wr (w.heap.size + 1) (.int .i64 0) (.slice none 0 0) ∧ Below w.heap.size w wr ∧ w.heap.size + 1 + 1 ≤ wr.heap.size) (fun _ _ i _ => n - (intOf i).toNat)
      case atStart => exact ⟨0, 0, Nat.zero_le _, Nat.zero_le _, rfl, rfl, Own.mono (show Own w1.heap.size _ _ 0 0 [] from OwnV.empty w1) hz1', A.out.alloc _, Z.out.alloc _, BB.out.alloc BB.out.size _, by simp; omega⟩
      case round =>
        clear A Z BB
        obtain ⟨k, m, hk, hmk, rfl, rfl, ho, hA, hZ, hbl, hz⟩ := hrel
        have A := Lib.hid hA; have Z := Lib.hid hZ; have BB := Lib.hid hbl
        clear hA hZ hbl
        obtain ⟨qA1, qA2, qA3, qA4, qA5⟩ := A.out
        by_cases hlt : k < n
        · have hkl : k < xs.length := by rw [HL.out]; exact hlt
          obtain ⟨b, off, rfl, hb, hc⟩ := R0.out.cells (by omega)
          obtain ⟨l, hl⟩ : ∃ l, l = xs.getD k 0 := ⟨_, rfl⟩
          have h1 : wr.cell? ⟨b, off + k, none⟩ = some (.int .i64 l) := by rw [hl]; exact (BB.out.cell (by exact hb)).trans (hc _ hlt)
          have hle : Lett s l := HLS.out l (by rw [hl]; exact getD_mem xs k hkl)
          have hpl := placeL_in k1 k2 (letts_take HLS.out k)
          have HSF := Lib.hid (doubleL_step x xs k hkl)
          have HSP := Lib.hid (placeL_step x xs k hkl)
          rw [← hl] at HSF HSP
          obtain ⟨P, hP⟩ : ∃ P, P = placeL x (xs.take k) := ⟨_, rfl⟩
          rw [← hP] at HSF HSP hpl ⊢
          obtain ⟨ys, hys⟩ : ∃ ys, ys = doubleL x (xs.take k) := ⟨_, rfl⟩
          rw [← hys] at ho HSF
          have hsm := hle.small (by omega)
          obtain ⟨M1, M2, M3⟩ := idx_max hle (by omega)
          have hq1 := hle.1
          have hq2 := hle.2
          unfold stepP at HSP
          obtain ⟨q, hq⟩ : ∃ q, q = idx l := ⟨_, rfl⟩
          have hcs : (l < 0 ∧ l = -q ∧ doubleP P l = if q < P then [-q] else if q = P then [-q, -(q + 1)] else if q = P + 1 then [-(q + 1), -q] else [-(q + 1)]) ∨ (¬ l < 0 ∧ l = q ∧ doubleP P l = if q < P then [q] else if q = P then [q, q + 1] else if q = P + 1 then [q + 1, q] else [q + 1]) := by
            rcases idx_cases l with ⟨c1, c2, c3⟩ | ⟨c1, c2, c3⟩
            · exact .inl ⟨c1, by omega, doubleP_neg hq c3 (by omega)⟩
            · exact .inr ⟨c1, by omega, doubleP_pos hq c3 (by omega)⟩
          rw [← hq] at M2 M3 HSP hq1 hq2
          clear hl hP hys hc hle hq
          have HO := Lib.hid ho
          clear ho
          obtain ⟨p1, p2⟩ := hpl
          obtain ⟨u1, u2⟩ := hsm
          have E1 : IntKind.i64.wrap (P - 1) = P - 1 := IntWalk.i64_in _ (by omega)
          have E2 : IntKind.i64.wrap (P + 1) = P + 1 := IntWalk.i64_in _ (by omega)
          have E4 : IntKind.i64.wrap (P + 2) = P + 2 := IntWalk.i64_in _ (by omega)
          have E3 : IntKind.i64.wrap (q + 1) = q + 1 := IntWalk.i64_in _ (by omega)
          have HM2 := Lib.hid M2; have HM3 := Lib.hid M3
          clear M2 M3
          go_wp2
          go_quiet (fail)
          have hb1 := below_draws wr.heap.size wr nq
          have hb2 := below_draws w.heap.size wr nq
          obtain ⟨wq, hwq⟩ : ∃ wq, wq = wr.drewN nq := ⟨_, rfl⟩
          rw [← hwq] at hb1 hb2 ⊢
          first | rw [HM2.out] | rw [HM3.out]
          have h2 : wq.cell? ⟨b, off + k, none⟩ = some (.int .i64 l) := (hb1.cell (World.block_lt_of_cell? _ _ h1)).trans h1
          replace HO := Lib.hid (HO.out.drawn hb1)
          replace BB := Lib.hid (BB.out.trans hb2)
          clear qA1 qA2 qA3 qA4 qA5
          replace A := Lib.hid (A.out.below hb1)
          replace Z := Lib.hid (Z.out.below hb1)
          replace hz : w.heap.size + 1 + 1 ≤ wq.heap.size := Nat.le_trans hz hb1.size
          obtain ⟨qA1, qA2, qA3, qA4, qA5⟩ := A.out
          clear hwq hb1 hb2 h1
          rcases hcs with ⟨hneg, hlq, hdp⟩ | ⟨hneg, hlq, hdp⟩
          · rw [hdp] at HSF
            clear hdp
            by_cases c1 : q = P
            · have HDL : Hid (-1000 < l) := Lib.hid u1
              subst c1
              have t1 : (q == q) = true := by simp
              rw [if_neg (by omega), if_pos rfl] at HSF
              rw [if_pos rfl] at HSP
              clear hlq
              have F1 : IntKind.i64.wrap (-1 * q) = (-q) := (IntWalk.i64_in _ (by omega)).trans (by omega)
              have G1 : IntKind.i64.wrap (-q) = (-q) := IntWalk.i64_in _ (by omega)
              have F2 : IntKind.i64.wrap (-1 * (q + 1)) = (-(q + 1)) := (IntWalk.i64_in _ (by omega)).trans (by omega)
              have G2 : IntKind.i64.wrap (-(q + 1)) = (-(q + 1)) := IntWalk.i64_in _ (by omega)
              go_wp2_with (at_builtin; refine wpList_append_own _ rfl _ _ 22 rfl (w.heap.size + 1 + 1) 2 i0 (.int .i64 0) 1 8 Try.underlying22 hi hz0 hz1 hz2 rfl (by decide) _ _ _ rfl (World.ownsRow.alloc HO.out _) ⟨wq.heap.size, 0, none⟩ 2 2 [.int .i64 (-q), .int .i64 (-(q + 1))] rfl rfl (two_new wq (-q) (-(q + 1)) _) (two_cell _ _) (by unfold maxLen; omega) (by omega) (by simp; omega) ?_)
              intro v' w4 hown' hgrow _
              have HO3 := Lib.hid (OwnV.appended2 hown')
              have hW : Below (w.heap.size + 1 + 1) wq w4 := below_appended (Below.refl _ _) hz HO.out hgrow
              have HA3 := Lib.hid (A.out.heap hW.size (hW.block _ (by omega)))
              have HZ3 := Lib.hid (Z.out.heap hW.size (hW.block _ (by omega)))
              have HB3 := Lib.hid (BB.out.trans (hW.mono (by omega)))
              have hz3 : w.heap.size + 1 + 1 ≤ w4.heap.size := Nat.le_trans hz hW.size
              clear hown' hgrow hW
              go_wp2
              go_roundw
              case rel => exact ⟨k + 1, m + 2, by omega, by omega, by go_num, by rw [HSP.out], by rw [HSF.out]; exact HO3.out, HA3.out, HZ3.out, HB3.out, hz3⟩
              case measure => simp [intOf]; omega
            · have t1 : (q == P) = false := by simp [c1]
              rw [if_neg c1] at HSP
              by_cases c2 : q = P + 1
              · have t2 : (q == P + 1) = true := by simp [c2]
                rw [if_neg (by omega), if_neg c1, if_pos c2] at HSF
                rw [if_pos c2] at HSP
                have E5 : P + 2 = q + 1 := by omega
                rw [show q = P + 1 from c2] at HSF
                clear hlq
                have F1 : IntKind.i64.wrap (-1 * (P + 2)) = (-(P + 2)) := (IntWalk.i64_in _ (by omega)).trans (by omega)
                have G1 : IntKind.i64.wrap (-(P + 2)) = (-(P + 2)) := IntWalk.i64_in _ (by omega)
                have F2 : IntKind.i64.wrap (-1 * (P + 1)) = (-(P + 1)) := (IntWalk.i64_in _ (by omega)).trans (by omega)
                have G2 : IntKind.i64.wrap (-(P + 1)) = (-(P + 1)) := IntWalk.i64_in _ (by omega)
                rw [show P + 1 + 1 = P + 2 by omega] at HSF
                have HC1 := Lib.hid c1; have HC2 := Lib.hid c2
                clear c1 c2 E5
                go_wp2_with (at_builtin; refine wpList_append_own _ rfl _ _ 22 rfl (w.heap.size + 1 + 1) 2 i0 (.int .i64 0) 1 8 Try.underlying22 hi hz0 hz1 hz2 rfl (by decide) _ _ _ rfl (World.ownsRow.alloc HO.out _) ⟨wq.heap.size, 0, none⟩ 2 2 [.int .i64 (-(P + 2)), .int .i64 (-(P + 1))] rfl rfl (two_new wq (-(P + 2)) (-(P + 1)) _) (two_cell _ _) (by unfold maxLen; omega) (by omega) (by simp; omega) ?_)
                intro v' w4 hown' hgrow _
                have HO3 := Lib.hid (OwnV.appended2 hown')
                have hW : Below (w.heap.size + 1 + 1) wq w4 := below_appended (Below.refl _ _) hz HO.out hgrow
                have HA3 := Lib.hid (A.out.heap hW.size (hW.block _ (by omega)))
                have HZ3 := Lib.hid (Z.out.heap hW.size (hW.block _ (by omega)))
                have HB3 := Lib.hid (BB.out.trans (hW.mono (by omega)))
                have hz3 : w.heap.size + 1 + 1 ≤ w4.heap.size := Nat.le_trans hz hW.size
                clear hown' hgrow hW
                go_wp2
                go_roundw
                case rel => exact ⟨k + 1, m + 2, by omega, by omega, by go_num, by rw [HSP.out], by rw [HSF.out]; exact HO3.out, HA3.out, HZ3.out, HB3.out, hz3⟩
                case measure => simp [intOf]; omega
              · have t2 : (q == P + 1) = false := by simp [c2]
                rw [if_neg c2] at HSP
                by_cases c3 : q < P
                · rw [if_pos c3] at HSF
                  have HC1 := Lib.hid c1; have HC2 := Lib.hid c2
                  clear c1 c2 hlq
                  have F1 : IntKind.i64.wrap (-1 * q) = (-q) := (IntWalk.i64_in _ (by omega)).trans (by omega)
                  have G1 : IntKind.i64.wrap (-q) = (-q) := IntWalk.i64_in _ (by omega)
                  go_wp2_with (at_builtin; refine wpList_append_own _ rfl _ _ 22 rfl (w.heap.size + 1 + 1) 2 i0 (.int .i64 0) 1 8 Try.underlying22 hi hz0 hz1 hz2 rfl (by decide) _ _ _ rfl (World.ownsRow.alloc HO.out _) ⟨wq.heap.size, 0, none⟩ 1 1 [.int .i64 (-q)] rfl rfl (one_new wq (-q) _) (one_cell _) (by unfold maxLen; omega) (by omega) (by simp; omega) ?_)
                  intro v' w4 hown' hgrow _
                  have HO3 := Lib.hid (OwnV.appended hown')
                  have hW : Below (w.heap.size + 1 + 1) wq w4 := below_appended (Below.refl _ _) hz HO.out hgrow
                  have HA3 := Lib.hid (A.out.heap hW.size (hW.block _ (by omega)))
                  have HZ3 := Lib.hid (Z.out.heap hW.size (hW.block _ (by omega)))
                  have HB3 := Lib.hid (BB.out.trans (hW.mono (by omega)))
                  have hz3 : w.heap.size + 1 + 1 ≤ w4.heap.size := Nat.le_trans hz hW.size
                  clear hown' hgrow hW
                  go_wp2
                  go_roundw
                  case rel => exact ⟨k + 1, m + 1, by omega, by omega, by go_num, by rw [HSP.out], by rw [HSF.out]; exact HO3.out, HA3.out, HZ3.out, HB3.out, hz3⟩
                  case measure => simp [intOf]; omega
                · rw [if_neg c3, if_neg c1, if_neg c2] at HSF
                  have HC1 := Lib.hid c1; have HC2 := Lib.hid c2
                  clear c1 c2 hlq
                  have F1 : IntKind.i64.wrap (-1 * (q + 1)) = (-(q + 1)) := (IntWalk.i64_in _ (by omega)).trans (by omega)
                  have G1 : IntKind.i64.wrap (-(q + 1)) = (-(q + 1)) := IntWalk.i64_in _ (by omega)
                  go_wp2_with (at_builtin; refine wpList_append_own _ rfl _ _ 22 rfl (w.heap.size + 1 + 1) 2 i0 (.int .i64 0) 1 8 Try.underlying22 hi hz0 hz1 hz2 rfl (by decide) _ _ _ rfl (World.ownsRow.alloc HO.out _) ⟨wq.heap.size, 0, none⟩ 1 1 [.int .i64 (-(q + 1))] rfl rfl (one_new wq (-(q + 1)) _) (one_cell _) (by unfold maxLen; omega) (by omega) (by simp; omega) ?_)
                  intro v' w4 hown' hgrow _
                  have HO3 := Lib.hid (OwnV.appended hown')
                  have hW : Below (w.heap.size + 1 + 1) wq w4 := below_appended (Below.refl _ _) hz HO.out hgrow
                  have HA3 := Lib.hid (A.out.heap hW.size (hW.block _ (by omega)))
                  have HZ3 := Lib.hid (Z.out.heap hW.size (hW.block _ (by omega)))
                  have HB3 := Lib.hid (BB.out.trans (hW.mono (by omega)))
                  have hz3 : w.heap.size + 1 + 1 ≤ w4.heap.size := Nat.le_trans hz hW.size
                  clear hown' hgrow hW
                  go_wp2
                  go_roundw
                  case rel => exact ⟨k + 1, m + 1, by omega, by omega, by go_num, by rw [HSP.out], by rw [HSF.out]; exact HO3.out, HA3.out, HZ3.out, HB3.out, hz3⟩
                  case measure => simp [intOf]; omega
          · rw [hdp] at HSF
            clear hdp
            by_cases c1 : q = P
            · have HDL : Hid (-1000 < l) := Lib.hid u1
              subst c1
              have t1 : (q == q) = true := by simp
              rw [if_neg (by omega), if_pos rfl] at HSF
              rw [if_pos rfl] at HSP
              clear hlq
              have F1 : IntKind.i64.wrap (1 * q) = q := (IntWalk.i64_in _ (by omega)).trans (by omega)
              have G1 : IntKind.i64.wrap q = q := IntWalk.i64_in _ (by omega)
              have F2 : IntKind.i64.wrap (1 * (q + 1)) = (q + 1) := (IntWalk.i64_in _ (by omega)).trans (by omega)
              have G2 : IntKind.i64.wrap (q + 1) = (q + 1) := IntWalk.i64_in _ (by omega)
              go_wp2_with (at_builtin; refine wpList_append_own _ rfl _ _ 22 rfl (w.heap.size + 1 + 1) 2 i0 (.int .i64 0) 1 8 Try.underlying22 hi hz0 hz1 hz2 rfl (by decide) _ _ _ rfl (World.ownsRow.alloc HO.out _) ⟨wq.heap.size, 0, none⟩ 2 2 [.int .i64 q, .int .i64 (q + 1)] rfl rfl (two_new wq q (q + 1) _) (two_cell _ _) (by unfold maxLen; omega) (by omega) (by simp; omega) ?_)
              intro v' w4 hown' hgrow _
              have HO3 := Lib.hid (OwnV.appended2 hown')
              have hW : Below (w.heap.size + 1 + 1) wq w4 := below_appended (Below.refl _ _) hz HO.out hgrow
              have HA3 := Lib.hid (A.out.heap hW.size (hW.block _ (by omega)))
              have HZ3 := Lib.hid (Z.out.heap hW.size (hW.block _ (by omega)))
              have HB3 := Lib.hid (BB.out.trans (hW.mono (by omega)))
              have hz3 : w.heap.size + 1 + 1 ≤ w4.heap.size := Nat.le_trans hz hW.size
              clear hown' hgrow hW
              go_wp2
              go_roundw
              case rel => exact ⟨k + 1, m + 2, by omega, by omega, by go_num, by rw [HSP.out], by rw [HSF.out]; exact HO3.out, HA3.out, HZ3.out, HB3.out, hz3⟩
              case measure => simp [intOf]; omega
            · have t1 : (q == P) = false := by simp [c1]
              rw [if_neg c1] at HSP
              by_cases c2 : q = P + 1
              · have t2 : (q == P + 1) = true := by simp [c2]
                rw [if_neg (by omega), if_neg c1, if_pos c2] at HSF
                rw [if_pos c2] at HSP
                have E5 : P + 2 = q + 1 := by omega
                rw [show q = P + 1 from c2] at HSF
                clear hlq
                have F1 : IntKind.i64.wrap (1 * (P + 2)) = (P + 2) := (IntWalk.i64_in _ (by omega)).trans (by omega)
                have G1 : IntKind.i64.wrap (P + 2) = (P + 2) := IntWalk.i64_in _ (by omega)
                have F2 : IntKind.i64.wrap (1 * (P + 1)) = (P + 1) := (IntWalk.i64_in _ (by omega)).trans (by omega)
                have G2 : IntKind.i64.wrap (P + 1) = (P + 1) := IntWalk.i64_in _ (by omega)
                rw [show P + 1 + 1 = P + 2 by omega] at HSF
                have HC1 := Lib.hid c1; have HC2 := Lib.hid c2
                clear c1 c2 E5
                go_wp2_with (at_builtin; refine wpList_append_own _ rfl _ _ 22 rfl (w.heap.size + 1 + 1) 2 i0 (.int .i64 0) 1 8 Try.underlying22 hi hz0 hz1 hz2 rfl (by decide) _ _ _ rfl (World.ownsRow.alloc HO.out _) ⟨wq.heap.size, 0, none⟩ 2 2 [.int .i64 (P + 2), .int .i64 (P + 1)] rfl rfl (two_new wq (P + 2) (P + 1) _) (two_cell _ _) (by unfold maxLen; omega) (by omega) (by simp; omega) ?_)
                intro v' w4 hown' hgrow _
                have HO3 := Lib.hid (OwnV.appended2 hown')
                have hW : Below (w.heap.size + 1 + 1) wq w4 := below_appended (Below.refl _ _) hz HO.out hgrow
                have HA3 := Lib.hid (A.out.heap hW.size (hW.block _ (by omega)))
                have HZ3 := Lib.hid (Z.out.heap hW.size (hW.block _ (by omega)))
                have HB3 := Lib.hid (BB.out.trans (hW.mono (by omega)))
                have hz3 : w.heap.size + 1 + 1 ≤ w4.heap.size := Nat.le_trans hz hW.size
                clear hown' hgrow hW
                go_wp2
                go_roundw
                case rel => exact ⟨k + 1, m + 2, by omega, by omega, by go_num, by rw [HSP.out], by rw [HSF.out]; exact HO3.out, HA3.out, HZ3.out, HB3.out, hz3⟩
                case measure => simp [intOf]; omega
              · have t2 : (q == P + 1) = false := by simp [c2]
                rw [if_neg c2] at HSP
                by_cases c3 : q < P
                · rw [if_pos c3] at HSF
                  have HC1 := Lib.hid c1; have HC2 := Lib.hid c2
                  clear c1 c2 hlq
                  have F1 : IntKind.i64.wrap (1 * q) = q := (IntWalk.i64_in _ (by omega)).trans (by omega)
                  have G1 : IntKind.i64.wrap q = q := IntWalk.i64_in _ (by omega)
                  go_wp2_with (at_builtin; refine wpList_append_own _ rfl _ _ 22 rfl (w.heap.size + 1 + 1) 2 i0 (.int .i64 0) 1 8 Try.underlying22 hi hz0 hz1 hz2 rfl (by decide) _ _ _ rfl (World.ownsRow.alloc HO.out _) ⟨wq.heap.size, 0, none⟩ 1 1 [.int .i64 q] rfl rfl (one_new wq q _) (one_cell _) (by unfold maxLen; omega) (by omega) (by simp; omega) ?_)
                  intro v' w4 hown' hgrow _
                  have HO3 := Lib.hid (OwnV.appended hown')
                  have hW : Below (w.heap.size + 1 + 1) wq w4 := below_appended (Below.refl _ _) hz HO.out hgrow
                  have HA3 := Lib.hid (A.out.heap hW.size (hW.block _ (by omega)))
                  have HZ3 := Lib.hid (Z.out.heap hW.size (hW.block _ (by omega)))
                  have HB3 := Lib.hid (BB.out.trans (hW.mono (by omega)))
                  have hz3 : w.heap.size + 1 + 1 ≤ w4.heap.size := Nat.le_trans hz hW.size
                  clear hown' hgrow hW
                  go_wp2
                  go_roundw
                  case rel => exact ⟨k + 1, m + 1, by omega, by omega, by go_num, by rw [HSP.out], by rw [HSF.out]; exact HO3.out, HA3.out, HZ3.out, HB3.out, hz3⟩
                  case measure => simp [intOf]; omega
                · rw [if_neg c3, if_neg c1, if_neg c2] at HSF
                  have HC1 := Lib.hid c1; have HC2 := Lib.hid c2
                  clear c1 c2 hlq
                  have F1 : IntKind.i64.wrap (1 * (q + 1)) = (q + 1) := (IntWalk.i64_in _ (by omega)).trans (by omega)
                  have G1 : IntKind.i64.wrap (q + 1) = (q + 1) := IntWalk.i64_in _ (by omega)
                  go_wp2_with (at_builtin; refine wpList_append_own _ rfl _ _ 22 rfl (w.heap.size + 1 + 1) 2 i0 (.int .i64 0) 1 8 Try.underlying22 hi hz0 hz1 hz2 rfl (by decide) _ _ _ rfl (World.ownsRow.alloc HO.out _) ⟨wq.heap.size, 0, none⟩ 1 1 [.int .i64 (q + 1)] rfl rfl (one_new wq (q + 1) _) (one_cell _) (by unfold maxLen; omega) (by omega) (by simp; omega) ?_)
                  intro v' w4 hown' hgrow _
                  have HO3 := Lib.hid (OwnV.appended hown')
                  have hW : Below (w.heap.size + 1 + 1) wq w4 := below_appended (Below.refl _ _) hz HO.out hgrow
                  have HA3 := Lib.hid (A.out.heap hW.size (hW.block _ (by omega)))
                  have HZ3 := Lib.hid (Z.out.heap hW.size (hW.block _ (by omega)))
                  have HB3 := Lib.hid (BB.out.trans (hW.mono (by omega)))
                  have hz3 : w.heap.size + 1 + 1 ≤ w4.heap.size := Nat.le_trans hz hW.size
                  clear hown' hgrow hW
                  go_wp2
                  go_roundw
                  case rel => exact ⟨k + 1, m + 1, by omega, by omega, by go_num, by rw [HSP.out], by rw [HSF.out]; exact HO3.out, HA3.out, HZ3.out, HB3.out, hz3⟩
                  case measure => simp [intOf]; omega
        · have hkn : k = n := by omega
          have HK := Lib.hid hkn; clear hkn
          have HT : Hid (doubleL x (xs.take k) = doubleL x xs) := Lib.hid (by rw [HK.out, List.take_of_length_le (by rw [HL.out]; omega)])
          rw [HT.out] at ho
          obtain ⟨a2, c2, rfl, ho2⟩ := ho.form
          have HDL := Lib.hid ho2.len
          have HO := Lib.hid ho2
          obtain ⟨qZ1, qZ2, qZ3, qZ4, qZ5⟩ := Z.out
          clear ho ho2
          by_cases b1 : m ≤ 200
          · have n1 : ¬ ((m : Int) > 200) := by omega
            have hm2 := HM.out
            rw [if_pos ⟨by rw [HDL.out]; exact b1, b2⟩] at hm2
            simp only [Prod.mk.injEq] at hm2
            obtain ⟨rfl, rfl, rfl⟩ := hm2
            have e0 : IntKind.i64.wrap (s + 1) = s + 1 := IntWalk.i64_in _ (by omega)
            go_wp2
            obtain ⟨_, e2, e3, _, _⟩ := Z.out.fill (.int .i64 (s + 1)) (.slice a2 m c2)
            refine bodyPost_ret (v := .tuple #[.agg #[.int .i64 (s + 1), .slice a2 m c2], .int .i64 0]) (by simp [results, Try.results41, go_sem, e2, e3]) rfl ⟨a2, m, c2, rfl, by omega, ?_, ?_⟩
            · exact ((HO.out.setCell_below (by show w.heap.size + 1 < _; omega) _).setCell_below (by show w.heap.size + 1 < _; omega) _).mono (by omega)
            · exact (BB.out.setCell (p := ⟨w.heap.size + 1, 0, none⟩) (by simp) _).setCell (p := ⟨w.heap.size + 1, 1, none⟩) (by simp) _
          · have n1 : ((m : Int) > 200) := by omega
            have hm2 := HM.out
            rw [if_neg (fun h => b1 (by rw [← HDL.out]; exact h.1))] at hm2
            simp only [Prod.mk.injEq] at hm2
            obtain ⟨rfl, rfl, rfl⟩ := hm2
            go_wp2
            obtain ⟨_, e2, e3, _, _⟩ := Z.out.fill (.int .i64 0) (.slice none 0 0)
            refine bodyPost_ret (v := .tuple #[.agg #[.int .i64 0, .slice none 0 0], .int .i64 3]) (by simp [results, Try.results41, go_sem, e2, e3]) rfl ⟨none, 0, 0, rfl, Nat.zero_le _, Own.nil _ _, ?_⟩
            exact (BB.out.setCell (p := ⟨w.heap.size + 1, 0, none⟩) (by simp) _).setCell (p := ⟨w.heap.size + 1, 1, none⟩) (by simp) _
    · simp only [mDouble, if_pos hbr, if_neg hkk, Prod.mk.injEq] at hM
      obtain ⟨rfl, rfl, rfl⟩ := hM
      have t1 : inB x 0 (s - 1) = false := (inB_not _ _ _).2 (by omega)
      clear hkk
      go_enter Try.func41, Try.ntmps41
      replace R := Lib.hid ((R.out.alloc (.cells #[.int .i64 s, .slice a n cap] 24)).alloc (.cells #[.int .i64 0, .slice none 0 0] 24))
      have A := Lib.hid ((At2.new w (.int .i64 s) (.slice a n cap) 24).alloc (.cells #[.int .i64 0, .slice none 0 0] 24))
      have Z := Lib.hid (At2.place (w.alloc (.cells #[.int .i64 s, .slice a n cap] 24)) (.int .i64 0) (.slice none 0 0) 24 (w.heap.size + 1) (by simp))
      have BB := Lib.hid (below2 w (.cells #[.int .i64 s, .slice a n cap] 24) (.cells #[.int .i64 0, .slice none 0 0] 24))
      obtain ⟨qA1, qA2, qA3, qA4, qA5⟩ := A.out
      go_wp2_with fail
      refine (l01Is_any s a n cap xs _ R.out HF.out hn).mono ?_
      rintro e w1 ⟨rfl, hb⟩
      clear qA1 qA2 qA3 qA4 qA5
      replace R := Lib.hid (R.out.below hb)
      replace A := Lib.hid (A.out.below hb)
      replace Z := Lib.hid (Z.out.below hb)
      replace BB := Lib.hid (below_go BB.out hb BB.out.size)
      clear hb
      obtain ⟨qA1, qA2, qA3, qA4, qA5⟩ := A.out
      obtain ⟨qZ1, qZ2, qZ3, qZ4, qZ5⟩ := Z.out
      go_wp2_with (go_at_call 59; refine (l01In_any _ _ _ _).mono ?_; rintro e w' ⟨rfl, rfl⟩)
      obtain ⟨_, e2, e3, _, _⟩ := Z.out.fill (.int .i64 0) (.slice none 0 0)
      refine bodyPost_ret (v := .tuple #[.agg #[.int .i64 0, .slice none 0 0], .int .i64 2]) (by simp [results, Try.results41, go_sem, e2, e3]) rfl ⟨none, 0, 0, rfl, Nat.zero_le _, Own.nil _ _, ?_⟩
      exact (BB.out.setCell (p := ⟨w.heap.size + 1, 0, none⟩) (by simp) _).setCell (p := ⟨w.heap.size + 1, 1, none⟩) (by simp) _
  · have hb0 : isBraid s xs = false := by simpa using hbr
    simp only [mDouble, if_neg hbr, Prod.mk.injEq] at hM
    obtain ⟨rfl, rfl, rfl⟩ := hM
    clear hbr
    go_enter Try.func41, Try.ntmps41
    replace R := Lib.hid ((R.out.alloc (.cells #[.int .i64 s, .slice a n cap] 24)).alloc (.cells #[.int .i64 0, .slice none 0 0] 24))
    have A := Lib.hid ((At2.new w (.int .i64 s) (.slice a n cap) 24).alloc (.cells #[.int .i64 0, .slice none 0 0] 24))
    have Z := Lib.hid (At2.place (w.alloc (.cells #[.int .i64 s, .slice a n cap] 24)) (.int .i64 0) (.slice none 0 0) 24 (w.heap.size + 1) (by simp))
    have BB := Lib.hid (below2 w (.cells #[.int .i64 s, .slice a n cap] 24) (.cells #[.int .i64 0, .slice none 0 0] 24))
    obtain ⟨qA1, qA2, qA3, qA4, qA5⟩ := A.out
    go_wp2_with fail
    refine (l01Is_any s a n cap xs _ R.out HF.out hn).mono ?_
    rintro e w1 ⟨rfl, hb⟩
    clear qA1 qA2 qA3 qA4 qA5
    replace R := Lib.hid (R.out.below hb)
    replace A := Lib.hid (A.out.below hb)
    replace Z := Lib.hid (Z.out.below hb)
    replace BB := Lib.hid (below_go BB.out hb BB.out.size)
    clear hb
    obtain ⟨qA1, qA2, qA3, qA4, qA5⟩ := A.out
    obtain ⟨qZ1, qZ2, qZ3, qZ4, qZ5⟩ := Z.out
    go_wp2
    obtain ⟨_, e2, e3, _, _⟩ := Z.out.fill (.int .i64 0) (.slice none 0 0)
    refine bodyPost_ret (v := .tuple #[.agg #[.int .i64 0, .slice none 0 0], .int .i64 1]) (by simp [results, Try.results41, go_sem, e2, e3]) rfl ⟨none, 0, 0, rfl, Nat.zero_le _, Own.nil _ _, ?_⟩
    exact (BB.out.setCell (p := ⟨w.heap.size + 1, 0, none⟩) (by simp) _).setCell (p := ⟨w.heap.size + 1, 1, none⟩) (by simp) _

end Go.Proofs.Ytmlejlediflaaaa
