/- SimpleOfWord: the model's answer. -/
import Derived.Test.YtinflgcpkeomlabExch
import Derived.Test.YtinflgcpkeomlabSLen
import Derived.Test.YtinflgcpkeomlabSThen
import Derived.Test.YtinflgcpkeomlabExB
import Derived.Test.YtinflgcpkeomlabBase2
import Derived.Test.YtinflgcpkeomlabIs
namespace Go.Proofs.Ytinflgcpkeomlab
open Go.RowKit Go.ChangeShapes

set_option maxRecDepth 100000 in
set_option maxHeartbeats 1000000 in
theorem specW_out (n : Int) (h : n < 1 ∨ 8 < n) (a : Option Addr) (m cap : Nat) (xs : List Int) (w : World) (_hr : Reads w a m xs) (_hm : m ≤ 1048576) :
    Calls Try.prog 23 #[.slice a m cap, .int .i64 n] w (fun e w' => e = .returned (.tuple #[arr8 .u8 (zeros8), .int .i64 2]) ∧ Below w.heap.size w w') := by
  have HIN := Lib.hid ((inB_not n 1 8).2 (by omega))
  clear h
  go_enter Try.func23, Try.ntmps23
  have RZ := Lib.hid (Row8.zeros w .u8 23 w.heap.size rfl)
  have BB := Lib.hid (below1 w (.cells #[.int .u8 0, .int .u8 0, .int .u8 0, .int .u8 0, .int .u8 0, .int .u8 0, .int .u8 0, .int .u8 0] 23))
  go_wp2_with fail
  refine (l01In_any _ _ _ _).mono ?_
  rw [HIN.out]
  rintro e w' ⟨rfl, rfl⟩
  go_wp2
  refine bodyPost_ret (v := .tuple #[arr8 .u8 zeros8, .int .i64 2]) (by simp [results, Try.results23, go_sem, zeros8, at8]) rfl ⟨rfl, BB.out⟩

set_option maxRecDepth 100000 in
set_option maxHeartbeats 1000000 in
theorem specW_bad (n : Nat) (h1 : 1 ≤ n) (h8 : n ≤ 8) (a : Option Addr) (m cap : Nat) (xs : List Int) (w : World) (hr : Reads w a m xs) (hx : ¬ Lets n xs) (hm : m ≤ 1048576) :
    Calls Try.prog 23 #[.slice a m cap, .int .i64 n] w (fun e w' => e = .returned (.tuple #[arr8 .u8 (zeros8), .int .i64 2]) ∧ Below w.heap.size w w') := by
  have HL := Lib.hid hr.len
  have HR := Lib.hid hr
  obtain ⟨p, hp, hb, ha⟩ := first_bad n xs hx
  rw [HL.out] at hp
  have HB := Lib.hid hb
  have HA : Hid (∀ j, j < p → 1 ≤ xs.getD j 0 ∧ xs.getD j 0 < n) := Lib.hid ha
  clear hb ha hx hr
  have HIN := Lib.hid ((inB_iff (n : Int) 1 8).2 ⟨by omega, by omega⟩)
  go_enter Try.func23, Try.ntmps23
  have RZ := Lib.hid (Row8.zeros w .u8 23 w.heap.size rfl)
  have BB := Lib.hid (below1 w (.cells #[.int .u8 0, .int .u8 0, .int .u8 0, .int .u8 0, .int .u8 0, .int .u8 0, .int .u8 0, .int .u8 0] 23))
  go_wp2_with fail
  refine (l01In_any _ _ _ _).mono ?_
  rw [HIN.out]
  rintro e w' ⟨rfl, rfl⟩
  go_wp2_with fail
  refine (l02Same_any n h8 _).mono ?_
  rintro e w2 ⟨rfl, hb⟩
  replace RZ := Lib.hid (RZ.out.below hb)
  replace BB := Lib.hid (below_go BB.out hb BB.out.size)
  clear hb
  have zh := RZ.out.lt
  have RS := Lib.hid (Row8.place w2 .u8 (sameR n) 23 w2.heap.size rfl (mapR_len _ _ h8))
  replace RZ := Lib.hid (RZ.out.alloc (.cells #[.int .u8 (at8 (sameR n) 0), .int .u8 (at8 (sameR n) 1), .int .u8 (at8 (sameR n) 2), .int .u8 (at8 (sameR n) 3), .int .u8 (at8 (sameR n) 4), .int .u8 (at8 (sameR n) 5), .int .u8 (at8 (sameR n) 6), .int .u8 (at8 (sameR n) 7)] 23))
  replace BB := Lib.hid (BB.out.alloc BB.out.size (.cells #[.int .u8 (at8 (sameR n) 0), .int .u8 (at8 (sameR n) 1), .int .u8 (at8 (sameR n) 2), .int .u8 (at8 (sameR n) 3), .int .u8 (at8 (sameR n) 4), .int .u8 (at8 (sameR n) 5), .int .u8 (at8 (sameR n) 6), .int .u8 (at8 (sameR n) 7)] 23))
  go_upto_region 4 with fail
  obtain ⟨W, hW⟩ : ∃ W, W = w2.alloc (.cells #[.int .u8 (at8 (sameR n) 0), .int .u8 (at8 (sameR n) 1), .int .u8 (at8 (sameR n) 2), .int .u8 (at8 (sameR n) 3), .int .u8 (at8 (sameR n) 4), .int .u8 (at8 (sameR n) 5), .int .u8 (at8 (sameR n) 6), .int .u8 (at8 (sameR n) 7)] 23) := ⟨_, rfl⟩
  rw [← hW] at RZ RS BB ⊢
  clear hW
  obtain ⟨gh, hgh⟩ : ∃ gh, gh = w2.heap.size := ⟨_, rfl⟩
  rw [← hgh] at RS zh ⊢
  clear hgh
  go_wp2
  go_loopw [7] (fun i wr => ∃ j : Nat, j ≤ p ∧ i = .int .i64 j ∧ Row8 wr gh .u8 (exsR n (xs.take j)) ∧ Row8 wr w.heap.size .u8 [0, 0, 0, 0, 0, 0, 0, 0] ∧ Below w.heap.size w wr) (fun i _ => m - (intOf i).toNat)
  case atStart => exact ⟨0, Nat.zero_le _, rfl, RS.out, RZ.out, BB.out⟩
  case round =>
    obtain ⟨j, hj, rfl, hRS, hRZ, hBB⟩ := hrel
    clear RS RZ BB
    have RS := Lib.hid hRS
    have RZ := Lib.hid hRZ
    have BB := Lib.hid hBB
    clear hRS hRZ hBB
    have zb := BB.out.size
    by_cases hlt : j < p
    · obtain ⟨b, off, rfl, hb, hc⟩ := HR.out.cells (by omega)
      have h1' := (BB.out.cell (p := ⟨b, off + j, none⟩) hb).trans (hc j (by omega))
      obtain ⟨x0, x1⟩ := HA.out j hlt
      obtain ⟨q, hq0⟩ : ∃ q : Nat, xs.getD j 0 = (q : Int) + 1 := ⟨(xs.getD j 0 - 1).toNat, by omega⟩
      have hst := exsR_step n xs j (by rw [HL.out]; omega)
      rw [hq0] at h1' x0 x1 hst
      rw [show ((q : Int) + 1 - 1).toNat = q by omega] at hst
      have HST := Lib.hid hst
      have hq : q + 1 < n := by omega
      have HIJ := Lib.hid ((inB_iff ((q : Int) + 1) 1 ((n : Int) - 1)).2 ⟨by omega, by omega⟩)
      have hlets : Lets n (xs.take j) := fun y hy => by
        obtain ⟨i, hi, rfl⟩ := List.getElem_of_mem hy
        have := HA.out i (by rw [List.length_take] at hi; omega)
        have e : xs.getD i 0 = (xs.take j)[i] := by simp [List.getD, List.getElem?_eq_getElem (show i < xs.length by rw [List.length_take] at hi; omega)]
        rw [e] at this
        exact this
      have HW := Lib.hid (exsR_sim n (by omega) h8 (xs.take j) hlets).wide
      have HLL := Lib.hid RS.out.len
      obtain ⟨l, hl⟩ : ∃ l, l = exsR n (xs.take j) := ⟨_, rfl⟩
      rw [← hl] at RS HST HW HLL
      clear hl hst hq0 hc x0 x1 hlets
      go_wp2_with fail
      refine (l01In_any _ _ _ _).mono ?_
      rw [HIJ.out]
      rintro e w' ⟨rfl, rfl⟩
      obtain ⟨⟨q0, q1, q2, q3⟩, q4, q5, q6, q7⟩ := RS.out.all
      have zs := RS.out.lt
      have hz2 : w.heap.size ≠ gh := by omega
      have jb1 : (j : Int) < m := by omega
      have jb2 : (0 : Int) ≤ j := by omega
      go_wp2
      go_region_with
        (first
          | (go_at_call 66; refine (l02Exchange_any n q h8 hq _).mono ?_; rintro e v1 ⟨rfl, g1⟩; obtain ⟨⟨r0, r1, r2, r3⟩, r4, r5, r6, r7⟩ := (RS.out.drew.below g1).all)
          | (go_at_call 65; refine (l02Then_any n h8 l (exR n q) HLL.out (exR_len n q h8) HW.out _).mono ?_; rintro e v2 ⟨rfl, g2⟩; obtain ⟨⟨d0, d1, d2, d3⟩, d4, d5, d6, d7⟩ := ((RS.out.drew.below g1).below g2).all; obtain ⟨⟨f0, f1, f2, f3⟩, f4, f5, f6, f7⟩ := ((RS.out.drew.below g1).below g2).frees; have zq := ((RS.out.drew.below g1).below g2).lt))
      all_goals
        have R2 := Lib.hid ((RS.out.drew.below g1).below g2)
        have Z2 := Lib.hid ((RZ.out.drew.below g1).below g2)
        have B2 := Lib.hid (below_go (below_go BB.out.drew g1 zb) g2 (Nat.le_trans zb g1.size))
        clear g1 g2 q0 q1 q2 q3 q4 q5 q6 q7 r0 r1 r2 r3 r4 r5 r6 r7 d0 d1 d2 d3 d4 d5 d6 d7 f0 f1 f2 f3 f4 f5 f6 f7 h1'
        go_wp2
        go_roundw
        case rel =>
          refine ⟨j + 1, by omega, by go_num, ?_, Z2.out.past gh (by omega) _ _ _ _ _ _ _ _, below_fill8 B2.out _ (by omega) _ _ _ _ _ _ _ _⟩
          rw [HST.out]
          exact R2.out.fill (thenR n l (exR n q)) (mapR_len _ _ h8)
        case measure => simp [intOf]; omega
    · have hjp : j = p := by omega
      subst hjp
      obtain ⟨b, off, rfl, hb, hc⟩ := HR.out.cells (by omega)
      have h1' := (BB.out.cell (p := ⟨b, off + j, none⟩) hb).trans (hc j (by omega))
      obtain ⟨x, hx⟩ : ∃ x, x = xs.getD j 0 := ⟨_, rfl⟩
      have hbad := HB.out
      rw [← hx] at h1' hbad
      clear hx hc
      have HIJ := Lib.hid ((inB_not x 1 ((n : Int) - 1)).2 (by omega))
      go_wp2_with fail
      refine (l01In_any _ _ _ _).mono ?_
      rw [HIJ.out]
      rintro e w' ⟨rfl, rfl⟩
      obtain ⟨⟨d0, d1, d2, d3⟩, d4, d5, d6, d7⟩ := RZ.out.all
      obtain ⟨⟨f0, f1, f2, f3⟩, f4, f5, f6, f7⟩ := RZ.out.frees
      have zq := RZ.out.lt
      go_wp2
      obtain ⟨⟨e0, e1, e2, e3⟩, e4, e5, e6, e7⟩ := RZ.out.fillz
      refine bodyPost_ret (v := .tuple #[arr8 .u8 zeros8, .int .i64 2]) (by simp [results, Try.results23, go_sem, e0, e1, e2, e3, e4, e5, e6, e7, zeros8, at8]) rfl ⟨rfl, ?_⟩
      exact below_fill8 BB.out _ (by omega) _ _ _ _ _ _ _ _

set_option maxRecDepth 100000 in
set_option maxHeartbeats 1000000 in
theorem specW_long (n : Nat) (h1 : 1 ≤ n) (h8 : n ≤ 8) (a : Option Addr) (m cap : Nat) (xs : List Int) (w : World) (hr : Reads w a m xs) (hx : Lets n xs) (hd : lenR (exsR n xs) n ≠ (m : Int)) (hm : m ≤ 1048576) :
    Calls Try.prog 23 #[.slice a m cap, .int .i64 n] w (fun e w' => e = .returned (.tuple #[arr8 .u8 (zeros8), .int .i64 5]) ∧ Below w.heap.size w w') := by
  have HL := Lib.hid hr.len
  have HR := Lib.hid hr
  have HX := Lib.hid hx
  clear hx hr
  obtain ⟨p, hp⟩ : ∃ p, p = m := ⟨_, rfl⟩
  have HA : Hid (∀ j, j < p → 1 ≤ xs.getD j 0 ∧ xs.getD j 0 < n) := Lib.hid (fun j hj => HX.out _ (getD_mem xs j (by rw [HL.out]; omega)))
  have HP := Lib.hid hp
  have hp2 : p ≤ m := by omega
  clear hp
  have t1 : (lenR (exsR n xs) n != (m : Int)) = true := by rw [bne_iff_ne]; exact hd
  have HT := Lib.hid t1
  clear t1 hd
  have HIN := Lib.hid ((inB_iff (n : Int) 1 8).2 ⟨by omega, by omega⟩)
  go_enter Try.func23, Try.ntmps23
  have RZ := Lib.hid (Row8.zeros w .u8 23 w.heap.size rfl)
  have BB := Lib.hid (below1 w (.cells #[.int .u8 0, .int .u8 0, .int .u8 0, .int .u8 0, .int .u8 0, .int .u8 0, .int .u8 0, .int .u8 0] 23))
  go_wp2_with fail
  refine (l01In_any _ _ _ _).mono ?_
  rw [HIN.out]
  rintro e w' ⟨rfl, rfl⟩
  go_wp2_with fail
  refine (l02Same_any n h8 _).mono ?_
  rintro e w2 ⟨rfl, hb⟩
  replace RZ := Lib.hid (RZ.out.below hb)
  replace BB := Lib.hid (below_go BB.out hb BB.out.size)
  clear hb
  have zh := RZ.out.lt
  have RS := Lib.hid (Row8.place w2 .u8 (sameR n) 23 w2.heap.size rfl (mapR_len _ _ h8))
  replace RZ := Lib.hid (RZ.out.alloc (.cells #[.int .u8 (at8 (sameR n) 0), .int .u8 (at8 (sameR n) 1), .int .u8 (at8 (sameR n) 2), .int .u8 (at8 (sameR n) 3), .int .u8 (at8 (sameR n) 4), .int .u8 (at8 (sameR n) 5), .int .u8 (at8 (sameR n) 6), .int .u8 (at8 (sameR n) 7)] 23))
  replace BB := Lib.hid (BB.out.alloc BB.out.size (.cells #[.int .u8 (at8 (sameR n) 0), .int .u8 (at8 (sameR n) 1), .int .u8 (at8 (sameR n) 2), .int .u8 (at8 (sameR n) 3), .int .u8 (at8 (sameR n) 4), .int .u8 (at8 (sameR n) 5), .int .u8 (at8 (sameR n) 6), .int .u8 (at8 (sameR n) 7)] 23))
  go_upto_region 4 with fail
  obtain ⟨W, hW⟩ : ∃ W, W = w2.alloc (.cells #[.int .u8 (at8 (sameR n) 0), .int .u8 (at8 (sameR n) 1), .int .u8 (at8 (sameR n) 2), .int .u8 (at8 (sameR n) 3), .int .u8 (at8 (sameR n) 4), .int .u8 (at8 (sameR n) 5), .int .u8 (at8 (sameR n) 6), .int .u8 (at8 (sameR n) 7)] 23) := ⟨_, rfl⟩
  rw [← hW] at RZ RS BB ⊢
  clear hW
  obtain ⟨gh, hgh⟩ : ∃ gh, gh = w2.heap.size := ⟨_, rfl⟩
  rw [← hgh] at RS zh ⊢
  clear hgh
  go_wp2
  go_loopw [7] (fun i wr => ∃ j : Nat, j ≤ p ∧ i = .int .i64 j ∧ Row8 wr gh .u8 (exsR n (xs.take j)) ∧ Row8 wr w.heap.size .u8 [0, 0, 0, 0, 0, 0, 0, 0] ∧ Below w.heap.size w wr) (fun i _ => m - (intOf i).toNat)
  case atStart => exact ⟨0, Nat.zero_le _, rfl, RS.out, RZ.out, BB.out⟩
  case round =>
    obtain ⟨j, hj, rfl, hRS, hRZ, hBB⟩ := hrel
    clear RS RZ BB
    have RS := Lib.hid hRS
    have RZ := Lib.hid hRZ
    have BB := Lib.hid hBB
    clear hRS hRZ hBB
    have zb := BB.out.size
    by_cases hlt : j < p
    · obtain ⟨b, off, rfl, hb, hc⟩ := HR.out.cells (by omega)
      have h1' := (BB.out.cell (p := ⟨b, off + j, none⟩) hb).trans (hc j (by omega))
      obtain ⟨x0, x1⟩ := HA.out j hlt
      obtain ⟨q, hq0⟩ : ∃ q : Nat, xs.getD j 0 = (q : Int) + 1 := ⟨(xs.getD j 0 - 1).toNat, by omega⟩
      have hst := exsR_step n xs j (by rw [HL.out]; omega)
      rw [hq0] at h1' x0 x1 hst
      rw [show ((q : Int) + 1 - 1).toNat = q by omega] at hst
      have HST := Lib.hid hst
      have hq : q + 1 < n := by omega
      have HIJ := Lib.hid ((inB_iff ((q : Int) + 1) 1 ((n : Int) - 1)).2 ⟨by omega, by omega⟩)
      have hlets : Lets n (xs.take j) := fun y hy => by
        obtain ⟨i, hi, rfl⟩ := List.getElem_of_mem hy
        have := HA.out i (by rw [List.length_take] at hi; omega)
        have e : xs.getD i 0 = (xs.take j)[i] := by simp [List.getD, List.getElem?_eq_getElem (show i < xs.length by rw [List.length_take] at hi; omega)]
        rw [e] at this
        exact this
      have HW := Lib.hid (exsR_sim n (by omega) h8 (xs.take j) hlets).wide
      have HLL := Lib.hid RS.out.len
      obtain ⟨l, hl⟩ : ∃ l, l = exsR n (xs.take j) := ⟨_, rfl⟩
      rw [← hl] at RS HST HW HLL
      clear hl hst hq0 hc x0 x1 hlets
      go_wp2_with fail
      refine (l01In_any _ _ _ _).mono ?_
      rw [HIJ.out]
      rintro e w' ⟨rfl, rfl⟩
      obtain ⟨⟨q0, q1, q2, q3⟩, q4, q5, q6, q7⟩ := RS.out.all
      have zs := RS.out.lt
      have hz2 : w.heap.size ≠ gh := by omega
      have jb1 : (j : Int) < m := by omega
      have jb2 : (0 : Int) ≤ j := by omega
      go_wp2
      go_region_with
        (first
          | (go_at_call 66; refine (l02Exchange_any n q h8 hq _).mono ?_; rintro e v1 ⟨rfl, g1⟩; obtain ⟨⟨r0, r1, r2, r3⟩, r4, r5, r6, r7⟩ := (RS.out.drew.below g1).all)
          | (go_at_call 65; refine (l02Then_any n h8 l (exR n q) HLL.out (exR_len n q h8) HW.out _).mono ?_; rintro e v2 ⟨rfl, g2⟩; obtain ⟨⟨d0, d1, d2, d3⟩, d4, d5, d6, d7⟩ := ((RS.out.drew.below g1).below g2).all; obtain ⟨⟨f0, f1, f2, f3⟩, f4, f5, f6, f7⟩ := ((RS.out.drew.below g1).below g2).frees; have zq := ((RS.out.drew.below g1).below g2).lt))
      all_goals
        have R2 := Lib.hid ((RS.out.drew.below g1).below g2)
        have Z2 := Lib.hid ((RZ.out.drew.below g1).below g2)
        have B2 := Lib.hid (below_go (below_go BB.out.drew g1 zb) g2 (Nat.le_trans zb g1.size))
        clear g1 g2 q0 q1 q2 q3 q4 q5 q6 q7 r0 r1 r2 r3 r4 r5 r6 r7 d0 d1 d2 d3 d4 d5 d6 d7 f0 f1 f2 f3 f4 f5 f6 f7 h1'
        go_wp2
        go_roundw
        case rel =>
          refine ⟨j + 1, by omega, by go_num, ?_, Z2.out.past gh (by omega) _ _ _ _ _ _ _ _, below_fill8 B2.out _ (by omega) _ _ _ _ _ _ _ _⟩
          rw [HST.out]
          exact R2.out.fill (thenR n l (exR n q)) (mapR_len _ _ h8)
        case measure => simp [intOf]; omega
    · have hjm : j = p := by omega
      have hu : xs.take j = xs := List.take_of_length_le (by rw [HL.out, hjm, HP.out]; exact Nat.le_refl _)
      rw [hu] at RS
      have hjm2 : j = m := by rw [hjm, HP.out]
      have HJ := Lib.hid hjm2
      clear hu hjm hjm2
      have jb1 : ¬ (j : Int) < m := by rw [HJ.out]; omega
      have HLL := Lib.hid RS.out.len
      obtain ⟨⟨qRS0, qRS1, qRS2, qRS3⟩, qRS4, qRS5, qRS6, qRS7⟩ := RS.out.all
      go_wp2_with fail
      refine (l02Length_any n h8 (exsR n xs) HLL.out _).mono ?_
      rintro e w4 ⟨rfl, hb⟩
      clear qRS0 qRS1 qRS2 qRS3 qRS4 qRS5 qRS6 qRS7
      replace RZ := Lib.hid (RZ.out.below hb)
      replace RS := Lib.hid (RS.out.below hb)
      replace BB := Lib.hid (below_go BB.out hb BB.out.size)
      clear hb
      have t1 := HT.out
      obtain ⟨⟨d0, d1, d2, d3⟩, d4, d5, d6, d7⟩ := RZ.out.all
      obtain ⟨⟨f0, f1, f2, f3⟩, f4, f5, f6, f7⟩ := RZ.out.frees
      have zq := RZ.out.lt
      go_wp2
      obtain ⟨⟨e0, e1, e2, e3⟩, e4, e5, e6, e7⟩ := RZ.out.fillz
      refine bodyPost_ret (v := .tuple #[arr8 .u8 zeros8, .int .i64 5]) (by simp [results, Try.results23, go_sem, e0, e1, e2, e3, e4, e5, e6, e7, zeros8, at8]) rfl ⟨rfl, ?_⟩
      exact below_fill8 BB.out _ (by omega) _ _ _ _ _ _ _ _

set_option maxRecDepth 100000 in
set_option maxHeartbeats 1000000 in
theorem specW_yes (n : Nat) (h1 : 1 ≤ n) (h8 : n ≤ 8) (a : Option Addr) (m cap : Nat) (xs : List Int) (w : World) (hr : Reads w a m xs) (hx : Lets n xs) (hd : lenR (exsR n xs) n = (m : Int)) (hm : m ≤ 1048576) :
    Calls Try.prog 23 #[.slice a m cap, .int .i64 n] w (fun e w' => e = .returned (.tuple #[arr8 .u8 (exsR n xs), .int .i64 0]) ∧ Below w.heap.size w w') := by
  have HL := Lib.hid hr.len
  have HR := Lib.hid hr
  have HX := Lib.hid hx
  clear hx hr
  obtain ⟨p, hp⟩ : ∃ p, p = m := ⟨_, rfl⟩
  have HA : Hid (∀ j, j < p → 1 ≤ xs.getD j 0 ∧ xs.getD j 0 < n) := Lib.hid (fun j hj => HX.out _ (getD_mem xs j (by rw [HL.out]; omega)))
  have HP := Lib.hid hp
  have hp2 : p ≤ m := by omega
  clear hp
  have t1 : (lenR (exsR n xs) n != (m : Int)) = false := by rw [hd]; simp
  have HT := Lib.hid t1
  clear t1 hd
  have HIN := Lib.hid ((inB_iff (n : Int) 1 8).2 ⟨by omega, by omega⟩)
  go_enter Try.func23, Try.ntmps23
  have RZ := Lib.hid (Row8.zeros w .u8 23 w.heap.size rfl)
  have BB := Lib.hid (below1 w (.cells #[.int .u8 0, .int .u8 0, .int .u8 0, .int .u8 0, .int .u8 0, .int .u8 0, .int .u8 0, .int .u8 0] 23))
  go_wp2_with fail
  refine (l01In_any _ _ _ _).mono ?_
  rw [HIN.out]
  rintro e w' ⟨rfl, rfl⟩
  go_wp2_with fail
  refine (l02Same_any n h8 _).mono ?_
  rintro e w2 ⟨rfl, hb⟩
  replace RZ := Lib.hid (RZ.out.below hb)
  replace BB := Lib.hid (below_go BB.out hb BB.out.size)
  clear hb
  have zh := RZ.out.lt
  have RS := Lib.hid (Row8.place w2 .u8 (sameR n) 23 w2.heap.size rfl (mapR_len _ _ h8))
  replace RZ := Lib.hid (RZ.out.alloc (.cells #[.int .u8 (at8 (sameR n) 0), .int .u8 (at8 (sameR n) 1), .int .u8 (at8 (sameR n) 2), .int .u8 (at8 (sameR n) 3), .int .u8 (at8 (sameR n) 4), .int .u8 (at8 (sameR n) 5), .int .u8 (at8 (sameR n) 6), .int .u8 (at8 (sameR n) 7)] 23))
  replace BB := Lib.hid (BB.out.alloc BB.out.size (.cells #[.int .u8 (at8 (sameR n) 0), .int .u8 (at8 (sameR n) 1), .int .u8 (at8 (sameR n) 2), .int .u8 (at8 (sameR n) 3), .int .u8 (at8 (sameR n) 4), .int .u8 (at8 (sameR n) 5), .int .u8 (at8 (sameR n) 6), .int .u8 (at8 (sameR n) 7)] 23))
  go_upto_region 4 with fail
  obtain ⟨W, hW⟩ : ∃ W, W = w2.alloc (.cells #[.int .u8 (at8 (sameR n) 0), .int .u8 (at8 (sameR n) 1), .int .u8 (at8 (sameR n) 2), .int .u8 (at8 (sameR n) 3), .int .u8 (at8 (sameR n) 4), .int .u8 (at8 (sameR n) 5), .int .u8 (at8 (sameR n) 6), .int .u8 (at8 (sameR n) 7)] 23) := ⟨_, rfl⟩
  rw [← hW] at RZ RS BB ⊢
  clear hW
  obtain ⟨gh, hgh⟩ : ∃ gh, gh = w2.heap.size := ⟨_, rfl⟩
  rw [← hgh] at RS zh ⊢
  clear hgh
  go_wp2
  go_loopw [7] (fun i wr => ∃ j : Nat, j ≤ p ∧ i = .int .i64 j ∧ Row8 wr gh .u8 (exsR n (xs.take j)) ∧ Row8 wr w.heap.size .u8 [0, 0, 0, 0, 0, 0, 0, 0] ∧ Below w.heap.size w wr) (fun i _ => m - (intOf i).toNat)
  case atStart => exact ⟨0, Nat.zero_le _, rfl, RS.out, RZ.out, BB.out⟩
  case round =>
    obtain ⟨j, hj, rfl, hRS, hRZ, hBB⟩ := hrel
    clear RS RZ BB
    have RS := Lib.hid hRS
    have RZ := Lib.hid hRZ
    have BB := Lib.hid hBB
    clear hRS hRZ hBB
    have zb := BB.out.size
    by_cases hlt : j < p
    · obtain ⟨b, off, rfl, hb, hc⟩ := HR.out.cells (by omega)
      have h1' := (BB.out.cell (p := ⟨b, off + j, none⟩) hb).trans (hc j (by omega))
      obtain ⟨x0, x1⟩ := HA.out j hlt
      obtain ⟨q, hq0⟩ : ∃ q : Nat, xs.getD j 0 = (q : Int) + 1 := ⟨(xs.getD j 0 - 1).toNat, by omega⟩
      have hst := exsR_step n xs j (by rw [HL.out]; omega)
      rw [hq0] at h1' x0 x1 hst
      rw [show ((q : Int) + 1 - 1).toNat = q by omega] at hst
      have HST := Lib.hid hst
      have hq : q + 1 < n := by omega
      have HIJ := Lib.hid ((inB_iff ((q : Int) + 1) 1 ((n : Int) - 1)).2 ⟨by omega, by omega⟩)
      have hlets : Lets n (xs.take j) := fun y hy => by
        obtain ⟨i, hi, rfl⟩ := List.getElem_of_mem hy
        have := HA.out i (by rw [List.length_take] at hi; omega)
        have e : xs.getD i 0 = (xs.take j)[i] := by simp [List.getD, List.getElem?_eq_getElem (show i < xs.length by rw [List.length_take] at hi; omega)]
        rw [e] at this
        exact this
      have HW := Lib.hid (exsR_sim n (by omega) h8 (xs.take j) hlets).wide
      have HLL := Lib.hid RS.out.len
      obtain ⟨l, hl⟩ : ∃ l, l = exsR n (xs.take j) := ⟨_, rfl⟩
      rw [← hl] at RS HST HW HLL
      clear hl hst hq0 hc x0 x1 hlets
      go_wp2_with fail
      refine (l01In_any _ _ _ _).mono ?_
      rw [HIJ.out]
      rintro e w' ⟨rfl, rfl⟩
      obtain ⟨⟨q0, q1, q2, q3⟩, q4, q5, q6, q7⟩ := RS.out.all
      have zs := RS.out.lt
      have hz2 : w.heap.size ≠ gh := by omega
      have jb1 : (j : Int) < m := by omega
      have jb2 : (0 : Int) ≤ j := by omega
      go_wp2
      go_region_with
        (first
          | (go_at_call 66; refine (l02Exchange_any n q h8 hq _).mono ?_; rintro e v1 ⟨rfl, g1⟩; obtain ⟨⟨r0, r1, r2, r3⟩, r4, r5, r6, r7⟩ := (RS.out.drew.below g1).all)
          | (go_at_call 65; refine (l02Then_any n h8 l (exR n q) HLL.out (exR_len n q h8) HW.out _).mono ?_; rintro e v2 ⟨rfl, g2⟩; obtain ⟨⟨d0, d1, d2, d3⟩, d4, d5, d6, d7⟩ := ((RS.out.drew.below g1).below g2).all; obtain ⟨⟨f0, f1, f2, f3⟩, f4, f5, f6, f7⟩ := ((RS.out.drew.below g1).below g2).frees; have zq := ((RS.out.drew.below g1).below g2).lt))
      all_goals
        have R2 := Lib.hid ((RS.out.drew.below g1).below g2)
        have Z2 := Lib.hid ((RZ.out.drew.below g1).below g2)
        have B2 := Lib.hid (below_go (below_go BB.out.drew g1 zb) g2 (Nat.le_trans zb g1.size))
        clear g1 g2 q0 q1 q2 q3 q4 q5 q6 q7 r0 r1 r2 r3 r4 r5 r6 r7 d0 d1 d2 d3 d4 d5 d6 d7 f0 f1 f2 f3 f4 f5 f6 f7 h1'
        go_wp2
        go_roundw
        case rel =>
          refine ⟨j + 1, by omega, by go_num, ?_, Z2.out.past gh (by omega) _ _ _ _ _ _ _ _, below_fill8 B2.out _ (by omega) _ _ _ _ _ _ _ _⟩
          rw [HST.out]
          exact R2.out.fill (thenR n l (exR n q)) (mapR_len _ _ h8)
        case measure => simp [intOf]; omega
    · have hjm : j = p := by omega
      have hu : xs.take j = xs := List.take_of_length_le (by rw [HL.out, hjm, HP.out]; exact Nat.le_refl _)
      rw [hu] at RS
      have hjm2 : j = m := by rw [hjm, HP.out]
      have HJ := Lib.hid hjm2
      clear hu hjm hjm2
      have jb1 : ¬ (j : Int) < m := by rw [HJ.out]; omega
      have HLL := Lib.hid RS.out.len
      obtain ⟨⟨qRS0, qRS1, qRS2, qRS3⟩, qRS4, qRS5, qRS6, qRS7⟩ := RS.out.all
      go_wp2_with fail
      refine (l02Length_any n h8 (exsR n xs) HLL.out _).mono ?_
      rintro e w4 ⟨rfl, hb⟩
      clear qRS0 qRS1 qRS2 qRS3 qRS4 qRS5 qRS6 qRS7
      replace RZ := Lib.hid (RZ.out.below hb)
      replace RS := Lib.hid (RS.out.below hb)
      replace BB := Lib.hid (below_go BB.out hb BB.out.size)
      clear hb
      have t1 := HT.out
      obtain ⟨⟨c0, c1, c2, c3⟩, c4, c5, c6, c7⟩ := RS.out.all
      obtain ⟨⟨d0, d1, d2, d3⟩, d4, d5, d6, d7⟩ := RZ.out.all
      obtain ⟨⟨f0, f1, f2, f3⟩, f4, f5, f6, f7⟩ := RZ.out.frees
      have zq := RZ.out.lt
      go_wp2
      obtain ⟨⟨e0, e1, e2, e3⟩, e4, e5, e6, e7⟩ := (RZ.out.fill (exsR n xs) HLL.out).all
      refine bodyPost_ret (v := .tuple #[arr8 .u8 (exsR n xs), .int .i64 0]) (by simp [results, Try.results23, go_sem, e0, e1, e2, e3, e4, e5, e6, e7]) rfl ⟨rfl, ?_⟩
      exact below_fill8 BB.out _ (by omega) _ _ _ _ _ _ _ _

theorem specW_any (n : Int) (a : Option Addr) (m cap : Nat) (xs : List Int) (r : List Int) (c : Int) (hM : mWordIn n xs = (r, c)) (w : World) (hr : Reads w a m xs) (hm : m ≤ 1048576) :
    Calls Try.prog 23 #[.slice a m cap, .int .i64 n] w (fun e w' => e = .returned (.tuple #[arr8 .u8 r, .int .i64 c]) ∧ Below w.heap.size w w') := by
  by_cases h : 1 ≤ n ∧ n ≤ 8
  · obtain ⟨k, rfl⟩ : ∃ k : Nat, n = k := ⟨n.toNat, by omega⟩
    simp only [mWordIn, if_pos h, Int.toNat_natCast] at hM
    by_cases ha : (xs.all fun x => decide (1 ≤ x) && decide (x < (k : Int))) = true
    · rw [if_pos ha] at hM
      have hx := (lets_iff k xs).1 ha
      rw [hr.len] at hM
      by_cases hd : lenR (exsR k xs) k = (m : Int)
      · rw [if_pos hd] at hM
        obtain ⟨rfl, rfl⟩ := Prod.mk.inj hM
        exact specW_yes k (by omega) (by omega) a m cap xs w hr hx hd hm
      · rw [if_neg hd] at hM
        obtain ⟨rfl, rfl⟩ := Prod.mk.inj hM
        exact specW_long k (by omega) (by omega) a m cap xs w hr hx hd hm
    · rw [if_neg ha] at hM
      obtain ⟨rfl, rfl⟩ := Prod.mk.inj hM
      exact specW_bad k (by omega) (by omega) a m cap xs w hr (fun hl => ha ((lets_iff k xs).2 hl)) hm
  · simp only [mWordIn, if_neg h] at hM
    obtain ⟨rfl, rfl⟩ := Prod.mk.inj hM
    exact specW_out n (by omega) a m cap xs w hr hm

end Go.Proofs.Ytinflgcpkeomlab
