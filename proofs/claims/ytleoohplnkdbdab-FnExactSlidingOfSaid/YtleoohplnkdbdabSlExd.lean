/- What a list of exchanges makes: the program. -/
import Derived.Test.YtleoohplnkdbdabSlExch
import Derived.Test.YtleoohplnkdbdabSlQA
namespace Go.Proofs.Ytleoohplnkdbdab
open Go.RowKit Go.ChangeShapes

set_option maxRecDepth 100000 in
set_option maxHeartbeats 1000000 in
theorem exchanged_any (n : Nat) (h8 : n ≤ 8) (a : Option Addr) (m cap : Nat) (xs : List Int) (w : World) (hr : Reads w a m xs) (hx : Lets n xs) (h1 : 1 ≤ n) (hm : m ≤ 1048576) :
  Calls Try.prog 120 #[.slice a m cap, .int .i64 n] w (RetArr .u8 w (exsR n xs)) := by
 have HX := Lib.hid hx
 have HR := Lib.hid hr
 clear hx hr
 have HL := Lib.hid HR.out.len
 go_enter Try.func120, Try.ntmps120
 have RZ := Lib.hid (Row8.zeros w .u8 54 w.heap.size rfl)
 have BB := Lib.hid (below1 w (.cells #[.int .u8 0, .int .u8 0, .int .u8 0, .int .u8 0, .int .u8 0, .int .u8 0, .int .u8 0, .int .u8 0] 54))
 go_wp2_with fail
 refine (nothing_any n h8 _).mono ?_
 rintro e w2 ⟨rfl, hb⟩
 replace RZ := Lib.hid (RZ.out.below hb)
 replace BB := Lib.hid (below_go BB.out hb BB.out.size)
 clear hb
 have zh := RZ.out.lt
 have RS := Lib.hid (Row8.place w2 .u8 (sameR n) 54 w2.heap.size rfl (mapR_len _ _ h8))
 replace RZ := Lib.hid (RZ.out.alloc (.cells #[.int .u8 (at8 (sameR n) 0), .int .u8 (at8 (sameR n) 1), .int .u8 (at8 (sameR n) 2), .int .u8 (at8 (sameR n) 3), .int .u8 (at8 (sameR n) 4), .int .u8 (at8 (sameR n) 5), .int .u8 (at8 (sameR n) 6), .int .u8 (at8 (sameR n) 7)] 54))
 replace BB := Lib.hid (BB.out.alloc BB.out.size (.cells #[.int .u8 (at8 (sameR n) 0), .int .u8 (at8 (sameR n) 1), .int .u8 (at8 (sameR n) 2), .int .u8 (at8 (sameR n) 3), .int .u8 (at8 (sameR n) 4), .int .u8 (at8 (sameR n) 5), .int .u8 (at8 (sameR n) 6), .int .u8 (at8 (sameR n) 7)] 54))
 go_upto_region 2 with fail
 obtain ⟨W, hW⟩ : ∃ W, W = w2.alloc (.cells #[.int .u8 (at8 (sameR n) 0), .int .u8 (at8 (sameR n) 1), .int .u8 (at8 (sameR n) 2), .int .u8 (at8 (sameR n) 3), .int .u8 (at8 (sameR n) 4), .int .u8 (at8 (sameR n) 5), .int .u8 (at8 (sameR n) 6), .int .u8 (at8 (sameR n) 7)] 54) := ⟨_, rfl⟩
 rw [← hW] at RZ RS BB ⊢
 clear hW
 obtain ⟨gh, hgh⟩ : ∃ gh, gh = w2.heap.size := ⟨_, rfl⟩
 rw [← hgh] at RS zh ⊢
 clear hgh
 go_wp2
 go_loopw [12] (fun i wr => ∃ j : Nat, j ≤ m ∧ i = .int .i64 j ∧ Row8 wr gh .u8 (exsR n (xs.take j)) ∧ Row8 wr w.heap.size .u8 [0, 0, 0, 0, 0, 0, 0, 0] ∧ Below w.heap.size w wr) (fun i _ => m - (intOf i).toNat)
 case atStart => exact ⟨0, Nat.zero_le _, rfl, RS.out, RZ.out, BB.out⟩
 case round =>
  obtain ⟨j, hj, rfl, hRS, hRZ, hBB⟩ := hrel
  clear RS RZ BB
  have RS := Lib.hid hRS
  have RZ := Lib.hid hRZ
  have BB := Lib.hid hBB
  clear hRS hRZ hBB
  have zb := BB.out.size
  by_cases hlt : j < m
  ·obtain ⟨b, off, rfl, hb, hc⟩ := HR.out.cells (by omega)
   have h1 := (BB.out.cell (p := ⟨b, off + j, none⟩) hb).trans (hc j hlt)
   obtain ⟨x0, x1⟩ := HX.out _ (getD_mem xs j (by rw [HL.out]; exact hlt))
   obtain ⟨q, hq0⟩ : ∃ q : Nat, xs.getD j 0 = (q : Int) + 1 := ⟨(xs.getD j 0 - 1).toNat, by omega⟩
   have hst := exsR_step n xs j (by rw [HL.out]; exact hlt)
   rw [hq0] at h1 x0 x1 hst
   rw [show ((q : Int) + 1 - 1).toNat = q by omega] at hst
   have HST := Lib.hid hst
   have hq : q + 1 < n := by omega
   have HW := Lib.hid (exsR_sim n (by omega) h8 (xs.take j) (HX.out.take j)).wide
   have HLL := Lib.hid RS.out.len
   obtain ⟨l, hl⟩ : ∃ l, l = exsR n (xs.take j) := ⟨_, rfl⟩
   rw [← hl] at RS HST HW HLL
   clear hl hst hq0 hc x0 x1
   obtain ⟨⟨q0, q1, q2, q3⟩, q4, q5, q6, q7⟩ := RS.out.all
   have zs := RS.out.lt
   have hz2 : w.heap.size ≠ gh := by omega
   go_wp2
   go_region_with
    (first
     | (go_at_call 72; refine (exchange_any n q h8 hq _).mono ?_; rintro e v1 ⟨rfl, g1⟩; obtain ⟨⟨r0, r1, r2, r3⟩, r4, r5, r6, r7⟩ := (RS.out.drew.below g1).all)
     | (go_at_call 109; refine (then_any n h8 l (exR n q) HLL.out (exR_len n q h8) HW.out _).mono ?_; rintro e v2 ⟨rfl, g2⟩; obtain ⟨⟨d0, d1, d2, d3⟩, d4, d5, d6, d7⟩ := ((RS.out.drew.below g1).below g2).all; obtain ⟨⟨f0, f1, f2, f3⟩, f4, f5, f6, f7⟩ := ((RS.out.drew.below g1).below g2).frees; have zq := ((RS.out.drew.below g1).below g2).lt))
   all_goals
    have R2 := Lib.hid ((RS.out.drew.below g1).below g2)
    have Z2 := Lib.hid ((RZ.out.drew.below g1).below g2)
    have B2 := Lib.hid (below_go (below_go BB.out.drew g1 zb) g2 (Nat.le_trans zb g1.size))
    clear g1 g2 q0 q1 q2 q3 q4 q5 q6 q7 r0 r1 r2 r3 r4 r5 r6 r7 d0 d1 d2 d3 d4 d5 d6 d7 f0 f1 f2 f3 f4 f5 f6 f7 h1
    go_wp2
    go_roundw
    case rel =>
     refine ⟨j + 1, by omega, by go_num, ?_, Z2.out.past gh (by omega) _ _ _ _ _ _ _ _, below_fill8 B2.out _ (by omega) _ _ _ _ _ _ _ _⟩
     rw [HST.out]
     exact R2.out.fill (thenR n l (exR n q)) (mapR_len _ _ h8)
    case measure => simp [intOf]; omega
  ·have hjm : j = m := by omega
   have hu : xs.take j = xs := List.take_of_length_le (by rw [HL.out, hjm]; exact Nat.le_refl _)
   rw [hu] at RS
   have HU := Lib.hid hu
   clear hu hjm
   obtain ⟨⟨c0, c1, c2, c3⟩, c4, c5, c6, c7⟩ := RS.out.all
   obtain ⟨⟨d0, d1, d2, d3⟩, d4, d5, d6, d7⟩ := RZ.out.all
   obtain ⟨⟨f0, f1, f2, f3⟩, f4, f5, f6, f7⟩ := RZ.out.frees
   have zq := RZ.out.lt
   go_wp2
   obtain ⟨⟨e0, e1, e2, e3⟩, e4, e5, e6, e7⟩ := (RZ.out.fill (exsR n xs) RS.out.len).all
   refine bodyPost_ret (v := arr8 .u8 (exsR n xs)) (by simp [results, Try.results120, go_sem, e0, e1, e2, e3, e4, e5, e6, e7]) rfl ⟨rfl, ?_⟩
   exact below_fill8 BB.out _ (by omega) _ _ _ _ _ _ _ _

end Go.Proofs.Ytleoohplnkdbdab

