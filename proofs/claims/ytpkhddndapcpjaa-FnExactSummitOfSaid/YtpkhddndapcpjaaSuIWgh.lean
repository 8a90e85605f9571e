/- The program: letters are moved from one simple braid to the one ahead of it. -/
import Derived.Test.YtpkhddndapcpjaaSuIRows
import Derived.Test.YtpkhddndapcpjaaSuIBeg
import Derived.Test.YtpkhddndapcpjaaSuExch
import Derived.Test.YtpkhddndapcpjaaSuKit11
import Derived.Deep.RegionHeld3
import Derived.Deep.LoopGhost
import Derived.WalkMore
namespace Go.Proofs.Ytpkhddndapcpjaa
open Go.RowKit Go.ChangeShapes

/-- What a function that hands back two arrays gives. -/
def RetTwo (w : World) (a b : List Int) (e : Ending) (w' : World) : Prop := e = .returned (.tuple #[arr8 .u8 a, arr8 .u8 b]) ∧ Below w.heap.size w w'

set_option maxRecDepth 100000 in
set_option maxHeartbeats 2000000 in
theorem weigh_any (n : Nat) (a x : List Int) (sa : Sim n a) (sx : Sim n x) (w : World) :
  Calls Try.prog 68 #[arr8 .u8 a, arr8 .u8 x, .int .i64 n] w (RetTwo w (backR n (weighR n (backR n a) x).1) (weighR n (backR n a) x).2) := by
 have h1 := sa.lo
 have h8 := sa.hi
 have SA := Lib.hid sa
 have SX := Lib.hid sx
 have SB := Lib.hid (backR_sim sa)
 clear sa sx
 obtain ⟨b0, hb0⟩ : ∃ b0, b0 = backR n a := ⟨_, rfl⟩
 rw [← hb0] at SB ⊢
 have HB0 := Lib.hid hb0
 clear hb0
 obtain ⟨rw0, hrw⟩ : ∃ r, r = weighR n b0 x := ⟨_, rfl⟩
 have HW := Lib.hid hrw
 rw [← hrw]
 clear hrw
 go_enter Try.func68, Try.ntmps68
 have RA := Lib.hid ((((Row8.place w .u8 a 53 w.heap.size rfl SA.out.len).alloc (.cells #[.int .u8 (at8 x 0), .int .u8 (at8 x 1), .int .u8 (at8 x 2), .int .u8 (at8 x 3), .int .u8 (at8 x 4), .int .u8 (at8 x 5), .int .u8 (at8 x 6), .int .u8 (at8 x 7)] 53)).alloc (.cells #[.int .u8 0, .int .u8 0, .int .u8 0, .int .u8 0, .int .u8 0, .int .u8 0, .int .u8 0, .int .u8 0] 53)).alloc (.cells #[.int .u8 0, .int .u8 0, .int .u8 0, .int .u8 0, .int .u8 0, .int .u8 0, .int .u8 0, .int .u8 0] 53))
 have RX := Lib.hid (((Row8.place (w.alloc (.cells #[.int .u8 (at8 a 0), .int .u8 (at8 a 1), .int .u8 (at8 a 2), .int .u8 (at8 a 3), .int .u8 (at8 a 4), .int .u8 (at8 a 5), .int .u8 (at8 a 6), .int .u8 (at8 a 7)] 53)) .u8 x 53 (w.heap.size + 1) (by simp) SX.out.len).alloc (.cells #[.int .u8 0, .int .u8 0, .int .u8 0, .int .u8 0, .int .u8 0, .int .u8 0, .int .u8 0, .int .u8 0] 53)).alloc (.cells #[.int .u8 0, .int .u8 0, .int .u8 0, .int .u8 0, .int .u8 0, .int .u8 0, .int .u8 0, .int .u8 0] 53))
 have R1 := Lib.hid ((Row8.zeros ((w.alloc (.cells #[.int .u8 (at8 a 0), .int .u8 (at8 a 1), .int .u8 (at8 a 2), .int .u8 (at8 a 3), .int .u8 (at8 a 4), .int .u8 (at8 a 5), .int .u8 (at8 a 6), .int .u8 (at8 a 7)] 53)).alloc (.cells #[.int .u8 (at8 x 0), .int .u8 (at8 x 1), .int .u8 (at8 x 2), .int .u8 (at8 x 3), .int .u8 (at8 x 4), .int .u8 (at8 x 5), .int .u8 (at8 x 6), .int .u8 (at8 x 7)] 53)) .u8 53 (w.heap.size + 1 + 1) (by simp)).alloc (.cells #[.int .u8 0, .int .u8 0, .int .u8 0, .int .u8 0, .int .u8 0, .int .u8 0, .int .u8 0, .int .u8 0] 53))
 have R2 := Lib.hid (Row8.zeros (((w.alloc (.cells #[.int .u8 (at8 a 0), .int .u8 (at8 a 1), .int .u8 (at8 a 2), .int .u8 (at8 a 3), .int .u8 (at8 a 4), .int .u8 (at8 a 5), .int .u8 (at8 a 6), .int .u8 (at8 a 7)] 53)).alloc (.cells #[.int .u8 (at8 x 0), .int .u8 (at8 x 1), .int .u8 (at8 x 2), .int .u8 (at8 x 3), .int .u8 (at8 x 4), .int .u8 (at8 x 5), .int .u8 (at8 x 6), .int .u8 (at8 x 7)] 53)).alloc (.cells #[.int .u8 0, .int .u8 0, .int .u8 0, .int .u8 0, .int .u8 0, .int .u8 0, .int .u8 0, .int .u8 0] 53)) .u8 53 (w.heap.size + 1 + 1 + 1) (by simp))
 have BB := Lib.hid (below4 w (.cells #[.int .u8 (at8 a 0), .int .u8 (at8 a 1), .int .u8 (at8 a 2), .int .u8 (at8 a 3), .int .u8 (at8 a 4), .int .u8 (at8 a 5), .int .u8 (at8 a 6), .int .u8 (at8 a 7)] 53) (.cells #[.int .u8 (at8 x 0), .int .u8 (at8 x 1), .int .u8 (at8 x 2), .int .u8 (at8 x 3), .int .u8 (at8 x 4), .int .u8 (at8 x 5), .int .u8 (at8 x 6), .int .u8 (at8 x 7)] 53) (.cells #[.int .u8 0, .int .u8 0, .int .u8 0, .int .u8 0, .int .u8 0, .int .u8 0, .int .u8 0, .int .u8 0] 53) (.cells #[.int .u8 0, .int .u8 0, .int .u8 0, .int .u8 0, .int .u8 0, .int .u8 0, .int .u8 0, .int .u8 0] 53))
 go_upto_region 1 with fail
 obtain ⟨W, hW⟩ : ∃ W, W = (((w.alloc (.cells #[.int .u8 (at8 a 0), .int .u8 (at8 a 1), .int .u8 (at8 a 2), .int .u8 (at8 a 3), .int .u8 (at8 a 4), .int .u8 (at8 a 5), .int .u8 (at8 a 6), .int .u8 (at8 a 7)] 53)).alloc (.cells #[.int .u8 (at8 x 0), .int .u8 (at8 x 1), .int .u8 (at8 x 2), .int .u8 (at8 x 3), .int .u8 (at8 x 4), .int .u8 (at8 x 5), .int .u8 (at8 x 6), .int .u8 (at8 x 7)] 53)).alloc (.cells #[.int .u8 0, .int .u8 0, .int .u8 0, .int .u8 0, .int .u8 0, .int .u8 0, .int .u8 0, .int .u8 0] 53)).alloc (.cells #[.int .u8 0, .int .u8 0, .int .u8 0, .int .u8 0, .int .u8 0, .int .u8 0, .int .u8 0, .int .u8 0] 53) := ⟨_, rfl⟩
 have ra := RA.out
 have rx := RX.out
 have r1 := R1.out
 have r2 := R2.out
 have bb := BB.out
 rw [← hW] at ra rx r1 r2 bb ⊢
 clear RA RX R1 R2 BB hW
 have RA := Lib.hid ra
 have RX := Lib.hid rx
 have R1 := Lib.hid r1
 have R2 := Lib.hid r2
 have BB := Lib.hid bb
 clear ra rx r1 r2 bb
 obtain ⟨⟨q0, q1, q2, q3⟩, q4, q5, q6, q7⟩ := RA.out.all
 go_step3
 go_wp2_with fail
 refine (back_any n a SA.out _).mono ?_
 rintro e w2 ⟨rfl, hb⟩
 clear q0 q1 q2 q3 q4 q5 q6 q7 RA
 replace RX := Lib.hid (RX.out.below hb)
 replace R1 := Lib.hid (R1.out.below hb)
 replace R2 := Lib.hid (R2.out.below hb)
 replace BB := Lib.hid (below_go BB.out hb BB.out.size)
 clear hb
 have zb := BB.out.size
 have zz := R2.out.lt
 rw [← HB0.out]
 clear SA HB0
 have RB := Lib.hid (Row8.place w2 .u8 b0 53 w2.heap.size rfl SB.out.len)
 replace RX := Lib.hid (RX.out.alloc (.cells #[.int .u8 (at8 b0 0), .int .u8 (at8 b0 1), .int .u8 (at8 b0 2), .int .u8 (at8 b0 3), .int .u8 (at8 b0 4), .int .u8 (at8 b0 5), .int .u8 (at8 b0 6), .int .u8 (at8 b0 7)] 53))
 replace R1 := Lib.hid (R1.out.alloc (.cells #[.int .u8 (at8 b0 0), .int .u8 (at8 b0 1), .int .u8 (at8 b0 2), .int .u8 (at8 b0 3), .int .u8 (at8 b0 4), .int .u8 (at8 b0 5), .int .u8 (at8 b0 6), .int .u8 (at8 b0 7)] 53))
 replace R2 := Lib.hid (R2.out.alloc (.cells #[.int .u8 (at8 b0 0), .int .u8 (at8 b0 1), .int .u8 (at8 b0 2), .int .u8 (at8 b0 3), .int .u8 (at8 b0 4), .int .u8 (at8 b0 5), .int .u8 (at8 b0 6), .int .u8 (at8 b0 7)] 53))
 replace BB := Lib.hid (BB.out.alloc zb (.cells #[.int .u8 (at8 b0 0), .int .u8 (at8 b0 1), .int .u8 (at8 b0 2), .int .u8 (at8 b0 3), .int .u8 (at8 b0 4), .int .u8 (at8 b0 5), .int .u8 (at8 b0 6), .int .u8 (at8 b0 7)] 53))
 clear zb
 go_wp2
 go_step3
 go_wp2
 obtain ⟨W, hW⟩ : ∃ W, W = w2.alloc (.cells #[.int .u8 (at8 b0 0), .int .u8 (at8 b0 1), .int .u8 (at8 b0 2), .int .u8 (at8 b0 3), .int .u8 (at8 b0 4), .int .u8 (at8 b0 5), .int .u8 (at8 b0 6), .int .u8 (at8 b0 7)] 53) := ⟨_, rfl⟩
 have rb := RB.out
 have rx := RX.out
 have r1 := R1.out
 have r2 := R2.out
 have bb := BB.out
 rw [← hW] at rb rx r1 r2 bb ⊢
 clear RB RX R1 R2 BB hW
 obtain ⟨g2, hg2⟩ : ∃ g2, g2 = w2.heap.size := ⟨_, rfl⟩
 rw [← hg2] at rb zz ⊢
 clear hg2
 have RB := Lib.hid rb
 have RX := Lib.hid rx
 have R1 := Lib.hid r1
 have R2 := Lib.hid r2
 have BB := Lib.hid bb
 clear rb rx r1 r2 bb
 go_loopg [] (far x) (fun g wx => ∃ b y, far y ≤ g ∧ Sim n b ∧ Sim n y ∧ weighR n b y = rw0 ∧ Row8 wx g2 .u8 b ∧ Row8 wx (w.heap.size + 1) .u8 y ∧ Row8 wx (w.heap.size + 1 + 1) .u8 [0, 0, 0, 0, 0, 0, 0, 0] ∧ Row8 wx (w.heap.size + 1 + 1 + 1) .u8 [0, 0, 0, 0, 0, 0, 0, 0] ∧ Below w.heap.size w wx)
 case atStart => exact ⟨b0, x, Nat.le_refl _, SB.out, SX.out, HW.out.symm, RB.out, RX.out, R1.out, R2.out, BB.out⟩
 case round =>
  obtain ⟨b, y, hfar, hsb, hsy, hwy, hRB, hRX, hR1, hR2, hBB⟩ := hrel
  clear RB RX R1 R2 BB SB SX HW
  have SB := Lib.hid hsb
  have SY := Lib.hid hsy
  have HW := Lib.hid hwy
  have RB := Lib.hid hRB
  have RX := Lib.hid hRX
  have R1 := Lib.hid hR1
  have R2 := Lib.hid hR2
  have BB := Lib.hid hBB
  clear hsb hsy hwy hRB hRX hR1 hR2 hBB
  obtain ⟨go, rfl⟩ : ∃ go, go = gk := ⟨_, rfl⟩
  go_wp2
  go_loopg [9] n (fun g i wx => ∃ k, k + 1 ≤ n ∧ g + k = n ∧ i = .int .i64 ((k : Int) + 1) ∧ (∀ j, j < k → mov b y j = false) ∧ Row8 wx g2 .u8 b ∧ Row8 wx (w.heap.size + 1) .u8 y ∧ Row8 wx (w.heap.size + 1 + 1) .u8 [0, 0, 0, 0, 0, 0, 0, 0] ∧ Row8 wx (w.heap.size + 1 + 1 + 1) .u8 [0, 0, 0, 0, 0, 0, 0, 0] ∧ Below w.heap.size w wx)
  case atStart => exact ⟨0, h1, rfl, by go_num, fun j hj => absurd hj (Nat.not_lt_zero _), RB.out, RX.out, R1.out, R2.out, BB.out⟩
  case round =>
   obtain ⟨k, hk, hgk, rfl, hin, hRB, hRX, hR1, hR2, hBB⟩ := hrel
   clear RB RX R1 R2 BB
   have HIN := Lib.hid hin
   have RB := Lib.hid hRB
   have RX := Lib.hid hRX
   have R1 := Lib.hid hR1
   have R2 := Lib.hid hR2
   have BB := Lib.hid hBB
   clear hin hRB hRX hR1 hR2 hBB
   have zb := BB.out.size
   by_cases hlt : k + 1 < n
   ·obtain ⟨⟨q0, q1, q2, q3⟩, q4, q5, q6, q7⟩ := RX.out.all
    go_wp2_with fail
    refine (beginsWith_any k (by omega) y SY.out.len _).mono ?_
    rintro e w3 ⟨rfl, hb⟩
    clear q0 q1 q2 q3 q4 q5 q6 q7
    replace RB := Lib.hid (RB.out.below hb)
    replace RX := Lib.hid (RX.out.below hb)
    replace R1 := Lib.hid (R1.out.below hb)
    replace R2 := Lib.hid (R2.out.below hb)
    replace BB := Lib.hid (below_go BB.out hb zb)
    clear hb zb
    have zb := BB.out.size
    by_cases hd : at8 y (k + 1) < at8 y k
    ·rw [decide_eq_true hd]
     obtain ⟨⟨q0, q1, q2, q3⟩, q4, q5, q6, q7⟩ := RB.out.all
     go_wp2_with fail
     refine (beginsWith_any k (by omega) b SB.out.len _).mono ?_
     rintro e w4 ⟨rfl, hb⟩
     clear q0 q1 q2 q3 q4 q5 q6 q7
     replace RB := Lib.hid (RB.out.below hb)
     replace RX := Lib.hid (RX.out.below hb)
     replace R1 := Lib.hid (R1.out.below hb)
     replace R2 := Lib.hid (R2.out.below hb)
     replace BB := Lib.hid (below_go BB.out hb zb)
     clear hb zb
     have zb := BB.out.size
     by_cases hd2 : at8 b (k + 1) < at8 b k
     ·rw [decide_eq_true hd2]
      have HM : Hid (mov b y k = false) := Lib.hid (by rw [← Bool.not_eq_true, mov_iff]; omega)
      go_wp2
      go_roundg (gk - 1)
      case measure => omega
      case rel => exact ⟨k + 1, by omega, by omega, by go_num, fun j hj => by
       by_cases e : j = k
       ·rw [e]; exact HM.out
       ·exact HIN.out j (by omega), RB.out, RX.out, R1.out, R2.out, BB.out⟩
     ·rw [decide_eq_false hd2]
      have hne := SB.out.apart (show k < n by omega) hlt (by omega)
      have HF : Hid (firstB (mov b y) (n - 1) 0 = some k) := Lib.hid (firstB_eq (Nat.zero_le _) (by omega) ((mov_iff _ _ _).2 ⟨hd, by omega⟩) fun j _ hj => HIN.out j hj)
      go_wp2_with fail
      refine (exchange_any n k h8 hlt _).mono ?_
      rintro e w5 ⟨rfl, hb⟩
      replace RB := Lib.hid (RB.out.below hb)
      replace RX := Lib.hid (RX.out.below hb)
      replace R1 := Lib.hid (R1.out.below hb)
      replace R2 := Lib.hid (R2.out.below hb)
      replace BB := Lib.hid (below_go BB.out hb zb)
      clear hb zb
      have zb := BB.out.size
      have z5 := RB.out.lt
      obtain ⟨m, hm⟩ : ∃ m, m = exR n k := ⟨_, rfl⟩
      have SM : Hid (Sim n m) := Lib.hid (by rw [hm]; exact exR_sim n k h8 hlt)
      have HM := Lib.hid hm
      rw [← hm]
      clear hm
      have RM := Lib.hid (Row8.place w5 .u8 m 53 w5.heap.size rfl SM.out.len)
      replace RB := Lib.hid (RB.out.alloc (.cells #[.int .u8 (at8 m 0), .int .u8 (at8 m 1), .int .u8 (at8 m 2), .int .u8 (at8 m 3), .int .u8 (at8 m 4), .int .u8 (at8 m 5), .int .u8 (at8 m 6), .int .u8 (at8 m 7)] 53))
      replace RX := Lib.hid (RX.out.alloc (.cells #[.int .u8 (at8 m 0), .int .u8 (at8 m 1), .int .u8 (at8 m 2), .int .u8 (at8 m 3), .int .u8 (at8 m 4), .int .u8 (at8 m 5), .int .u8 (at8 m 6), .int .u8 (at8 m 7)] 53))
      replace R1 := Lib.hid (R1.out.alloc (.cells #[.int .u8 (at8 m 0), .int .u8 (at8 m 1), .int .u8 (at8 m 2), .int .u8 (at8 m 3), .int .u8 (at8 m 4), .int .u8 (at8 m 5), .int .u8 (at8 m 6), .int .u8 (at8 m 7)] 53))
      replace R2 := Lib.hid (R2.out.alloc (.cells #[.int .u8 (at8 m 0), .int .u8 (at8 m 1), .int .u8 (at8 m 2), .int .u8 (at8 m 3), .int .u8 (at8 m 4), .int .u8 (at8 m 5), .int .u8 (at8 m 6), .int .u8 (at8 m 7)] 53))
      replace BB := Lib.hid (BB.out.alloc zb (.cells #[.int .u8 (at8 m 0), .int .u8 (at8 m 1), .int .u8 (at8 m 2), .int .u8 (at8 m 3), .int .u8 (at8 m 4), .int .u8 (at8 m 5), .int .u8 (at8 m 6), .int .u8 (at8 m 7)] 53))
      go_upto_region 7 with fail
      obtain ⟨W, hW⟩ : ∃ W, W = w5.alloc (.cells #[.int .u8 (at8 m 0), .int .u8 (at8 m 1), .int .u8 (at8 m 2), .int .u8 (at8 m 3), .int .u8 (at8 m 4), .int .u8 (at8 m 5), .int .u8 (at8 m 6), .int .u8 (at8 m 7)] 53) := ⟨_, rfl⟩
      have rm := RM.out
      have rb := RB.out
      have rx := RX.out
      have r1 := R1.out
      have r2 := R2.out
      have bb := BB.out
      rw [← hW] at rm rb rx r1 r2 bb ⊢
      clear RM RB RX R1 R2 BB hW
      obtain ⟨g5, hg5⟩ : ∃ g5, g5 = w5.heap.size := ⟨_, rfl⟩
      rw [← hg5] at rm z5 ⊢
      clear hg5
      have RM := Lib.hid rm
      have RB := Lib.hid rb
      have RX := Lib.hid rx
      have R1 := Lib.hid r1
      have R2 := Lib.hid r2
      have BB := Lib.hid bb
      clear rm rb rx r1 r2 bb zb
      have zb := BB.out.size
      replace RM := Lib.hid RM.out.drew
      replace RB := Lib.hid RB.out.drew
      replace RX := Lib.hid RX.out.drew
      replace R1 := Lib.hid R1.out.drew
      replace R2 := Lib.hid R2.out.drew
      replace BB := Lib.hid BB.out.drew
      obtain ⟨⟨d0, d1, d2, d3⟩, d4, d5, d6, d7⟩ := RB.out.all
      obtain ⟨⟨f0, f1, f2, f3⟩, f4, f5, f6, f7⟩ := RB.out.frees
      have zq := RB.out.lt
      obtain ⟨⟨i0, i1, i2, i3⟩, i4, i5, i6, i7⟩ := RX.out.all
      obtain ⟨⟨j0, j1, j2, j3⟩, j4, j5, j6, j7⟩ := RX.out.frees
      have zp := RX.out.lt
      have ne1 : g5 ≠ g2 := by omega
      have ne2 : g5 ≠ w.heap.size + 1 := by omega
      have ne3 : g2 ≠ w.heap.size + 1 := by omega
      have HL : Hid (far (thenR n m y) < far y) := Lib.hid (by rw [HM.out]; exact far_less SY.out hlt hd)
      have HWE : Hid (weighR n (thenR n m b) (thenR n m y) = rw0) := Lib.hid (by rw [HM.out, ← weighR_some SY.out HF.out]; exact HW.out)
      clear hd hd2 hne
      refine wp_region_held_drew (S := (fun w' => w'.cell? ⟨g5, 0, none⟩ = some (.int .u8 (at8 m 0)) ∧ w'.cell? ⟨g5, 1, none⟩ = some (.int .u8 (at8 m 1)) ∧ w'.cell? ⟨g5, 2, none⟩ = some (.int .u8 (at8 m 2)) ∧ w'.cell? ⟨g5, 3, none⟩ = some (.int .u8 (at8 m 3)) ∧ w'.cell? ⟨g5, 4, none⟩ = some (.int .u8 (at8 m 4)) ∧ w'.cell? ⟨g5, 5, none⟩ = some (.int .u8 (at8 m 5)) ∧ w'.cell? ⟨g5, 6, none⟩ = some (.int .u8 (at8 m 6)) ∧ w'.cell? ⟨g5, 7, none⟩ = some (.int .u8 (at8 m 7)))) (by kernel_rfl) ?_ (fun hHeld => ?_)
      ·(first | with_reducible exact RM.out.flat | with_reducible exact (RM.out.past g2 ne1.symm _ _ _ _ _ _ _ _).flat | with_reducible exact ((RM.out.past g2 ne1.symm _ _ _ _ _ _ _ _).past (w.heap.size + 1) ne2.symm _ _ _ _ _ _ _ _).flat)
      refine wpAnyH_take (i := 0) (oi := { dst := some 31, op := Op.load 53 (Operand.tmp 10), type := 53, pos := "l03_normal.go:30", after := #[], guard := none }) (v := ?_) rfl (by kernel_rfl) (by kernel_rfl) (by kernel_rfl) (fun _ _ _ h => h) (Or.inl ⟨by rfl, ?_⟩) (by assumption) ?_
      rotate_left
      ·intro w hSw
       (try dsimp only at hSw)
       go_simp
       try with_reducible rfl
      try simp only [Act.put, List.setIfInBounds_toArray, List.set_cons_zero, List.set_cons_succ]
      refine wpAnyH_take (i := 2) (oi := { dst := some 33, op := Op.move (Operand.tmp 2), type := 2, pos := "l03_normal.go:30", after := #[], guard := none }) (v := ?_) rfl (by kernel_rfl) (by kernel_rfl) (by kernel_rfl) (fun _ _ _ h => h) (Or.inl ⟨by rfl, ?_⟩) (by assumption) ?_
      rotate_left
      ·intro w hSw
       (try dsimp only at hSw)
       go_simp
       try with_reducible rfl
      try simp only [Act.put, List.setIfInBounds_toArray, List.set_cons_zero, List.set_cons_succ]
      refine wpAnyH_take (i := 4) (oi := { dst := some 35, op := Op.load 53 (Operand.tmp 10), type := 53, pos := "l03_normal.go:30", after := #[], guard := none }) (v := ?_) rfl (by kernel_rfl) (by kernel_rfl) (by kernel_rfl) (fun _ _ _ h => h) (Or.inl ⟨by rfl, ?_⟩) (by assumption) ?_
      rotate_left
      ·intro w hSw
       (try dsimp only at hSw)
       go_simp
       try with_reducible rfl
      try simp only [Act.put, List.setIfInBounds_toArray, List.set_cons_zero, List.set_cons_succ]
      refine wpAnyH_take (i := 6) (oi := { dst := some 37, op := Op.move (Operand.tmp 2), type := 2, pos := "l03_normal.go:30", after := #[], guard := none }) (v := ?_) rfl (by kernel_rfl) (by kernel_rfl) (by kernel_rfl) (fun _ _ _ h => h) (Or.inl ⟨by rfl, ?_⟩) (by assumption) ?_
      rotate_left
      ·intro w hSw
       (try dsimp only at hSw)
       go_simp
       try with_reducible rfl
      try simp only [Act.put, List.setIfInBounds_toArray, List.set_cons_zero, List.set_cons_succ]
      refine wpAnyH_ready (rs := [1, 5]) (by kernel_rfl) (by simp) ?_
      refine AllReadyH.cons (o := { dst := some 32, op := Op.load 53 (Operand.tmp 8), type := 53, pos := "l03_normal.go:30", after := #[], guard := none }) rfl (fun K hK => ?_) ?_
      ·go_simp
       refine hK.out _ _ ?_ (fun hHeld => ?_)
       ·(first | with_reducible exact RM.out.flat | with_reducible exact (RM.out.past g2 ne1.symm _ _ _ _ _ _ _ _).flat | with_reducible exact ((RM.out.past g2 ne1.symm _ _ _ _ _ _ _ _).past (w.heap.size + 1) ne2.symm _ _ _ _ _ _ _ _).flat)
       clear hK K
       try simp only [Act.put, List.setIfInBounds_toArray, List.set_cons_zero, List.set_cons_succ]
       refine wpAnyH_ready (rs := [3, 5]) (by kernel_rfl) (by simp) ?_
       refine AllReadyH.cons (o := { dst := some 34, op := Op.call { callee := Callee.value (Operand.func 83), args := #[Operand.tmp 31, Operand.tmp 32, Operand.tmp 33], argTypes := #[53, 53, 2] }, type := 53, pos := "l03_normal.go:30", after := #[{ on := 0, ground := Ground.data }, { on := 1, ground := Ground.data }, { on := 2, ground := Ground.data }], guard := none }) rfl (fun K hK => ?_) ?_
       ·go_simp
        (refine (then_any n h8 m b SM.out.len SB.out.len SM.out.wide _).mono ?_; rintro e w6 ⟨rfl, gg⟩; replace RM := Lib.hid (RM.out.below gg); replace RB := Lib.hid (RB.out.below gg); replace RX := Lib.hid (RX.out.below gg); replace R1 := Lib.hid (R1.out.below gg); replace R2 := Lib.hid (R2.out.below gg); replace BB := Lib.hid (below_go BB.out gg BB.out.size); obtain ⟨⟨d0, d1, d2, d3⟩, d4, d5, d6, d7⟩ := RB.out.all; obtain ⟨⟨f0, f1, f2, f3⟩, f4, f5, f6, f7⟩ := RB.out.frees; have zq := RB.out.lt; obtain ⟨⟨i0, i1, i2, i3⟩, i4, i5, i6, i7⟩ := RX.out.all; obtain ⟨⟨j0, j1, j2, j3⟩, j4, j5, j6, j7⟩ := RX.out.frees; have zp := RX.out.lt)
        go_wp2_with fail
        refine hK.out _ _ ?_ (fun hHeld => ?_)
        ·(first | with_reducible exact RM.out.flat | with_reducible exact (RM.out.past g2 ne1.symm _ _ _ _ _ _ _ _).flat | with_reducible exact ((RM.out.past g2 ne1.symm _ _ _ _ _ _ _ _).past (w.heap.size + 1) ne2.symm _ _ _ _ _ _ _ _).flat)
        clear hK K
        try simp only [Act.put, List.setIfInBounds_toArray, List.set_cons_zero, List.set_cons_succ]
        refine wpAnyH_ready (rs := [5]) (by kernel_rfl) (by simp) ?_
        refine AllReadyH.cons (o := { dst := some 36, op := Op.load 53 (Operand.tmp 4), type := 53, pos := "l03_normal.go:30", after := #[], guard := none }) rfl (fun K hK => ?_) ?_
        ·go_simp
         refine hK.out _ _ ?_ (fun hHeld => ?_)
         ·(first | with_reducible exact RM.out.flat | with_reducible exact (RM.out.past g2 ne1.symm _ _ _ _ _ _ _ _).flat | with_reducible exact ((RM.out.past g2 ne1.symm _ _ _ _ _ _ _ _).past (w.heap.size + 1) ne2.symm _ _ _ _ _ _ _ _).flat)
         clear hK K
         try simp only [Act.put, List.setIfInBounds_toArray, List.set_cons_zero, List.set_cons_succ]
         refine wpAnyH_ready (rs := [7]) (by kernel_rfl) (by simp) ?_
         refine AllReadyH.cons (o := { dst := some 38, op := Op.call { callee := Callee.value (Operand.func 83), args := #[Operand.tmp 35, Operand.tmp 36, Operand.tmp 37], argTypes := #[53, 53, 2] }, type := 53, pos := "l03_normal.go:30", after := #[{ on := 4, ground := Ground.data }, { on := 5, ground := Ground.data }, { on := 6, ground := Ground.data }, { on := 3, ground := Ground.chain }], guard := none }) rfl (fun K hK => ?_) ?_
         ·go_simp
          (refine (then_any n h8 m y SM.out.len SY.out.len SM.out.wide _).mono ?_; rintro e w7 ⟨rfl, gg⟩; replace RM := Lib.hid (RM.out.below gg); replace RB := Lib.hid (RB.out.below gg); replace RX := Lib.hid (RX.out.below gg); replace R1 := Lib.hid (R1.out.below gg); replace R2 := Lib.hid (R2.out.below gg); replace BB := Lib.hid (below_go BB.out gg BB.out.size); obtain ⟨⟨d0, d1, d2, d3⟩, d4, d5, d6, d7⟩ := RB.out.all; obtain ⟨⟨f0, f1, f2, f3⟩, f4, f5, f6, f7⟩ := RB.out.frees; have zq := RB.out.lt; obtain ⟨⟨i0, i1, i2, i3⟩, i4, i5, i6, i7⟩ := RX.out.all; obtain ⟨⟨j0, j1, j2, j3⟩, j4, j5, j6, j7⟩ := RX.out.frees; have zp := RX.out.lt)
          go_wp2_with fail
          refine hK.out _ _ ?_ (fun hHeld => ?_)
          ·(first | with_reducible exact RM.out.flat | with_reducible exact (RM.out.past g2 ne1.symm _ _ _ _ _ _ _ _).flat | with_reducible exact ((RM.out.past g2 ne1.symm _ _ _ _ _ _ _ _).past (w.heap.size + 1) ne2.symm _ _ _ _ _ _ _ _).flat)
          clear hK K
          try simp only [Act.put, List.setIfInBounds_toArray, List.set_cons_zero, List.set_cons_succ]
          refine wpAnyH_ready (rs := [8]) (by kernel_rfl) (by simp) ?_
          refine AllReadyH.cons (o := { dst := none, op := Op.store 53 (Operand.tmp 8) (Operand.tmp 34), type := 0, pos := "l03_normal.go:30", after := #[{ on := 3, ground := Ground.data }, { on := 7, ground := Ground.chain }, { on := 0, ground := Ground.phase }, { on := 1, ground := Ground.phase }, { on := 2, ground := Ground.phase }, { on := 3, ground := Ground.phase }, { on := 4, ground := Ground.textOnly Departure.lateStores }, { on := 5, ground := Ground.textOnly Departure.lateStores }, { on := 6, ground := Ground.textOnly Departure.lateStores }, { on := 7, ground := Ground.textOnly Departure.lateStoresUnsure }], guard := none }) rfl (fun K hK => ?_) ?_
          ·go_simp
           refine hK.out _ _ ?_ (fun hHeld => ?_)
           ·(first | with_reducible exact RM.out.flat | with_reducible exact (RM.out.past g2 ne1.symm _ _ _ _ _ _ _ _).flat | with_reducible exact ((RM.out.past g2 ne1.symm _ _ _ _ _ _ _ _).past (w.heap.size + 1) ne2.symm _ _ _ _ _ _ _ _).flat)
           clear hK K
           try simp only [Act.put, List.setIfInBounds_toArray, List.set_cons_zero, List.set_cons_succ]
           refine wpAnyH_ready (rs := [9]) (by kernel_rfl) (by simp) ?_
           refine AllReadyH.cons (o := { dst := none, op := Op.store 53 (Operand.tmp 4) (Operand.tmp 38), type := 0, pos := "l03_normal.go:30", after := #[{ on := 7, ground := Ground.data }, { on := 8, ground := Ground.chain }, { on := 0, ground := Ground.phase }, { on := 1, ground := Ground.phase }, { on := 2, ground := Ground.phase }, { on := 3, ground := Ground.phase }, { on := 4, ground := Ground.phase }, { on := 5, ground := Ground.phase }, { on := 6, ground := Ground.phase }, { on := 7, ground := Ground.phase }, { on := 8, ground := Ground.phase }], guard := none }) rfl (fun K hK => ?_) ?_
           ·go_simp
            refine hK.out _ _ ?_ (fun hHeld => ?_)
            ·(first | with_reducible exact RM.out.flat | with_reducible exact (RM.out.past g2 ne1.symm _ _ _ _ _ _ _ _).flat | with_reducible exact ((RM.out.past g2 ne1.symm _ _ _ _ _ _ _ _).past (w.heap.size + 1) ne2.symm _ _ _ _ _ _ _ _).flat)
            clear hK K
            try simp only [Act.put, List.setIfInBounds_toArray, List.set_cons_zero, List.set_cons_succ]
            refine wpAnyH_done (by kernel_rfl) ?_ _
            go_wp2
            go_roundg (go - 1)
            case measure => have := HL.out; omega
            case rel => exact ⟨thenR n m b, thenR n m y, (by have := HL.out; omega), thenR_sim SM.out SB.out, thenR_sim SM.out SY.out, HWE.out, (RB.out.fill (thenR n m b) (mapR_len _ _ h8)).past (w.heap.size + 1) ne3.symm _ _ _ _ _ _ _ _, (RX.out.past g2 ne3 _ _ _ _ _ _ _ _).fill (thenR n m y) (mapR_len _ _ h8), (R1.out.past g2 (by omega) _ _ _ _ _ _ _ _).past (w.heap.size + 1) (by omega) _ _ _ _ _ _ _ _, (R2.out.past g2 (by omega) _ _ _ _ _ _ _ _).past (w.heap.size + 1) (by omega) _ _ _ _ _ _ _ _, below_fill8 (below_fill8 BB.out g2 (by omega) _ _ _ _ _ _ _ _) (w.heap.size + 1) (by omega) _ _ _ _ _ _ _ _⟩
           exact AllReadyH.nil
          exact AllReadyH.nil
         exact AllReadyH.nil
        exact AllReadyH.nil
       refine AllReadyH.cons (o := { dst := some 36, op := Op.load 53 (Operand.tmp 4), type := 53, pos := "l03_normal.go:30", after := #[], guard := none }) rfl (fun K hK => ?_) ?_
       ·go_simp
        refine hK.out _ _ ?_ (fun hHeld => ?_)
        ·(first | with_reducible exact RM.out.flat | with_reducible exact (RM.out.past g2 ne1.symm _ _ _ _ _ _ _ _).flat | with_reducible exact ((RM.out.past g2 ne1.symm _ _ _ _ _ _ _ _).past (w.heap.size + 1) ne2.symm _ _ _ _ _ _ _ _).flat)
        clear hK K
        try simp only [Act.put, List.setIfInBounds_toArray, List.set_cons_zero, List.set_cons_succ]
        refine wpAnyH_ready (rs := [3]) (by kernel_rfl) (by simp) ?_
        refine AllReadyH.cons (o := { dst := some 34, op := Op.call { callee := Callee.value (Operand.func 83), args := #[Operand.tmp 31, Operand.tmp 32, Operand.tmp 33], argTypes := #[53, 53, 2] }, type := 53, pos := "l03_normal.go:30", after := #[{ on := 0, ground := Ground.data }, { on := 1, ground := Ground.data }, { on := 2, ground := Ground.data }], guard := none }) rfl (fun K hK => ?_) ?_
        ·go_simp
         (refine (then_any n h8 m b SM.out.len SB.out.len SM.out.wide _).mono ?_; rintro e w6 ⟨rfl, gg⟩; replace RM := Lib.hid (RM.out.below gg); replace RB := Lib.hid (RB.out.below gg); replace RX := Lib.hid (RX.out.below gg); replace R1 := Lib.hid (R1.out.below gg); replace R2 := Lib.hid (R2.out.below gg); replace BB := Lib.hid (below_go BB.out gg BB.out.size); obtain ⟨⟨d0, d1, d2, d3⟩, d4, d5, d6, d7⟩ := RB.out.all; obtain ⟨⟨f0, f1, f2, f3⟩, f4, f5, f6, f7⟩ := RB.out.frees; have zq := RB.out.lt; obtain ⟨⟨i0, i1, i2, i3⟩, i4, i5, i6, i7⟩ := RX.out.all; obtain ⟨⟨j0, j1, j2, j3⟩, j4, j5, j6, j7⟩ := RX.out.frees; have zp := RX.out.lt)
         go_wp2_with fail
         refine hK.out _ _ ?_ (fun hHeld => ?_)
         ·(first | with_reducible exact RM.out.flat | with_reducible exact (RM.out.past g2 ne1.symm _ _ _ _ _ _ _ _).flat | with_reducible exact ((RM.out.past g2 ne1.symm _ _ _ _ _ _ _ _).past (w.heap.size + 1) ne2.symm _ _ _ _ _ _ _ _).flat)
         clear hK K
         try simp only [Act.put, List.setIfInBounds_toArray, List.set_cons_zero, List.set_cons_succ]
         refine wpAnyH_ready (rs := [7]) (by kernel_rfl) (by simp) ?_
         refine AllReadyH.cons (o := { dst := some 38, op := Op.call { callee := Callee.value (Operand.func 83), args := #[Operand.tmp 35, Operand.tmp 36, Operand.tmp 37], argTypes := #[53, 53, 2] }, type := 53, pos := "l03_normal.go:30", after := #[{ on := 4, ground := Ground.data }, { on := 5, ground := Ground.data }, { on := 6, ground := Ground.data }, { on := 3, ground := Ground.chain }], guard := none }) rfl (fun K hK => ?_) ?_
         ·go_simp
          (refine (then_any n h8 m y SM.out.len SY.out.len SM.out.wide _).mono ?_; rintro e w7 ⟨rfl, gg⟩; replace RM := Lib.hid (RM.out.below gg); replace RB := Lib.hid (RB.out.below gg); replace RX := Lib.hid (RX.out.below gg); replace R1 := Lib.hid (R1.out.below gg); replace R2 := Lib.hid (R2.out.below gg); replace BB := Lib.hid (below_go BB.out gg BB.out.size); obtain ⟨⟨d0, d1, d2, d3⟩, d4, d5, d6, d7⟩ := RB.out.all; obtain ⟨⟨f0, f1, f2, f3⟩, f4, f5, f6, f7⟩ := RB.out.frees; have zq := RB.out.lt; obtain ⟨⟨i0, i1, i2, i3⟩, i4, i5, i6, i7⟩ := RX.out.all; obtain ⟨⟨j0, j1, j2, j3⟩, j4, j5, j6, j7⟩ := RX.out.frees; have zp := RX.out.lt)
          go_wp2_with fail
          refine hK.out _ _ ?_ (fun hHeld => ?_)
          ·(first | with_reducible exact RM.out.flat | with_reducible exact (RM.out.past g2 ne1.symm _ _ _ _ _ _ _ _).flat | with_reducible exact ((RM.out.past g2 ne1.symm _ _ _ _ _ _ _ _).past (w.heap.size + 1) ne2.symm _ _ _ _ _ _ _ _).flat)
          clear hK K
          try simp only [Act.put, List.setIfInBounds_toArray, List.set_cons_zero, List.set_cons_succ]
          refine wpAnyH_ready (rs := [8]) (by kernel_rfl) (by simp) ?_
          refine AllReadyH.cons (o := { dst := none, op := Op.store 53 (Operand.tmp 8) (Operand.tmp 34), type := 0, pos := "l03_normal.go:30", after := #[{ on := 3, ground := Ground.data }, { on := 7, ground := Ground.chain }, { on := 0, ground := Ground.phase }, { on := 1, ground := Ground.phase }, { on := 2, ground := Ground.phase }, { on := 3, ground := Ground.phase }, { on := 4, ground := Ground.textOnly Departure.lateStores }, { on := 5, ground := Ground.textOnly Departure.lateStores }, { on := 6, ground := Ground.textOnly Departure.lateStores }, { on := 7, ground := Ground.textOnly Departure.lateStoresUnsure }], guard := none }) rfl (fun K hK => ?_) ?_
          ·go_simp
           refine hK.out _ _ ?_ (fun hHeld => ?_)
           ·(first | with_reducible exact RM.out.flat | with_reducible exact (RM.out.past g2 ne1.symm _ _ _ _ _ _ _ _).flat | with_reducible exact ((RM.out.past g2 ne1.symm _ _ _ _ _ _ _ _).past (w.heap.size + 1) ne2.symm _ _ _ _ _ _ _ _).flat)
           clear hK K
           try simp only [Act.put, List.setIfInBounds_toArray, List.set_cons_zero, List.set_cons_succ]
           refine wpAnyH_ready (rs := [9]) (by kernel_rfl) (by simp) ?_
           refine AllReadyH.cons (o := { dst := none, op := Op.store 53 (Operand.tmp 4) (Operand.tmp 38), type := 0, pos := "l03_normal.go:30", after := #[{ on := 7, ground := Ground.data }, { on := 8, ground := Ground.chain }, { on := 0, ground := Ground.phase }, { on := 1, ground := Ground.phase }, { on := 2, ground := Ground.phase }, { on := 3, ground := Ground.phase }, { on := 4, ground := Ground.phase }, { on := 5, ground := Ground.phase }, { on := 6, ground := Ground.phase }, { on := 7, ground := Ground.phase }, { on := 8, ground := Ground.phase }], guard := none }) rfl (fun K hK => ?_) ?_
           ·go_simp
            refine hK.out _ _ ?_ (fun hHeld => ?_)
            ·(first | with_reducible exact RM.out.flat | with_reducible exact (RM.out.past g2 ne1.symm _ _ _ _ _ _ _ _).flat | with_reducible exact ((RM.out.past g2 ne1.symm _ _ _ _ _ _ _ _).past (w.heap.size + 1) ne2.symm _ _ _ _ _ _ _ _).flat)
            clear hK K
            try simp only [Act.put, List.setIfInBounds_toArray, List.set_cons_zero, List.set_cons_succ]
            refine wpAnyH_done (by kernel_rfl) ?_ _
            go_wp2
            go_roundg (go - 1)
            case measure => have := HL.out; omega
            case rel => exact ⟨thenR n m b, thenR n m y, (by have := HL.out; omega), thenR_sim SM.out SB.out, thenR_sim SM.out SY.out, HWE.out, (RB.out.fill (thenR n m b) (mapR_len _ _ h8)).past (w.heap.size + 1) ne3.symm _ _ _ _ _ _ _ _, (RX.out.past g2 ne3 _ _ _ _ _ _ _ _).fill (thenR n m y) (mapR_len _ _ h8), (R1.out.past g2 (by omega) _ _ _ _ _ _ _ _).past (w.heap.size + 1) (by omega) _ _ _ _ _ _ _ _, (R2.out.past g2 (by omega) _ _ _ _ _ _ _ _).past (w.heap.size + 1) (by omega) _ _ _ _ _ _ _ _, below_fill8 (below_fill8 BB.out g2 (by omega) _ _ _ _ _ _ _ _) (w.heap.size + 1) (by omega) _ _ _ _ _ _ _ _⟩
           exact AllReadyH.nil
          exact AllReadyH.nil
         exact AllReadyH.nil
        exact AllReadyH.nil
       exact AllReadyH.nil
      refine AllReadyH.cons (o := { dst := some 36, op := Op.load 53 (Operand.tmp 4), type := 53, pos := "l03_normal.go:30", after := #[], guard := none }) rfl (fun K hK => ?_) ?_
      ·go_simp
       refine hK.out _ _ ?_ (fun hHeld => ?_)
       ·(first | with_reducible exact RM.out.flat | with_reducible exact (RM.out.past g2 ne1.symm _ _ _ _ _ _ _ _).flat | with_reducible exact ((RM.out.past g2 ne1.symm _ _ _ _ _ _ _ _).past (w.heap.size + 1) ne2.symm _ _ _ _ _ _ _ _).flat)
       clear hK K
       try simp only [Act.put, List.setIfInBounds_toArray, List.set_cons_zero, List.set_cons_succ]
       refine wpAnyH_ready (rs := [1]) (by kernel_rfl) (by simp) ?_
       refine AllReadyH.cons (o := { dst := some 32, op := Op.load 53 (Operand.tmp 8), type := 53, pos := "l03_normal.go:30", after := #[], guard := none }) rfl (fun K hK => ?_) ?_
       ·go_simp
        refine hK.out _ _ ?_ (fun hHeld => ?_)
        ·(first | with_reducible exact RM.out.flat | with_reducible exact (RM.out.past g2 ne1.symm _ _ _ _ _ _ _ _).flat | with_reducible exact ((RM.out.past g2 ne1.symm _ _ _ _ _ _ _ _).past (w.heap.size + 1) ne2.symm _ _ _ _ _ _ _ _).flat)
        clear hK K
        try simp only [Act.put, List.setIfInBounds_toArray, List.set_cons_zero, List.set_cons_succ]
        refine wpAnyH_ready (rs := [3]) (by kernel_rfl) (by simp) ?_
        refine AllReadyH.cons (o := { dst := some 34, op := Op.call { callee := Callee.value (Operand.func 83), args := #[Operand.tmp 31, Operand.tmp 32, Operand.tmp 33], argTypes := #[53, 53, 2] }, type := 53, pos := "l03_normal.go:30", after := #[{ on := 0, ground := Ground.data }, { on := 1, ground := Ground.data }, { on := 2, ground := Ground.data }], guard := none }) rfl (fun K hK => ?_) ?_
        ·go_simp
         (refine (then_any n h8 m b SM.out.len SB.out.len SM.out.wide _).mono ?_; rintro e w6 ⟨rfl, gg⟩; replace RM := Lib.hid (RM.out.below gg); replace RB := Lib.hid (RB.out.below gg); replace RX := Lib.hid (RX.out.below gg); replace R1 := Lib.hid (R1.out.below gg); replace R2 := Lib.hid (R2.out.below gg); replace BB := Lib.hid (below_go BB.out gg BB.out.size); obtain ⟨⟨d0, d1, d2, d3⟩, d4, d5, d6, d7⟩ := RB.out.all; obtain ⟨⟨f0, f1, f2, f3⟩, f4, f5, f6, f7⟩ := RB.out.frees; have zq := RB.out.lt; obtain ⟨⟨i0, i1, i2, i3⟩, i4, i5, i6, i7⟩ := RX.out.all; obtain ⟨⟨j0, j1, j2, j3⟩, j4, j5, j6, j7⟩ := RX.out.frees; have zp := RX.out.lt)
         go_wp2_with fail
         refine hK.out _ _ ?_ (fun hHeld => ?_)
         ·(first | with_reducible exact RM.out.flat | with_reducible exact (RM.out.past g2 ne1.symm _ _ _ _ _ _ _ _).flat | with_reducible exact ((RM.out.past g2 ne1.symm _ _ _ _ _ _ _ _).past (w.heap.size + 1) ne2.symm _ _ _ _ _ _ _ _).flat)
         clear hK K
         try simp only [Act.put, List.setIfInBounds_toArray, List.set_cons_zero, List.set_cons_succ]
         refine wpAnyH_ready (rs := [7]) (by kernel_rfl) (by simp) ?_
         refine AllReadyH.cons (o := { dst := some 38, op := Op.call { callee := Callee.value (Operand.func 83), args := #[Operand.tmp 35, Operand.tmp 36, Operand.tmp 37], argTypes := #[53, 53, 2] }, type := 53, pos := "l03_normal.go:30", after := #[{ on := 4, ground := Ground.data }, { on := 5, ground := Ground.data }, { on := 6, ground := Ground.data }, { on := 3, ground := Ground.chain }], guard := none }) rfl (fun K hK => ?_) ?_
         ·go_simp
          (refine (then_any n h8 m y SM.out.len SY.out.len SM.out.wide _).mono ?_; rintro e w7 ⟨rfl, gg⟩; replace RM := Lib.hid (RM.out.below gg); replace RB := Lib.hid (RB.out.below gg); replace RX := Lib.hid (RX.out.below gg); replace R1 := Lib.hid (R1.out.below gg); replace R2 := Lib.hid (R2.out.below gg); replace BB := Lib.hid (below_go BB.out gg BB.out.size); obtain ⟨⟨d0, d1, d2, d3⟩, d4, d5, d6, d7⟩ := RB.out.all; obtain ⟨⟨f0, f1, f2, f3⟩, f4, f5, f6, f7⟩ := RB.out.frees; have zq := RB.out.lt; obtain ⟨⟨i0, i1, i2, i3⟩, i4, i5, i6, i7⟩ := RX.out.all; obtain ⟨⟨j0, j1, j2, j3⟩, j4, j5, j6, j7⟩ := RX.out.frees; have zp := RX.out.lt)
          go_wp2_with fail
          refine hK.out _ _ ?_ (fun hHeld => ?_)
          ·(first | with_reducible exact RM.out.flat | with_reducible exact (RM.out.past g2 ne1.symm _ _ _ _ _ _ _ _).flat | with_reducible exact ((RM.out.past g2 ne1.symm _ _ _ _ _ _ _ _).past (w.heap.size + 1) ne2.symm _ _ _ _ _ _ _ _).flat)
          clear hK K
          try simp only [Act.put, List.setIfInBounds_toArray, List.set_cons_zero, List.set_cons_succ]
          refine wpAnyH_ready (rs := [8]) (by kernel_rfl) (by simp) ?_
          refine AllReadyH.cons (o := { dst := none, op := Op.store 53 (Operand.tmp 8) (Operand.tmp 34), type := 0, pos := "l03_normal.go:30", after := #[{ on := 3, ground := Ground.data }, { on := 7, ground := Ground.chain }, { on := 0, ground := Ground.phase }, { on := 1, ground := Ground.phase }, { on := 2, ground := Ground.phase }, { on := 3, ground := Ground.phase }, { on := 4, ground := Ground.textOnly Departure.lateStores }, { on := 5, ground := Ground.textOnly Departure.lateStores }, { on := 6, ground := Ground.textOnly Departure.lateStores }, { on := 7, ground := Ground.textOnly Departure.lateStoresUnsure }], guard := none }) rfl (fun K hK => ?_) ?_
          ·go_simp
           refine hK.out _ _ ?_ (fun hHeld => ?_)
           ·(first | with_reducible exact RM.out.flat | with_reducible exact (RM.out.past g2 ne1.symm _ _ _ _ _ _ _ _).flat | with_reducible exact ((RM.out.past g2 ne1.symm _ _ _ _ _ _ _ _).past (w.heap.size + 1) ne2.symm _ _ _ _ _ _ _ _).flat)
           clear hK K
           try simp only [Act.put, List.setIfInBounds_toArray, List.set_cons_zero, List.set_cons_succ]
           refine wpAnyH_ready (rs := [9]) (by kernel_rfl) (by simp) ?_
           refine AllReadyH.cons (o := { dst := none, op := Op.store 53 (Operand.tmp 4) (Operand.tmp 38), type := 0, pos := "l03_normal.go:30", after := #[{ on := 7, ground := Ground.data }, { on := 8, ground := Ground.chain }, { on := 0, ground := Ground.phase }, { on := 1, ground := Ground.phase }, { on := 2, ground := Ground.phase }, { on := 3, ground := Ground.phase }, { on := 4, ground := Ground.phase }, { on := 5, ground := Ground.phase }, { on := 6, ground := Ground.phase }, { on := 7, ground := Ground.phase }, { on := 8, ground := Ground.phase }], guard := none }) rfl (fun K hK => ?_) ?_
           ·go_simp
            refine hK.out _ _ ?_ (fun hHeld => ?_)
            ·(first | with_reducible exact RM.out.flat | with_reducible exact (RM.out.past g2 ne1.symm _ _ _ _ _ _ _ _).flat | with_reducible exact ((RM.out.past g2 ne1.symm _ _ _ _ _ _ _ _).past (w.heap.size + 1) ne2.symm _ _ _ _ _ _ _ _).flat)
            clear hK K
            try simp only [Act.put, List.setIfInBounds_toArray, List.set_cons_zero, List.set_cons_succ]
            refine wpAnyH_done (by kernel_rfl) ?_ _
            go_wp2
            go_roundg (go - 1)
            case measure => have := HL.out; omega
            case rel => exact ⟨thenR n m b, thenR n m y, (by have := HL.out; omega), thenR_sim SM.out SB.out, thenR_sim SM.out SY.out, HWE.out, (RB.out.fill (thenR n m b) (mapR_len _ _ h8)).past (w.heap.size + 1) ne3.symm _ _ _ _ _ _ _ _, (RX.out.past g2 ne3 _ _ _ _ _ _ _ _).fill (thenR n m y) (mapR_len _ _ h8), (R1.out.past g2 (by omega) _ _ _ _ _ _ _ _).past (w.heap.size + 1) (by omega) _ _ _ _ _ _ _ _, (R2.out.past g2 (by omega) _ _ _ _ _ _ _ _).past (w.heap.size + 1) (by omega) _ _ _ _ _ _ _ _, below_fill8 (below_fill8 BB.out g2 (by omega) _ _ _ _ _ _ _ _) (w.heap.size + 1) (by omega) _ _ _ _ _ _ _ _⟩
           exact AllReadyH.nil
          exact AllReadyH.nil
         exact AllReadyH.nil
        exact AllReadyH.nil
       exact AllReadyH.nil
      exact AllReadyH.nil
    ·rw [decide_eq_false hd]
     have HM : Hid (mov b y k = false) := Lib.hid (by rw [← Bool.not_eq_true, mov_iff]; omega)
     go_wp2
     go_roundg (gk - 1)
     case measure => omega
     case rel => exact ⟨k + 1, by omega, by omega, by go_num, fun j hj => by
       by_cases e : j = k
       ·rw [e]; exact HM.out
       ·exact HIN.out j (by omega), RB.out, RX.out, R1.out, R2.out, BB.out⟩
   ·have hkn : k + 1 = n := by omega
    have HF : Hid (firstB (mov b y) (n - 1) 0 = none) := Lib.hid (firstB_no fun j _ hj => HIN.out j (by omega))
    have HE : Hid (rw0 = (b, y)) := Lib.hid (by rw [← HW.out, weighR_none HF.out])
    go_upto_region 8 with fail
    replace RB := Lib.hid RB.out.drew
    replace RX := Lib.hid RX.out.drew
    replace R1 := Lib.hid R1.out.drew
    replace R2 := Lib.hid R2.out.drew
    replace BB := Lib.hid BB.out.drew
    go_region_held3 (fun w' => (w'.cell? ⟨g2, 0, none⟩ = some (.int .u8 (at8 b 0)) ∧ w'.cell? ⟨g2, 1, none⟩ = some (.int .u8 (at8 b 1)) ∧ w'.cell? ⟨g2, 2, none⟩ = some (.int .u8 (at8 b 2)) ∧ w'.cell? ⟨g2, 3, none⟩ = some (.int .u8 (at8 b 3)) ∧ w'.cell? ⟨g2, 4, none⟩ = some (.int .u8 (at8 b 4)) ∧ w'.cell? ⟨g2, 5, none⟩ = some (.int .u8 (at8 b 5)) ∧ w'.cell? ⟨g2, 6, none⟩ = some (.int .u8 (at8 b 6)) ∧ w'.cell? ⟨g2, 7, none⟩ = some (.int .u8 (at8 b 7))) ∧ (w'.cell? ⟨w.heap.size + 1, 0, none⟩ = some (.int .u8 (at8 y 0)) ∧ w'.cell? ⟨w.heap.size + 1, 1, none⟩ = some (.int .u8 (at8 y 1)) ∧ w'.cell? ⟨w.heap.size + 1, 2, none⟩ = some (.int .u8 (at8 y 2)) ∧ w'.cell? ⟨w.heap.size + 1, 3, none⟩ = some (.int .u8 (at8 y 3)) ∧ w'.cell? ⟨w.heap.size + 1, 4, none⟩ = some (.int .u8 (at8 y 4)) ∧ w'.cell? ⟨w.heap.size + 1, 5, none⟩ = some (.int .u8 (at8 y 5)) ∧ w'.cell? ⟨w.heap.size + 1, 6, none⟩ = some (.int .u8 (at8 y 6)) ∧ w'.cell? ⟨w.heap.size + 1, 7, none⟩ = some (.int .u8 (at8 y 7)))) (first | with_reducible exact ⟨RB.out.flat, RX.out.flat⟩ | with_reducible exact ⟨(RB.out.past (w.heap.size + 1 + 1) (by omega) _ _ _ _ _ _ _ _).flat, (RX.out.past (w.heap.size + 1 + 1) (by omega) _ _ _ _ _ _ _ _).flat⟩ | with_reducible exact ⟨((RB.out.past (w.heap.size + 1 + 1) (by omega) _ _ _ _ _ _ _ _).past (w.heap.size + 1 + 1 + 1) (by omega) _ _ _ _ _ _ _ _).flat, ((RX.out.past (w.heap.size + 1 + 1) (by omega) _ _ _ _ _ _ _ _).past (w.heap.size + 1 + 1 + 1) (by omega) _ _ _ _ _ _ _ _).flat⟩)
     (first
      | (go_at_call 80; refine (back_any n b SB.out _).mono ?_; rintro e w6 ⟨rfl, gg⟩; replace RB := Lib.hid (RB.out.below gg); replace RX := Lib.hid (RX.out.below gg); replace R1 := Lib.hid (R1.out.below gg); replace R2 := Lib.hid (R2.out.below gg); replace BB := Lib.hid (below_go BB.out gg BB.out.size); obtain ⟨⟨d0, d1, d2, d3⟩, d4, d5, d6, d7⟩ := R1.out.all; obtain ⟨⟨f0, f1, f2, f3⟩, f4, f5, f6, f7⟩ := R1.out.frees; have zq := R1.out.lt; obtain ⟨⟨i0, i1, i2, i3⟩, i4, i5, i6, i7⟩ := R2.out.all; obtain ⟨⟨j0, j1, j2, j3⟩, j4, j5, j6, j7⟩ := R2.out.frees; have zp := R2.out.lt))
    have F1 := Lib.hid ((R1.out.fill (backR n b) (backR_sim SB.out).len).past (w.heap.size + 1 + 1 + 1) (by omega) (.int .u8 (at8 y 0)) (.int .u8 (at8 y 1)) (.int .u8 (at8 y 2)) (.int .u8 (at8 y 3)) (.int .u8 (at8 y 4)) (.int .u8 (at8 y 5)) (.int .u8 (at8 y 6)) (.int .u8 (at8 y 7)))
    have F2 := Lib.hid ((R2.out.past (w.heap.size + 1 + 1) (by omega) (.int .u8 (at8 (backR n b) 0)) (.int .u8 (at8 (backR n b) 1)) (.int .u8 (at8 (backR n b) 2)) (.int .u8 (at8 (backR n b) 3)) (.int .u8 (at8 (backR n b) 4)) (.int .u8 (at8 (backR n b) 5)) (.int .u8 (at8 (backR n b) 6)) (.int .u8 (at8 (backR n b) 7))).fill y SY.out.len)
    clear d0 d1 d2 d3 d4 d5 d6 d7 i0 i1 i2 i3 i4 i5 i6 i7
    go_wp2
    try rw [Exit.noGoto_ret]
    obtain ⟨⟨e0, e1, e2, e3⟩, e4, e5, e6, e7⟩ := F1.out.all
    obtain ⟨⟨v0, v1, v2, v3⟩, v4, v5, v6, v7⟩ := F2.out.all
    rw [HE.out]
    refine bodyPost_ret (v := .tuple #[arr8 .u8 (backR n b), arr8 .u8 y]) (by simp [results, Try.results68, go_sem, e0, e1, e2, e3, e4, e5, e6, e7, v0, v1, v2, v3, v4, v5, v6, v7]) rfl ⟨rfl, ?_⟩
    exact below_fill8 (below_fill8 BB.out _ (by omega) _ _ _ _ _ _ _ _) _ (by omega) _ _ _ _ _ _ _ _

end Go.Proofs.Ytpkhddndapcpjaa

