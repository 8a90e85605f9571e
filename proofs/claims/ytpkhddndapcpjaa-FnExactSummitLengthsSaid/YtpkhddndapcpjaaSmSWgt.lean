/- The model: is a pair of simple braids weighed? -/
import Derived.Test.YtpkhddndapcpjaaSmSB
import Derived.Test.YtpkhddndapcpjaaSmKit11
import Derived.BigQuiet
import Derived.IntWalk
namespace Go.Proofs.Ytpkhddndapcpjaa
open Go.RowKit Go.ChangeShapes

set_option maxRecDepth 100000 in
set_option maxHeartbeats 1000000 in
theorem l03Weighted_any (n : Nat) (a b : List Int) (sa : Sim n a) (lb : b.length = 8) (w : World) :
  Calls Try.prog 38 #[arr8 .u8 a, arr8 .u8 b, .int .i64 n] w fun e w' => e = .returned (.bool (weightB n a b)) ∧ Below w.heap.size w w' := by
 have h1 := sa.lo
 have h8 := sa.hi
 have la := sa.len
 have HS := Lib.hid sa
 clear sa
 have HLB := Lib.hid lb
 go_enter Try.func38, Try.ntmps38
 have RA := Lib.hid ((Row8.place w .u8 a 53 w.heap.size rfl la).alloc (.cells #[.int .u8 (at8 b 0), .int .u8 (at8 b 1), .int .u8 (at8 b 2), .int .u8 (at8 b 3), .int .u8 (at8 b 4), .int .u8 (at8 b 5), .int .u8 (at8 b 6), .int .u8 (at8 b 7)] 53))
 have RB := Lib.hid (Row8.place (w.alloc (.cells #[.int .u8 (at8 a 0), .int .u8 (at8 a 1), .int .u8 (at8 a 2), .int .u8 (at8 a 3), .int .u8 (at8 a 4), .int .u8 (at8 a 5), .int .u8 (at8 a 6), .int .u8 (at8 a 7)] 53)) .u8 b 53 (w.heap.size + 1) (by simp) lb)
 have BB := Lib.hid (below2 w (.cells #[.int .u8 (at8 a 0), .int .u8 (at8 a 1), .int .u8 (at8 a 2), .int .u8 (at8 a 3), .int .u8 (at8 a 4), .int .u8 (at8 a 5), .int .u8 (at8 a 6), .int .u8 (at8 a 7)] 53) (.cells #[.int .u8 (at8 b 0), .int .u8 (at8 b 1), .int .u8 (at8 b 2), .int .u8 (at8 b 3), .int .u8 (at8 b 4), .int .u8 (at8 b 5), .int .u8 (at8 b 6), .int .u8 (at8 b 7)] 53))
 clear la lb
 go_wp2_with fail
 refine (l02Back_any n a HS.out _).mono ?_
 rintro e w2 ⟨rfl, hb⟩
 replace RB := Lib.hid (RB.out.below hb)
 replace BB := Lib.hid (below_go BB.out hb BB.out.size)
 clear hb RA
 have zb := BB.out.size
 have zr := RB.out.lt
 obtain ⟨gk, hgk⟩ : ∃ gk, gk = backR n a := ⟨_, rfl⟩
 have HG := Lib.hid hgk
 have lk : gk.length = 8 := by rw [hgk]; exact mapR_len _ _ h8
 rw [← hgk]
 clear hgk
 have RK := Lib.hid (Row8.place w2 .u8 gk 53 w2.heap.size rfl lk)
 replace RB := Lib.hid (RB.out.alloc (.cells #[.int .u8 (at8 gk 0), .int .u8 (at8 gk 1), .int .u8 (at8 gk 2), .int .u8 (at8 gk 3), .int .u8 (at8 gk 4), .int .u8 (at8 gk 5), .int .u8 (at8 gk 6), .int .u8 (at8 gk 7)] 53))
 replace BB := Lib.hid (BB.out.alloc zb (.cells #[.int .u8 (at8 gk 0), .int .u8 (at8 gk 1), .int .u8 (at8 gk 2), .int .u8 (at8 gk 3), .int .u8 (at8 gk 4), .int .u8 (at8 gk 5), .int .u8 (at8 gk 6), .int .u8 (at8 gk 7)] 53))
 clear lk
 go_wp2
 obtain ⟨W, hW⟩ : ∃ W, W = w2.alloc (.cells #[.int .u8 (at8 gk 0), .int .u8 (at8 gk 1), .int .u8 (at8 gk 2), .int .u8 (at8 gk 3), .int .u8 (at8 gk 4), .int .u8 (at8 gk 5), .int .u8 (at8 gk 6), .int .u8 (at8 gk 7)] 53) := ⟨_, rfl⟩
 have rb := RB.out
 have rk := RK.out
 have bb := BB.out
 rw [← hW] at rb rk bb ⊢
 clear RB RK BB hW
 obtain ⟨g2, hg2⟩ : ∃ g2, g2 = w2.heap.size := ⟨_, rfl⟩
 rw [← hg2] at rk ⊢
 clear hg2
 have RB := Lib.hid rb
 have RK := Lib.hid rk
 have BB := Lib.hid bb
 clear rb rk bb
 go_loopw [8] (fun i wr => ∃ k : Nat, k + 1 ≤ n ∧ i = .int .i64 ((k : Int) + 1) ∧ (∀ j, j < k → mov gk b j = false) ∧ Row8 wr (w.heap.size + 1) .u8 b ∧ Row8 wr g2 .u8 gk ∧ Below w.heap.size w wr) (fun i _ => n - (intOf i).toNat)
 case atStart => exact ⟨0, h1, by go_num, fun j hj => absurd hj (Nat.not_lt_zero _), RB.out, RK.out, BB.out⟩
 case round =>
  obtain ⟨k, hk, rfl, hin, hRB, hRK, hBB⟩ := hrel
  have HIN := Lib.hid hin; clear hin
  clear RB RK BB
  have RB := Lib.hid hRB
  have RK := Lib.hid hRK
  have BB := Lib.hid hBB
  clear hRB hRK hBB
  by_cases hlt : k + 1 < n
  ·have c1 := RB.out.cell k (by omega)
   have c2 := RB.out.cell (k + 1) (by omega)
   have c3 := RK.out.cell k (by omega)
   have c4 := RK.out.cell (k + 1) (by omega)
   have z1 := RB.out.lt
   have z2 := RK.out.lt
   have hw1 : IntKind.i64.wrap (k : Int) = k := IntWalk.i64_in _ (by omega)
   have b1 : (k : Int) + 1 < 8 := by omega
   have b2 : (k : Int) < 8 := by omega
   by_cases hd : at8 b (k + 1) < at8 b k
   ·have td : decide (at8 b (k + 1) < at8 b k) = true := decide_eq_true hd
    by_cases hd2 : at8 gk k < at8 gk (k + 1)
    ·have td2 : decide (at8 gk k < at8 gk (k + 1)) = true := decide_eq_true hd2
     have HNO : Hid (weightB n a b = false) := Lib.hid (by
      rw [← Bool.not_eq_true, weightB_iff]
      intro h
      rw [← HG.out] at h
      exact h k hlt ⟨hd, hd2⟩)
     go_wp2
     go_quiet (fail)
     clear hw1
     go_wp2
     have hb := below_draws wr.heap.size wr nq
     go_ret
     exact ⟨ret_bool HNO.out.symm, below_go BB.out hb BB.out.size⟩
    ·have td2 : decide (at8 gk k < at8 gk (k + 1)) = false := decide_eq_false hd2
     have HM : Hid (mov gk b k = false) := Lib.hid (by unfold mov; rw [td2, Bool.and_false])
     go_wp2
     go_quiet (fail)
     clear hw1
     go_wp2
     go_roundw
     case rel =>
      have hb := below_draws wr.heap.size wr nq
      exact ⟨k + 1, by omega, by go_num, fun j hj => by
       by_cases e : j = k
       ·rw [e]; exact HM.out
       ·exact HIN.out j (by omega), RB.out.below hb, RK.out.below hb, below_go BB.out hb BB.out.size⟩
     case measure => simp [intOf]; omega
   ·have td : decide (at8 b (k + 1) < at8 b k) = false := decide_eq_false hd
    have HM : Hid (mov gk b k = false) := Lib.hid (by unfold mov; rw [td, Bool.false_and])
    go_wp2
    go_quiet (fail)
    clear hw1
    go_wp2
    go_roundw
    case rel =>
     have hb := below_draws wr.heap.size wr nq
     exact ⟨k + 1, by omega, by go_num, fun j hj => by
      by_cases e : j = k
      ·rw [e]; exact HM.out
      ·exact HIN.out j (by omega), RB.out.below hb, RK.out.below hb, below_go BB.out hb BB.out.size⟩
    case measure => simp [intOf]; omega
  ·have hkn : k + 1 = n := by omega
   have HYES : Hid (weightB n a b = true) := Lib.hid (by
    unfold weightB
    rw [← HG.out, firstB_no fun j _ hj => HIN.out j (by omega)]
    rfl)
   go_wp2
   go_ret
   exact ⟨ret_bool HYES.out.symm, BB.out⟩

end Go.Proofs.Ytpkhddndapcpjaa

