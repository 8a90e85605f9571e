/- The model: is one simple braid a beginning of another? -/
import Derived.Test.YtinflgcpkeomlaaSimF
import Derived.Test.YtinflgcpkeomlaaBase
import Derived.BigQuiet
import Derived.IntWalk
namespace Go.Proofs.Ytinflgcpkeomlaa
open Go.RowKit Go.ChangeShapes

set_option maxRecDepth 100000 in
set_option maxHeartbeats 1000000 in
theorem l02Within_any (n : Nat) (h8 : n ≤ 8) (a b : List Int) (la : a.length = 8) (lb : b.length = 8) (w : World) :
    Calls Try.prog 74 #[arr8 .u8 a, arr8 .u8 b, .int .i64 n] w fun e w' => e = .returned (.bool (withinB n a b)) ∧ Below w.heap.size w w' := by
  go_enter Try.func74, Try.ntmps74
  have RA := Lib.hid ((Row8.place w .u8 a 40 w.heap.size rfl la).alloc (.cells #[.int .u8 (at8 b 0), .int .u8 (at8 b 1), .int .u8 (at8 b 2), .int .u8 (at8 b 3), .int .u8 (at8 b 4), .int .u8 (at8 b 5), .int .u8 (at8 b 6), .int .u8 (at8 b 7)] 40))
  have RB := Lib.hid (Row8.place (w.alloc (.cells #[.int .u8 (at8 a 0), .int .u8 (at8 a 1), .int .u8 (at8 a 2), .int .u8 (at8 a 3), .int .u8 (at8 a 4), .int .u8 (at8 a 5), .int .u8 (at8 a 6), .int .u8 (at8 a 7)] 40)) .u8 b 40 (w.heap.size + 1) (by simp) lb)
  have BB := Lib.hid (below2 w (.cells #[.int .u8 (at8 a 0), .int .u8 (at8 a 1), .int .u8 (at8 a 2), .int .u8 (at8 a 3), .int .u8 (at8 a 4), .int .u8 (at8 a 5), .int .u8 (at8 a 6), .int .u8 (at8 a 7)] 40) (.cells #[.int .u8 (at8 b 0), .int .u8 (at8 b 1), .int .u8 (at8 b 2), .int .u8 (at8 b 3), .int .u8 (at8 b 4), .int .u8 (at8 b 5), .int .u8 (at8 b 6), .int .u8 (at8 b 7)] 40))
  go_wp2
  go_loopw [7] (fun i wr => ∃ k : Nat, k ≤ n ∧ i = .int .i64 k ∧ (∀ x y, x < k → x < y → y < n → ¬ (at8 a y < at8 a x ∧ at8 b x < at8 b y)) ∧ Row8 wr w.heap.size .u8 a ∧ Row8 wr (w.heap.size + 1) .u8 b ∧ Below w.heap.size w wr) (fun i _ => n - (intOf i).toNat)
  case atStart => exact ⟨0, Nat.zero_le _, rfl, fun x y hx => absurd hx (Nat.not_lt_zero _), RA.out, RB.out, BB.out⟩
  case round =>
    obtain ⟨k, hk, rfl, hout, hRA, hRB, hBB⟩ := hrel
    have HOUT := Lib.hid hout; clear hout
    clear RA RB BB
    have RA := Lib.hid hRA
    have RB := Lib.hid hRB
    have BB := Lib.hid hBB
    clear hRA hRB hBB
    by_cases hlt : k < n
    · go_wp2
      go_loopw [8] (fun i wr => ∃ m : Nat, k < m ∧ m ≤ n ∧ i = .int .i64 m ∧ (∀ y, k < y → y < m → ¬ (at8 a y < at8 a k ∧ at8 b k < at8 b y)) ∧ Row8 wr w.heap.size .u8 a ∧ Row8 wr (w.heap.size + 1) .u8 b ∧ Below w.heap.size w wr) (fun i _ => n - (intOf i).toNat)
      case atStart => exact ⟨k + 1, by omega, by omega, by go_num, fun y y1 y2 => by omega, RA.out, RB.out, BB.out⟩
      case round =>
        obtain ⟨m, hm1, hm2, rfl, hin, hRA, hRB, hBB⟩ := hrel
        have HIN := Lib.hid hin; clear hin
        clear RA RB BB
        have RA := Lib.hid hRA
        have RB := Lib.hid hRB
        have BB := Lib.hid hBB
        clear hRA hRB hBB
        by_cases hlt2 : m < n
        · have c1 := RA.out.cell k (by omega)
          have c2 := RA.out.cell m (by omega)
          have c3 := RB.out.cell k (by omega)
          have c4 := RB.out.cell m (by omega)
          have z1 := RB.out.lt
          by_cases hd : at8 a m < at8 a k
          · have td : decide (at8 a m < at8 a k) = true := decide_eq_true hd
            by_cases hd2 : at8 b k < at8 b m
            · have td2 : decide (at8 b k < at8 b m) = true := decide_eq_true hd2
              have HNO := Lib.hid (withinB_no n a b k m hm1 hlt2 hd hd2)
              go_wp2
              go_quiet (fail)
              go_wp2
              have hb := below_draws wr.heap.size wr nq
              go_ret
              exact ⟨ret_bool HNO.out.symm, below_go BB.out hb BB.out.size⟩
            · have td2 : decide (at8 b k < at8 b m) = false := decide_eq_false hd2
              go_wp2
              go_quiet (fail)
              go_wp2
              go_roundw
              case rel =>
                have hb := below_draws wr.heap.size wr nq
                exact ⟨m + 1, by omega, by omega, by go_num, fun y y1 y2 => by
                  by_cases e : y = m
                  · rw [e]; omega
                  · exact HIN.out y y1 (by omega), RA.out.below hb, RB.out.below hb, below_go BB.out hb BB.out.size⟩
              case measure => simp [intOf]; omega
          · have td : decide (at8 a m < at8 a k) = false := decide_eq_false hd
            go_wp2
            go_quiet (fail)
            go_wp2
            go_roundw
            case rel =>
              have hb := below_draws wr.heap.size wr nq
              exact ⟨m + 1, by omega, by omega, by go_num, fun y y1 y2 => by
                by_cases e : y = m
                · rw [e]; omega
                · exact HIN.out y y1 (by omega), RA.out.below hb, RB.out.below hb, below_go BB.out hb BB.out.size⟩
            case measure => simp [intOf]; omega
        · have hmn : m = n := by omega
          subst hmn
          go_wp2
          go_roundw
          case rel =>
            exact ⟨k + 1, by omega, by go_num, fun x y hx hxy hy => by
              by_cases e : x = k
              · rw [e]; exact HIN.out y (by omega) hy
              · exact HOUT.out x y (by omega) hxy hy, RA.out, RB.out, BB.out⟩
          case measure => simp [intOf]; omega
    · have hkn : k = n := by omega
      subst hkn
      have HYES := Lib.hid ((withinB_iff k a b).2 fun x y hx hy => HOUT.out x y (by omega) hx hy)
      go_wp2
      go_ret
      exact ⟨ret_bool HYES.out.symm, BB.out⟩

end Go.Proofs.Ytinflgcpkeomlaa
