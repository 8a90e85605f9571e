/- Handles: the program's first handle. -/
import Derived.Test.YtckdhnpnkgmikaaDoorHandP
import Derived.Test.YtckdhnpnkgmikaaDoorLetters
import Derived.Test.YtckdhnpnkgmikaaDoorKit7
import Derived.BigQuiet
import Derived.Deep.LoopGhost
namespace Go.Proofs.YtckdhnpnkgmikaaDoor
open Go.RowKit Go.ChangeShapes

/-- What the program's search of the first handle gives back. -/
def handI (r : Option (Nat × Nat)) : Value := match r with
  | none => .tuple #[.agg #[.int .i64 0, .int .i64 0], .bool false]
  | some (p, q) => .tuple #[.agg #[.int .i64 p, .int .i64 q], .bool true]

theorem bh_at8 (xs : List Int) (k i : Nat) (h : i < 8) : at8 (bh xs k) i = (lastB (i : Int) xs k : Nat) := bh_at xs k i h

theorem idx_nat {x : Int} (h : x ≠ 0 ∧ -8 < x ∧ x < 8) : ∃ q : Nat, q ≤ 6 ∧ idx x = (q : Int) + 1 := by
  have := idx_bd h
  exact ⟨(idx x - 1).toNat, by omega, by omega⟩

set_option maxRecDepth 100000 in
set_option maxHeartbeats 2000000 in
theorem firstHandle_any (a : Option Addr) (n cap : Nat) (xs : List Int) (w : World) (hr : Reads w a n xs) (hx : Lt8 xs) (hn : n ≤ 1048576) :
    Calls Tryd.prog 65 #[.slice a n cap] w fun e w' => e = .returned (handI (hand xs n)) ∧ Below w.heap.size w w' := by
  have HL := Lib.hid hr.len
  have HX := Lib.hid hx; clear hx
  have HR := Lib.hid hr; clear hr
  go_enter Tryd.func65, Tryd.ntmps65
  have A0 := Lib.hid ((At2.new w (.int .i64 0) (.int .i64 0) 80).alloc (.cells #[.int .i64 0, .int .i64 0, .int .i64 0, .int .i64 0, .int .i64 0, .int .i64 0, .int .i64 0, .int .i64 0] 88))
  have R0 := Lib.hid (Row8.zeros (w.alloc (.cells #[.int .i64 0, .int .i64 0] 80)) .i64 88 (w.heap.size + 1) (by simp))
  have BB := Lib.hid (below2 w (.cells #[.int .i64 0, .int .i64 0] 80) (.cells #[.int .i64 0, .int .i64 0, .int .i64 0, .int .i64 0, .int .i64 0, .int .i64 0, .int .i64 0, .int .i64 0] 88))
  go_wp2
  go_loopw [11] (fun i wr => ∃ k : Nat, k ≤ n ∧ i = .int .i64 k ∧ Hid (hand xs k = none) ∧ At2 wr w.heap.size (.int .i64 0) (.int .i64 0) ∧ Row8 wr (w.heap.size + 1) .i64 (bh xs k) ∧ Below w.heap.size w wr) (fun i _ => n - (intOf i).toNat)
  case atStart => exact ⟨0, Nat.zero_le _, rfl, Lib.hid rfl, A0.out, by rw [bh_zero]; exact R0.out, BB.out⟩
  case round =>
    obtain ⟨k, hk, rfl, HN, a0, r0, bb⟩ := hrel
    clear A0 R0 BB
    have A0 := Lib.hid a0; clear a0
    have R0 := Lib.hid r0; clear r0
    have BB := Lib.hid bb; clear bb
    by_cases hlt : k < n
    · obtain ⟨b, off, rfl, hb, hc⟩ := HR.out.cells (by omega)
      have HC : Hid (∀ j, j < n → wr.cell? ⟨b, off + j, none⟩ = some (.int .i64 (xs.getD j 0))) := Lib.hid fun j hj => (BB.out.cell hb).trans (hc j hj)
      clear hc
      obtain ⟨x0, x1, x2⟩ := HX.out.at k (by rw [HL.out]; exact hlt)
      obtain ⟨q, hq, hxq⟩ := idx_nat ⟨x0, x1, x2⟩
      have hset := bh_set xs k (q + 1) (by rw [hxq]; rfl)
      have hbk := back_last (xs.getD k 0) xs k
      have h1 := HC.out k hlt
      obtain ⟨x, hx⟩ : ∃ x, x = xs.getD k 0 := ⟨_, rfl⟩
      rw [← hx] at h1 x0 x1 x2 hxq hbk
      rw [hxq, show (q : Int) + 1 - 1 = (q : Int) by omega] at hbk
      have HXE := Lib.hid hx; clear hx
      have CI : ∀ W, Calls Tryd.prog 67 #[.int .i64 x] W fun e w' => e = .returned (.int .i64 ((q : Int) + 1)) ∧ W = w' := fun W => by
        have := index_any x W (by omega) (by omega)
        rw [show x * cnt x = idx x from idx_eq x, hxq] at this
        exact this
      have KI := Lib.hid CI; clear CI hxq
      have KV : Hid (∀ W, Calls Tryd.prog 71 #[.int .i64 x] W fun e w' => e = .returned (.int .i64 (-x)) ∧ W = w') := Lib.hid fun W => inverse_any x W (by omega) (by omega)
      have c1 := R0.out.cell (q + 1) (by omega)
      have c0 := R0.out.cell q (by omega)
      have f1 := R0.out.free (q + 1) (by omega)
      rw [bh_at8 xs k (q + 1) (by omega), show (((q + 1 : Nat)) : Int) = (q : Int) + 1 by omega] at c1
      rw [bh_at8 xs k q (by omega)] at c0
      have hle := lastB_le ((q : Int) + 1) xs k
      obtain ⟨L1, hL1⟩ : ∃ L, L = lastB ((q : Int) + 1) xs k := ⟨_, rfl⟩
      obtain ⟨L0, hL0⟩ : ∃ L, L = lastB (q : Int) xs k := ⟨_, rfl⟩
      rw [← hL1] at c1 hbk hle
      rw [← hL0] at c0 hbk
      have HL1 := Lib.hid hL1
      clear hL1 hL0
      have HBK := Lib.hid hbk; clear hbk
      have HSET := Lib.hid hset; clear hset
      have z1 := R0.out.lt
      by_cases hll : L0 < L1
      · have td : decide ((L0 : Int) < (L1 : Int)) = true := decide_eq_true (by omega)
        obtain ⟨l, rfl⟩ : ∃ l, L1 = l + 1 := ⟨L1 - 1, by omega⟩
        have hl1 : (((l + 1 : Nat)) : Int) = (l : Int) + 1 := by omega
        rw [hl1] at c1 td
        clear hl1
        have h2 := HC.out l (by omega)
        obtain ⟨y0, y1, y2⟩ := HX.out.at l (by rw [HL.out]; omega)
        rw [Nat.add_sub_cancel] at HBK
        obtain ⟨y, hy⟩ : ∃ y, y = xs.getD l 0 := ⟨_, rfl⟩
        rw [← hy] at h2 y0 y1 y2 HBK
        clear hy
        by_cases hh : y = -x
        · have e2 : (y == -x) = true := by simp [hh]
          have hres : hand xs n = some (l, k) := by
            refine hand_mono (hand_some HN.out ?_) hlt
            rw [← HXE.out, HBK.out, if_pos ⟨hll, hh⟩]
          have HRES := Lib.hid hres; clear hres hh
          go_wp2_with (go_at_call 67; refine (KI.out _).mono ?_; rintro e w' ⟨rfl, rfl⟩)
          go_quiet (first | (go_at_call 71; exact Calls.quiet_of_same ((KV.out _).mono fun _ _ ⟨he, hw⟩ => ⟨he, hw.symm⟩)))
          have hb5 := below_draws wr.heap.size wr nq
          obtain ⟨wq, hwq⟩ : ∃ wq, wq = wr.drewN nq := ⟨_, rfl⟩
          rw [← hwq] at hb5 ⊢
          clear hwq h1 h2 c0 c1 f1 z1
          replace BB := Lib.hid (below_go BB.out hb5 BB.out.size)
          replace A0 := Lib.hid (A0.out.below hb5)
          replace R0 := Lib.hid (R0.out.below hb5)
          clear hb5
          have c1 := R0.out.cell (q + 1) (by omega)
          rw [bh_at8 xs k (q + 1) (by omega), show (((q + 1 : Nat)) : Int) = (q : Int) + 1 by omega, ← HL1.out, show (((l + 1 : Nat)) : Int) = (l : Int) + 1 by omega] at c1
          have z1 := R0.out.lt
          obtain ⟨q1, q2, q3, q4, q5⟩ := A0.out
          go_wp2
          obtain ⟨_, e2, e3, _, _⟩ := A0.out.fill (.int .i64 (l : Int)) (.int .i64 (k : Int))
          refine bodyPost_ret (v := .tuple #[.agg #[.int .i64 (l : Int), .int .i64 (k : Int)], .bool true]) (by simp [results, Tryd.results65, go_sem, e2, e3]) rfl ⟨by rw [HRES.out]; rfl, ?_⟩
          exact (BB.out.setCell (p := ⟨w.heap.size, 0, none⟩) (by simp) _).setCell (p := ⟨w.heap.size, 1, none⟩) (by simp) _
        · have e2 : (y == -x) = false := by simp [hh]
          have hno : hand xs (k + 1) = none := hand_none HN.out (by rw [← HXE.out, HBK.out, if_neg (fun h => hh h.2)])
          have HNO := Lib.hid hno; clear hno hh
          go_wp2_with (go_at_call 67; refine (KI.out _).mono ?_; rintro e w' ⟨rfl, rfl⟩)
          go_quiet (first | (go_at_call 71; exact Calls.quiet_of_same ((KV.out _).mono fun _ _ ⟨he, hw⟩ => ⟨he, hw.symm⟩)))
          have hb5 := below_draws wr.heap.size wr nq
          obtain ⟨wq, hwq⟩ : ∃ wq, wq = wr.drewN nq := ⟨_, rfl⟩
          rw [← hwq] at hb5 ⊢
          clear hwq h1 h2 c0 c1 f1 z1
          replace BB := Lib.hid (below_go BB.out hb5 BB.out.size)
          replace A0 := Lib.hid (A0.out.below hb5)
          replace R0 := Lib.hid (R0.out.below hb5)
          clear hb5
          have f1 := R0.out.free (q + 1) (by omega)
          have c1 := R0.out.cell (q + 1) (by omega)
          have z1 := R0.out.lt
          go_wp2
          go_roundw
          case rel =>
            have hs := R0.out.store (q + 1) (by omega) ((k + 1 : Nat) : Int)
            rw [HSET.out] at hs
            exact ⟨k + 1, by omega, by go_num, HNO, A0.out.setCell (by simp) _, by simpa using hs, BB.out.setCell (by simp) _⟩
          case measure => simp [intOf]; omega
      · have td : decide ((L0 : Int) < (L1 : Int)) = false := decide_eq_false (by omega)
        have hno : hand xs (k + 1) = none := hand_none HN.out (by rw [← HXE.out, HBK.out, if_neg (fun h => hll h.1)])
        have HNO := Lib.hid hno; clear hno
        go_wp2_with (go_at_call 67; refine (KI.out _).mono ?_; rintro e w' ⟨rfl, rfl⟩)
        go_quiet (first | (go_at_call 71; exact Calls.quiet_of_same ((KV.out _).mono fun _ _ ⟨he, hw⟩ => ⟨he, hw.symm⟩)))
        have hb5 := below_draws wr.heap.size wr nq
        obtain ⟨wq, hwq⟩ : ∃ wq, wq = wr.drewN nq := ⟨_, rfl⟩
        rw [← hwq] at hb5 ⊢
        clear hwq h1 c0 c1 f1 z1
        replace BB := Lib.hid (below_go BB.out hb5 BB.out.size)
        replace A0 := Lib.hid (A0.out.below hb5)
        replace R0 := Lib.hid (R0.out.below hb5)
        clear hb5
        have f1 := R0.out.free (q + 1) (by omega)
        have c1 := R0.out.cell (q + 1) (by omega)
        have z1 := R0.out.lt
        go_wp2
        go_roundw
        case rel =>
          have hs := R0.out.store (q + 1) (by omega) ((k + 1 : Nat) : Int)
          rw [HSET.out] at hs
          exact ⟨k + 1, by omega, by go_num, HNO, A0.out.setCell (by simp) _, by simpa using hs, BB.out.setCell (by simp) _⟩
        case measure => simp [intOf]; omega
    · have hkn : k = n := by omega
      have HK := Lib.hid hkn; clear hkn
      obtain ⟨q1, q2, q3, q4, q5⟩ := A0.out
      go_wp2
      obtain ⟨_, e2, e3, _, _⟩ := A0.out.fill (.int .i64 0) (.int .i64 0)
      refine bodyPost_ret (v := .tuple #[.agg #[.int .i64 0, .int .i64 0], .bool false]) (by simp [results, Tryd.results65, go_sem, e2, e3]) rfl ⟨by rw [← HK.out, HN.out]; rfl, ?_⟩
      exact (BB.out.setCell (p := ⟨w.heap.size, 0, none⟩) (by simp) _).setCell (p := ⟨w.heap.size, 1, none⟩) (by simp) _

end Go.Proofs.YtckdhnpnkgmikaaDoor
