/- Handles: the model's index of a letter, its first handle. -/
import Derived.Test.YtckdhnpnkgmikaaDoorIs
import Derived.Test.YtckdhnpnkgmikaaDoorSIdx
import Derived.Test.YtckdhnpnkgmikaaDoorKit3
import Derived.BigQuiet
import Derived.Deep.LoopGhost
namespace Go.Proofs.YtckdhnpnkgmikaaDoor
open Go.RowKit Go.ChangeShapes

/-- What the search of the first handle gives back. -/
def handV (r : Option (Nat × Nat)) : Value := match r with
  | none => .tuple #[.int .i64 0, .int .i64 0, .bool false]
  | some (p, q) => .tuple #[.int .i64 p, .int .i64 q, .bool true]

set_option maxRecDepth 100000 in
set_option maxHeartbeats 1000000 in
theorem l06Handle_any (a : Option Addr) (n cap : Nat) (xs : List Int) (w : World) (hr : Reads w a n xs) (hx : Lt8 xs) (hn : n ≤ 1048576) :
    Calls Tryd.prog 50 #[.slice a n cap] w fun e w' => e = .returned (handV (hand xs n)) ∧ Below w.heap.size w w' := by
  have HL := Lib.hid hr.len
  have HX := Lib.hid hx; clear hx
  have HR := Lib.hid hr; clear hr
  go_enter Tryd.func50, Tryd.ntmps50
  go_wp2
  go_loopw [5] (fun i wr => ∃ k : Nat, k ≤ n ∧ i = .int .i64 k ∧ Hid (hand xs k = none) ∧ Below w.heap.size w wr) (fun i _ => n - (intOf i).toNat)
  case atStart => exact ⟨0, Nat.zero_le _, rfl, Lib.hid rfl, Below.refl _ _⟩
  case round =>
    obtain ⟨k, hk, rfl, HN, bb⟩ := hrel
    have BB := Lib.hid bb; clear bb
    by_cases hlt : k < n
    · obtain ⟨b, off, rfl, hb, hc⟩ := HR.out.cells (by omega)
      have HC : Hid (∀ j, j < n → wr.cell? ⟨b, off + j, none⟩ = some (.int .i64 (xs.getD j 0))) := Lib.hid fun j hj => (BB.out.cell hb).trans (hc j hj)
      clear hc
      obtain ⟨x0, x1, x2⟩ := HX.out.at k (by rw [HL.out]; exact hlt)
      obtain ⟨x, hx⟩ : ∃ x, x = xs.getD k 0 := ⟨_, rfl⟩
      have h1 := HC.out k hlt
      rw [← hx] at h1 x0 x1 x2
      have HXE := Lib.hid hx; clear hx
      have ix1 : 1 ≤ idx x := (idx_bd ⟨x0, x1, x2⟩).1
      have ix2 : idx x ≤ 7 := (idx_bd ⟨x0, x1, x2⟩).2
      go_wp2_with (go_at_call 64; refine (l06Index_any _ _ (by omega) (by omega)).mono ?_; rintro e w' ⟨rfl, rfl⟩)
      go_loopw [7] (fun i wq => ∃ j : Nat, j ≤ k ∧ i = .int .i64 ((j : Int) - 1) ∧ Hid (back x xs k = back x xs j) ∧ Below w.heap.size w wq) (fun i _ => (intOf i + 1).toNat)
      case atStart => exact ⟨k, Nat.le_refl _, by go_num, Lib.hid rfl, BB.out⟩
      case round =>
        obtain ⟨j, hj, rfl, HBK, bq⟩ := hrel
        have BQ := Lib.hid bq; clear bq
        have HC1 : Hid (∀ j, j < n → wr.cell? ⟨b, off + j, none⟩ = some (.int .i64 (xs.getD j 0))) := Lib.hid fun j hj => by
          have h0 := World.block_lt_of_cell? _ _ (HC.out j hj)
          exact (BQ.out.cell hb).trans ((BB.out.cell hb).symm.trans (HC.out j hj))
        rcases Nat.eq_zero_or_pos j with h0 | h0
        · subst h0
          have hno : hand xs (k + 1) = none := hand_none HN.out (by rw [← HXE.out, HBK.out]; rfl)
          have HNO := Lib.hid hno; clear hno
          go_wp2
          go_roundw
          case rel => exact ⟨k + 1, by omega, by go_num, HNO, BQ.out⟩
          case measure => simp [intOf]; omega
        · obtain ⟨p, rfl⟩ : ∃ p, j = p + 1 := ⟨j - 1, by omega⟩
          have e1 : ((p + 1 : Nat) : Int) - 1 = (p : Int) := by omega
          rw [e1]
          clear e1
          have hpn : p < n := by omega
          obtain ⟨y0, y1, y2⟩ := HX.out.at p (by rw [HL.out]; exact hpn)
          have h2 := HC1.out p hpn
          have h1 := HC1.out k hlt
          have hbs : back x xs (p + 1) = if xs.getD p 0 = -x then some p else if idx (xs.getD p 0) = idx x ∨ idx (xs.getD p 0) = idx x - 1 then none else back x xs p := rfl
          rw [← HXE.out] at h1
          obtain ⟨y, hy⟩ : ∃ y, y = xs.getD p 0 := ⟨_, rfl⟩
          rw [← hy] at h2 y0 y1 y2 hbs
          clear hy
          have HBS := Lib.hid hbs; clear hbs
          by_cases hh : y = -x
          · have e2 : (y == -x) = true := by simp [hh]
            have hres : hand xs n = some (p, k) := by
              refine hand_mono (hand_some HN.out ?_) hlt
              rw [← HXE.out, HBK.out, HBS.out, if_pos hh]
            have HRES := Lib.hid hres; clear hres hh
            go_wp2_with (go_at_call 64; refine (l06Index_any _ _ (by omega) (by omega)).mono ?_; rintro e w' ⟨rfl, rfl⟩)
            go_quiet (fail)
            go_wp2
            have hb5 := below_draws wr.heap.size wr nq
            go_ret3
            exact ⟨by rw [HRES.out]; rfl, below_go BQ.out hb5 BQ.out.size⟩
          · have e2 : (y == -x) = false := by simp [hh]
            by_cases hi : idx y = idx x ∨ idx y = idx x - 1
            · have hno : hand xs (k + 1) = none := hand_none HN.out (by rw [← HXE.out, HBK.out, HBS.out, if_neg hh, if_pos hi])
              have HNO := Lib.hid hno; clear hno hh
              by_cases hi1 : idx y = idx x
              · have e3 : (idx y == idx x) = true := by simp [hi1]
                clear hi
                go_wp2_with (go_at_call 64; refine (l06Index_any _ _ (by omega) (by omega)).mono ?_; rintro e w' ⟨rfl, rfl⟩)
                go_quiet (fail)
                go_wp2
                have hb5 := below_draws wr.heap.size wr nq
                go_roundw
                case rel => exact ⟨k + 1, by omega, by go_num, HNO, below_go BQ.out hb5 BQ.out.size⟩
                case measure => simp [intOf]; omega
              · have e3 : (idx y == idx x) = false := by simp [hi1]
                have e4 : (idx y == idx x - 1) = true := by simp; omega
                clear hi
                go_wp2_with (go_at_call 64; refine (l06Index_any _ _ (by omega) (by omega)).mono ?_; rintro e w' ⟨rfl, rfl⟩)
                go_quiet (fail)
                go_wp2
                have hb5 := below_draws wr.heap.size wr nq
                go_roundw
                case rel => exact ⟨k + 1, by omega, by go_num, HNO, below_go BQ.out hb5 BQ.out.size⟩
                case measure => simp [intOf]; omega
            · have e3 : (idx y == idx x) = false := by simp; omega
              have e4 : (idx y == idx x - 1) = false := by simp; omega
              have hgo : back x xs k = back x xs p := by rw [HBK.out, HBS.out, if_neg hh, if_neg hi]
              have HGO := Lib.hid hgo; clear hgo hh hi
              go_wp2_with (go_at_call 64; refine (l06Index_any _ _ (by omega) (by omega)).mono ?_; rintro e w' ⟨rfl, rfl⟩)
              go_quiet (fail)
              go_wp2
              have hb5 := below_draws wr.heap.size wr nq
              go_roundw
              case rel => exact ⟨p, by omega, by go_num, HGO, below_go BQ.out hb5 BQ.out.size⟩
              case measure => simp [intOf]
    · have hkn : k = n := by omega
      have HK := Lib.hid hkn; clear hkn
      go_wp2
      go_ret3
      exact ⟨by rw [← HK.out, HN.out]; rfl, BB.out⟩

end Go.Proofs.YtckdhnpnkgmikaaDoor
