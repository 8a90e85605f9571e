/- The program's crossing of two places of an order. -/
import Derived.Test.YtehcbamfendbaaaOrder
import Derived.Deep.RegionHeld3
namespace Go.Proofs.Ytehcbamfendbaaa
open Go.RowKit Go.ChangeShapes

set_option maxHeartbeats 4000000 in
theorem crossed_at (a b c d e f p q x : Int) (m : Nat) (hm : m = 0 ∨ m = 1 ∨ m = 2 ∨ m = 3 ∨ m = 4 ∨ m = 5 ∨ m = 6) (hx : x * cnt x = m + 1) (h1 : -1000 < x) (h2 : x < 1000) (w : World) :
    Calls Try.prog 99 #[arr8 .i64 [a, b, c, d, e, f, p, q], .int .i64 x] w fun en w' =>
      en = .returned (.tuple #[arr8 .i64 (swapL [a, b, c, d, e, f, p, q] (m + 1)), .int .i64 (at8 [a, b, c, d, e, f, p, q] (m + 1)), .int .i64 (at8 [a, b, c, d, e, f, p, q] m)]) ∧ Below w.heap.size w w' := by
  have C1 := fun W => index_any x W h1 h2
  rw [hx] at C1
  have K1 := Lib.hid C1
  clear C1 hx
  rcases hm with rfl | rfl | rfl | rfl | rfl | rfl | rfl
  all_goals
    go_enter Try.func99, Try.ntmps99
    go_wp2_with (go_at_call 111; refine (K1.out _).mono ?_; rintro e w' ⟨rfl, rfl⟩)
    go_region
    go_wp2
    go_region
    go_wp2
    refine bodyPost_ret (v := _) (by simp [results, Try.results99, go_sem]; exact ⟨rfl, rfl, rfl, rfl, rfl, rfl, rfl, rfl⟩) rfl ⟨rfl, ?_⟩
    exact (below2 w _ _).drew.drew

theorem crossed_any (l : List Int) (hl : l.length = 8) (x : Int) (m : Nat) (hm : 1 ≤ m) (h8 : m < 8) (hx : x * cnt x = m) (h1 : -1000 < x) (h2 : x < 1000) (w : World) :
    Calls Try.prog 99 #[arr8 .i64 l, .int .i64 x] w fun en w' =>
      en = .returned (.tuple #[arr8 .i64 (swapL l m), .int .i64 (at8 l m), .int .i64 (at8 l (m - 1))]) ∧ Below w.heap.size w w' := by
  match l, hl with
  | [a, b, c, d, e, f, p, q], _ =>
    have h := crossed_at a b c d e f p q x (m - 1) (by omega) (by rw [hx]; omega) h1 h2 w
    rw [show m - 1 + 1 = m by omega] at h
    exact h

end Go.Proofs.Ytehcbamfendbaaa
