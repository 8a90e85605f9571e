/- What a letter puts for a generator: the model. -/
import Derived.Test.YtmlejlediflaaaaActP
import Derived.Test.YtmlejlediflaaaaSBk
import Derived.RangeFuncBox
namespace Go.Proofs.Ytmlejlediflaaaa
open Go.RowKit Go.ChangeShapes

/-- A slice of numbers that is written out. -/
theorem own_lit (w : World) (xs : List Int) (hx : xs.length ≤ maxLen) : Own w.heap.size (w.alloc (.cells (xs.map (Value.int .i64)).toArray 2)) (some ⟨w.heap.size, 0, none⟩) xs.length xs.length xs := by
  refine ⟨by simp, .inr ⟨w.heap.size, _, _, rfl, Nat.le_refl _, World.alloc_heap_new w _, Nat.le_refl _, hx, by simp, ?_⟩⟩
  exact List.take_of_length_le (by simp)

theorem imgS_small (l y : Int) (hl : -100 < l) (hl2 : l < 100) (h1 : -1000 < y) (h2 : y < 1000) : Small (imgS l y) := by
  unfold imgS
  intro z hz
  (repeat' split at hz) <;> simp at hz <;> omega

theorem imgS_len (l y : Int) : (imgS l y).length ≤ 3 ∧ 1 ≤ (imgS l y).length := by
  unfold imgS
  repeat' split
  all_goals simp

set_option maxRecDepth 100000 in
set_option maxHeartbeats 1000000 in
theorem l08Image_any (l x : Int) (w : World) (h1 : -100 < l) (h2 : l < 100) (h0 : l ≠ 0) :
    Calls Try.prog 116 #[.int .i64 l, .int .i64 x] w (MadeInts w (imgS l x).length (imgS l x)) := by
  have fin : ∀ xs : List Int, imgS l x = xs → xs.length ≤ 3 → MadeInts w (imgS l x).length (imgS l x) (.returned (.slice (some ⟨w.heap.size, 0, none⟩) xs.length xs.length)) (w.alloc (.cells (xs.map (Value.int .i64)).toArray 2)) := fun xs e h3 => by
    rw [e]
    exact ⟨_, _, rfl, own_lit w xs (by unfold maxLen; omega), below1 w _⟩
  have F := Lib.hid fin; clear fin
  have hwn : IntKind.i64.wrap (-l) = -l := IntWalk.i64_in _ (by omega)
  rcases Int.lt_or_gt_of_ne h0 with hl | hl
  · have d1 : decide (0 < l) = false := decide_eq_false (by omega)
    have n1 : ¬ 0 < l := by omega
    have hmx : max l (-l) = -l := by omega
    have hw2 : IntKind.i64.wrap (-l + 1) = -l + 1 := IntWalk.i64_in _ (by omega)
    have hw3 : IntKind.i64.wrap (-(-l + 1)) = -(-l + 1) := IntWalk.i64_in _ (by omega)
    by_cases c1 : x = -l
    · have t1 : (x == -l) = true := by simp [c1]
      have hi : imgS l x = [-l + 1] := by unfold imgS; rw [if_neg (fun h => n1 h.1), if_neg (fun h => n1 h.1), if_pos ⟨hl, c1⟩]
      have HI := Lib.hid hi; clear hi c1
      go_enter Try.func116, Try.ntmps116
      go_wp2
      go_ret
      exact F.out _ HI.out (by simp)
    · have t1 : (x == -l) = false := by simp [c1]
      by_cases c2 : x = -l + 1
      · have t2 : (x == -l + 1) = true := by simp [c2]
        have hi : imgS l x = [-(-l + 1), -l, -l + 1] := by unfold imgS; rw [if_neg (fun h => n1 h.1), if_neg (fun h => n1 h.1), if_neg (fun h => c1 h.2), if_pos ⟨hl, c2⟩]
        have HI := Lib.hid hi; clear hi c1 c2
        go_enter Try.func116, Try.ntmps116
        go_wp2
        go_ret
        exact F.out _ HI.out (by simp)
      · have t2 : (x == -l + 1) = false := by simp [c2]
        have hi : imgS l x = [x] := by unfold imgS; rw [if_neg (fun h => n1 h.1), if_neg (fun h => n1 h.1), if_neg (fun h => c1 h.2), if_neg (fun h => c2 h.2)]
        have HI := Lib.hid hi; clear hi c1 c2
        go_enter Try.func116, Try.ntmps116
        go_wp2
        go_ret
        exact F.out _ HI.out (by simp)
  · have d1 : decide (l < 0) = false := decide_eq_false (by omega)
    have n1 : ¬ l < 0 := by omega
    have hmx : max l (-l) = l := by omega
    have hw2 : IntKind.i64.wrap (l + 1) = l + 1 := IntWalk.i64_in _ (by omega)
    by_cases c1 : x = l
    · have t1 : (x == l) = true := by simp [c1]
      have hi : imgS l x = [l, l + 1, -l] := by unfold imgS; rw [if_pos ⟨hl, c1⟩]
      have HI := Lib.hid hi; clear hi c1
      go_enter Try.func116, Try.ntmps116
      go_wp2
      go_ret
      exact F.out _ HI.out (by simp)
    · have t1 : (x == l) = false := by simp [c1]
      by_cases c2 : x = l + 1
      · have t2 : (x == l + 1) = true := by simp [c2]
        have hi : imgS l x = [l] := by unfold imgS; rw [if_neg (fun h => c1 h.2), if_pos ⟨hl, c2⟩]
        have HI := Lib.hid hi; clear hi c1 c2
        go_enter Try.func116, Try.ntmps116
        go_wp2
        go_ret
        exact F.out _ HI.out (by simp)
      · have t2 : (x == l + 1) = false := by simp [c2]
        have hi : imgS l x = [x] := by unfold imgS; rw [if_neg (fun h => c1 h.2), if_neg (fun h => c2 h.2), if_neg (fun h => n1 h.1), if_neg (fun h => n1 h.1)]
        have HI := Lib.hid hi; clear hi c1 c2
        go_enter Try.func116, Try.ntmps116
        go_wp2
        go_ret
        exact F.out _ HI.out (by simp)

end Go.Proofs.Ytmlejlediflaaaa
