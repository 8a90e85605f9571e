/- A letter with a strand doubled: the program. -/
import Derived.Test.YtmlejlediflaaaaFolI
import Derived.Test.YtmlejlediflaaaaSIm
namespace Go.Proofs.Ytmlejlediflaaaa
open Go.RowKit Go.ChangeShapes

theorem nextV_bd {x : Int} (h1 : -1000 < x) (h2 : x < 1000) : -1001 < (idx x + 1) * cnt x ∧ (idx x + 1) * cnt x < 1001 := by
  rcases idx_cases x with ⟨h, e, f⟩ | ⟨h, e, f⟩ <;> rw [e, f] <;> omega

set_option maxHeartbeats 1000000 in
theorem doubled_any (x p : Int) (w : World) (h1 : -1000 < x) (h2 : x < 1000) (h3 : 0 ≤ p) (h4 : p < 1000) {ys : List Int} (hy : doubleP p x = ys) :
    Calls Try.prog 80 #[.int .i64 x, .int .i64 p] w fun e w' => e = .returned (.slice (some ⟨w.heap.size, 0, none⟩) ys.length ys.length) ∧ w' = w.alloc (.cells (ys.map (Value.int .i64)).toArray 2) := by
  have I1 := Lib.hid (fun W => index_any x W h1 h2)
  rw [idx_cnt] at I1
  have hq0 : 0 ≤ idx x ∧ idx x < 1000 := by rcases idx_cases x with ⟨_, e, _⟩ | ⟨_, e, _⟩ <;> rw [e] <;> omega
  unfold doubleP at hy
  obtain ⟨q, hq⟩ : ∃ q, q = idx x := ⟨_, rfl⟩
  rw [← hq] at I1 hy hq0
  clear hq
  have e1 : IntKind.i64.wrap (p + 1) = p + 1 := IntWalk.i64_in _ (by omega)
  have e2 : IntKind.i64.wrap (q + 1) = q + 1 := IntWalk.i64_in _ (by omega)
  have W1 := Lib.hid (fun W => withIndex_any x (q + 1) W (by omega) (by omega))
  obtain ⟨v, hv⟩ : ∃ v, v = (q + 1) * cnt x := ⟨_, rfl⟩
  rw [← hv] at hy W1
  clear hv
  by_cases g1 : q < p
  · rw [if_pos g1] at hy
    subst hy
    go_enter Try.func80, Try.ntmps80
    go_wp2_with (first | (go_at_call 104; refine (I1.out _).mono ?_; rintro e w' ⟨rfl, rfl⟩) | (go_at_call 110; refine (W1.out _).mono ?_; rintro e w' ⟨rfl, rfl⟩))
    go_ret
    exact ⟨rfl, rfl⟩
  · rw [if_neg g1] at hy
    by_cases g2 : q = p
    · have t2 : (q == p) = true := by simp [g2]
      rw [if_pos g2] at hy
      subst hy
      have G2 := Lib.hid g2; clear g2
      go_enter Try.func80, Try.ntmps80
      go_wp2_with (first | (go_at_call 104; refine (I1.out _).mono ?_; rintro e w' ⟨rfl, rfl⟩) | (go_at_call 110; refine (W1.out _).mono ?_; rintro e w' ⟨rfl, rfl⟩))
      go_ret
      exact ⟨rfl, rfl⟩
    · have t2 : (q == p) = false := by simp [g2]
      rw [if_neg g2] at hy
      by_cases g3 : q = p + 1
      · have t3 : (q == p + 1) = true := by simp [g3]
        rw [if_pos g3] at hy
        subst hy
        have G2 := Lib.hid g2; have G3 := Lib.hid g3; clear g2 g3
        go_enter Try.func80, Try.ntmps80
        go_wp2_with (first | (go_at_call 104; refine (I1.out _).mono ?_; rintro e w' ⟨rfl, rfl⟩) | (go_at_call 110; refine (W1.out _).mono ?_; rintro e w' ⟨rfl, rfl⟩))
        go_ret
        exact ⟨rfl, rfl⟩
      · have t3 : (q == p + 1) = false := by simp [g3]
        rw [if_neg g3] at hy
        subst hy
        have G2 := Lib.hid g2; have G3 := Lib.hid g3; clear g2 g3
        go_enter Try.func80, Try.ntmps80
        go_wp2_with (first | (go_at_call 104; refine (I1.out _).mono ?_; rintro e w' ⟨rfl, rfl⟩) | (go_at_call 110; refine (W1.out _).mono ?_; rintro e w' ⟨rfl, rfl⟩))
        go_ret
        exact ⟨rfl, rfl⟩

end Go.Proofs.Ytmlejlediflaaaa
