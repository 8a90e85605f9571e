/- What letters put for numbers of free words: the program. -/
import Derived.Test.YtmlejlediflaaaaActP
namespace Go.Proofs.Ytmlejlediflaaaa
open Go.RowKit Go.ChangeShapes

theorem generators_any (l : Int) (w : World) (h1 : -100 < l) (h2 : l < 100) :
    Calls Try.prog 141 #[.int .i64 l] w fun e w' => e = .returned (.tuple #[.int .i64 (genW l), .int .i64 (genP l)]) ∧ w' = w := by
  have i1 := fun W => index_any l W (by omega) (by omega)
  have I1 := Lib.hid i1; clear i1
  by_cases h : l < 0
  · have e1 : l * cnt l = -l := by rw [cnt_neg h]; omega
    have e2 : IntKind.i64.wrap (-l + 1) = -l + 1 := IntWalk.i64_in _ (by omega)
    have E1 := Lib.hid e1; clear e1
    go_enter Try.func141, Try.ntmps141
    go_wp2_with (go_at_call 104; refine (I1.out _).mono ?_; rintro e w' ⟨rfl, rfl⟩; rw [E1.out])
    go_ret2
    simp [genW, genP, h]
  · have e1 : l * cnt l = l := by rw [cnt_pos h]; omega
    have e2 : IntKind.i64.wrap (l + 1) = l + 1 := IntWalk.i64_in _ (by omega)
    have E1 := Lib.hid e1; clear e1
    go_enter Try.func141, Try.ntmps141
    go_wp2_with (go_at_call 104; refine (I1.out _).mono ?_; rintro e w' ⟨rfl, rfl⟩; rw [E1.out])
    go_ret2
    simp [genW, genP]
    omega

theorem genW_bd (l : Int) (h1 : -100 < l) (h2 : l < 100) : -101 < genW l ∧ genW l < 101 ∧ -101 < genP l ∧ genP l < 101 := by
  unfold genW genP
  split <;> omega

set_option maxRecDepth 100000 in
set_option maxHeartbeats 1000000 in
theorem puts_any (l x : Int) (w : World) (h1 : -100 < l) (h2 : l < 100) (g1 : -1000 < x) (g2 : x < 1000) :
    Calls Try.prog 135 #[.int .i64 l, .int .i64 x] w fun e w' => e = .returned (.slice (some ⟨w.heap.size, 0, none⟩) (putsL l x).length (putsL l x).length) ∧ w' = w.alloc (.cells ((putsL l x).map (Value.int .i64)).toArray 75) := by
  have hb := genW_bd l h1 h2
  have i1 := fun W => index_any x W g1 g2
  have I1 := Lib.hid i1; clear i1
  obtain ⟨W, hW⟩ : ∃ W, W = genW l := ⟨_, rfl⟩
  obtain ⟨Q, hQ⟩ : ∃ Q, Q = genP l := ⟨_, rfl⟩
  rw [← hW, ← hQ] at hb
  obtain ⟨b1, b2, b3, b4⟩ := hb
  have p1 := fun V => withIndex_any l W V (by omega) (by omega)
  have p2 := fun V => withIndex_any x Q V (by omega) (by omega)
  have p3 := fun V => withIndex_any x W V (by omega) (by omega)
  have hc : cnt l = -1 ∨ cnt l = 1 := by unfold cnt; split <;> simp
  have p4 := fun V => inverse_any (W * cnt l) V (by rcases hc with e | e <;> rw [e] <;> omega) (by rcases hc with e | e <;> rw [e] <;> omega)
  have P1 := Lib.hid p1; have P2 := Lib.hid p2; have P3 := Lib.hid p3; have P4 := Lib.hid p4; clear p1 p2 p3 p4 hc
  have HW := Lib.hid hW; have HQ := Lib.hid hQ
  have G := Lib.hid (fun V => generators_any l V h1 h2)
  rw [← hW, ← hQ] at G
  clear hW hQ
  obtain ⟨i, hi⟩ : ∃ i, i = x * cnt x := ⟨_, rfl⟩
  rw [← hi] at I1
  have HI := Lib.hid hi; clear hi
  by_cases c1 : i = W
  · have t1 : (i == W) = true := by simp [c1]
    have hp : putsL l x = [W * cnt l, Q * cnt x, -(W * cnt l)] := by rw [putsL, ← HI.out, ← HW.out, ← HQ.out, if_pos c1]
    have HP := Lib.hid hp; clear hp c1
    rw [HP.out]
    go_enter Try.func135, Try.ntmps135
    go_wp2_with (first
      | (go_at_call 141; refine (G.out _).mono ?_; rintro e w' ⟨rfl, rfl⟩)
      | (go_at_call 104; refine (I1.out _).mono ?_; rintro e w' ⟨rfl, rfl⟩)
      | (go_at_call 140; refine (P4.out _).mono ?_; rintro e w' ⟨rfl, rfl⟩)
      | (go_at_call_of 110 (Value.int .i64 l); refine (P1.out _).mono ?_; rintro e w' ⟨rfl, rfl⟩)
      | (go_at_call_of 110 (Value.int .i64 x); refine (P2.out _).mono ?_; rintro e w' ⟨rfl, rfl⟩))
    go_ret
    exact ⟨rfl, rfl⟩
  · have t1 : (i == W) = false := by simp [c1]
    by_cases c2 : i = Q
    · have t2 : (i == Q) = true := by simp [c2]
      have hp : putsL l x = [W * cnt x] := by rw [putsL, ← HI.out, ← HW.out, ← HQ.out, if_neg c1, if_pos c2]
      have HP := Lib.hid hp; clear hp c1 c2
      rw [HP.out]
      go_enter Try.func135, Try.ntmps135
      go_wp2_with (first
        | (go_at_call 141; refine (G.out _).mono ?_; rintro e w' ⟨rfl, rfl⟩)
        | (go_at_call 104; refine (I1.out _).mono ?_; rintro e w' ⟨rfl, rfl⟩)
        | (go_at_call 110; refine (P3.out _).mono ?_; rintro e w' ⟨rfl, rfl⟩))
      go_ret
      exact ⟨rfl, rfl⟩
    · have t2 : (i == Q) = false := by simp [c2]
      have hp : putsL l x = [x] := by rw [putsL, ← HI.out, ← HW.out, ← HQ.out, if_neg c1, if_neg c2]
      have HP := Lib.hid hp; clear hp c1 c2
      rw [HP.out]
      go_enter Try.func135, Try.ntmps135
      go_wp2_with (first
        | (go_at_call 141; refine (G.out _).mono ?_; rintro e w' ⟨rfl, rfl⟩)
        | (go_at_call 104; refine (I1.out _).mono ?_; rintro e w' ⟨rfl, rfl⟩))
      go_ret
      exact ⟨rfl, rfl⟩

end Go.Proofs.Ytmlejlediflaaaa
