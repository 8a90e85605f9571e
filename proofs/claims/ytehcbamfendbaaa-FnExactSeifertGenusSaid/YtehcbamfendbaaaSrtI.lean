/- The library's sort of at most eight numbers, by its text: exchanges of neighbours. -/
import Derived.Test.YtehcbamfendbaaaSort
import Derived.Test.YtehcbamfendbaaaSrtP
namespace Go.Proofs.Ytehcbamfendbaaa
open Go.RowKit Go.ChangeShapes

theorem isNaNI_any (x : Int) (w : World) : Calls Try.prog 150 #[.int .i64 x] w fun e w' => e = .returned (.bool false) ∧ w = w' := by
  have t : (x != x) = false := by simp
  go_enter Try.func150, Try.ntmps150
  go_wp2
  go_ret
  exact ⟨rfl, rfl⟩

theorem lessI_any (x y : Int) (w : World) : Calls Try.prog 129 #[.int .i64 x, .int .i64 y] w fun e w' => e = .returned (.bool (decide (x < y))) ∧ w = w' := by
  go_enter Try.func129, Try.ntmps129
  go_wp2_with (go_at_call 150; refine (isNaNI_any _ _).mono ?_; rintro e w' ⟨rfl, rfl⟩)
  go_ret
  exact ⟨rfl, rfl⟩

set_option maxHeartbeats 4000000 in
theorem insertionI_any (n : Nat) (h1 : 1 ≤ n) (h8 : n ≤ 8) (B g cap : Nat) (l : List Int) (w : World) (hrow : Own B w (some ⟨g, 0, none⟩) n cap l) :
    Calls Try.prog 123 #[.slice (some ⟨g, 0, none⟩) n cap, .int .i64 0, .int .i64 n] w
      fun e w' => e = .returned (.tuple #[]) ∧ ∃ m, m.Perm l ∧ Asc m n ∧ Own B w' (some ⟨g, 0, none⟩) n cap m ∧ Wrote g (g + 1) w w' := by
  have R0 := Lib.hid hrow; clear hrow
  go_enter Try.func123, Try.ntmps123
  go_wp2
  go_loopw [6] (fun i wr => ∃ k : Nat, 1 ≤ k ∧ k ≤ n ∧ i = .int .i64 k ∧ ∃ m, m.Perm l ∧ Asc m k ∧ Own B wr (some ⟨g, 0, none⟩) n cap m ∧ Wrote g (g + 1) w wr) (fun i _ => n - (intOf i).toNat)
  case atStart => exact ⟨1, by omega, h1, rfl, l, List.Perm.refl _, fun p q hp hq => by omega, R0.out, wrote_reflS _ _ _⟩
  case round =>
    obtain ⟨k, k1, kn, rfl, m, hsr, hasc, hrow, hwr⟩ := hrel
    clear R0
    have SR := Lib.hid hsr
    have AS := Lib.hid hasc
    have RW := Lib.hid hrow
    have WR := Lib.hid hwr
    clear hsr hasc hrow hwr
    by_cases hk : k < n
    · go_wp2
      go_loopw [7] (fun i wr => ∃ j : Nat, j ≤ k ∧ i = .int .i64 j ∧ ∃ m, m.Perm l ∧ AscBut m (k + 1) j ∧ Own B wr (some ⟨g, 0, none⟩) n cap m ∧ Wrote g (g + 1) w wr) (fun i _ => (intOf i).toNat)
      case atStart => exact ⟨k, by omega, rfl, m, SR.out, AS.out.but, RW.out, WR.out⟩
      case round =>
        obtain ⟨j, hj, rfl, m2, hsr, hasc, hrow, hwr⟩ := hrel
        clear SR AS RW WR
        have SR := Lib.hid hsr
        have AS := Lib.hid hasc
        have RW := Lib.hid hrow
        have WR := Lib.hid hwr
        clear hsr hasc hrow hwr
        have HLM := Lib.hid RW.out.len
        by_cases j0 : j = 0
        · subst j0
          go_wp2
          go_quiet (fail)
          go_wp2
          go_roundw
          case rel =>
            have hd := below_draws wr.heap.size wr nq
            exact ⟨k + 1, by omega, by omega, by go_num, m2, SR.out, AS.out.done (.inl rfl), RW.out.below hd, WR.out.drawn hd⟩
          case measure => simp [intOf]; omega
        · obtain ⟨q, rfl⟩ : ∃ q, j = q + 1 := ⟨j - 1, by omega⟩
          have c1 : _ = some (Value.int .i64 (at8 m2 (q + 1))) := RW.out.cellAt (q + 1) (by omega)
          have c2 : _ = some (Value.int .i64 (at8 m2 q)) := RW.out.cellAt q (by omega)
          have z1 := (RW.out.lo _ rfl).2
          have b1 : (q : Int) + 1 < n := by omega
          have b2 : (q : Int) < n := by omega
          have b3 : (0 : Int) ≤ (q : Int) + 1 := by omega
          have b4 : (0 : Int) ≤ (q : Int) := by omega
          by_cases hlt : at8 m2 (q + 1) < at8 m2 q
          · go_wp2
            have hw1 : IntKind.i64.wrap (q : Int) = q := IntWalk.i64_in _ (by omega)
            go_quiet ((go_at_call 129; exact Calls.quiet_of_same ((lessI_any _ _ _).mono fun _ _ h => ⟨h.1, h.2.symm⟩)))
            clear hw1
            have hb1 := below_draws wr.heap.size wr nq
            obtain ⟨wq, hwq⟩ : ∃ wq, wq = wr.drewN nq := ⟨_, rfl⟩
            rw [← hwq] at hb1 ⊢
            clear hwq c1 c2 z1
            replace RW := Lib.hid (RW.out.below hb1)
            replace WR := Lib.hid (WR.out.drawn hb1)
            clear hb1
            have c1 : _ = some (Value.int .i64 (at8 m2 (q + 1))) := RW.out.cellAt (q + 1) (by omega)
            have c2 : _ = some (Value.int .i64 (at8 m2 q)) := RW.out.cellAt q (by omega)
            have f1 := RW.out.frozenAt (q + 1)
            have f2 := RW.out.frozenAt q
            have z1 := (RW.out.lo _ rfl).2
            go_wp2
            have hw1 : IntKind.i64.wrap (q : Int) = q := IntWalk.i64_in _ (by omega)
            go_region
            clear hw1
            go_wp2
            go_roundw
            case rel =>
              refine ⟨q, by omega, rfl, swapL m2 (q + 1), (swapL_perm q m2 (by rw [HLM.out]; omega)).trans SR.out, AS.out.stepL (by rw [HLM.out]; omega) (by omega) (by omega) hlt, ?_, ?_⟩
              · exact ((RW.out.store (q + 1) (at8 m2 q)).1.store q (at8 m2 (q + 1))).1
              · exact ((WR.out.set (p := ⟨g, q + 1, none⟩) (Nat.le_refl _) (by simp) _).set (p := ⟨g, q, none⟩) (Nat.le_refl _) (by simp) _).drawn ⟨rfl, rfl, rfl, Nat.le_refl _, fun _ _ => rfl⟩
            case measure => simp [intOf]
          · go_wp2
            have hw1 : IntKind.i64.wrap (q : Int) = q := IntWalk.i64_in _ (by omega)
            go_quiet ((go_at_call 129; exact Calls.quiet_of_same ((lessI_any _ _ _).mono fun _ _ h => ⟨h.1, h.2.symm⟩)))
            clear hw1
            go_wp2
            go_roundw
            case rel =>
              have hd := below_draws wr.heap.size wr nq
              exact ⟨k + 1, by omega, by omega, by go_num, m2, SR.out, AS.out.done (.inr hlt), RW.out.below hd, WR.out.drawn hd⟩
            case measure => simp [intOf]; omega
    · have hkn : k = n := by omega
      subst hkn
      go_wp2
      go_end0
      exact ⟨rfl, m, SR.out, AS.out, RW.out, WR.out⟩

set_option maxRecDepth 100000 in
set_option maxHeartbeats 4000000 in
theorem pdqI_any (n : Nat) (h1 : 1 ≤ n) (h8 : n ≤ 8) (B g cap : Nat) (l : List Int) (k : Int) (w : World) (hrow : Own B w (some ⟨g, 0, none⟩) n cap l) :
    Calls Try.prog 100 #[.slice (some ⟨g, 0, none⟩) n cap, .int .i64 0, .int .i64 n, .int .i64 k] w
      fun e w' => e = .returned (.tuple #[]) ∧ ∃ m, m.Perm l ∧ Asc m n ∧ Own B w' (some ⟨g, 0, none⟩) n cap m ∧ Wrote g (g + 1) w w' := by
  have K := Lib.hid (insertionI_any n h1 h8 B g cap l w hrow)
  clear hrow
  go_enter Try.func100, Try.ntmps100
  have hd : decide ((n : Int) ≤ 12) = true := by simp; omega
  go_wp2
  refine wp_loop_rounds 1 ?_; rw [rounds_succ]
  go_wp2_with fail
  refine K.out.mono ?_
  rintro e w1 ⟨rfl, m, h2, h3, h4, h5⟩
  have HP := Lib.hid (⟨m, h2, h3, h4, h5⟩ : ∃ m, m.Perm l ∧ Asc m n ∧ Own B w1 (some ⟨g, 0, none⟩) n cap m ∧ Wrote g (g + 1) w w1)
  clear h2 h3 h4 h5
  go_wp2
  exact bodyPost_ret (results_none rfl _ _ _) rfl ⟨rfl, HP.out⟩

set_option maxHeartbeats 4000000 in
theorem sortI_any (n : Nat) (h1 : 1 ≤ n) (h8 : n ≤ 8) (B g cap : Nat) (l : List Int) (w : World) (hrow : Own B w (some ⟨g, 0, none⟩) n cap l) :
    Calls Try.prog 60 #[.slice (some ⟨g, 0, none⟩) n cap] w
      fun e w' => e = .returned (.tuple #[]) ∧ ∃ m, m.Perm l ∧ Asc m n ∧ Own B w' (some ⟨g, 0, none⟩) n cap m ∧ Wrote g (g + 1) w w' := by
  have K := Lib.hid (fun k => pdqI_any n h1 h8 B g cap l k w hrow)
  clear hrow
  go_enter Try.func60, Try.ntmps60
  go_wp2_with fail
  refine (bitsLen_any n h8 _).mono ?_
  rintro e w' ⟨⟨k, rfl⟩, rfl⟩
  go_wp2_with fail
  refine (K.out k).mono ?_
  rintro e w1 ⟨rfl, m, h2, h3, h4, h5⟩
  have HP := Lib.hid (⟨m, h2, h3, h4, h5⟩ : ∃ m, m.Perm l ∧ Asc m n ∧ Own B w1 (some ⟨g, 0, none⟩) n cap m ∧ Wrote g (g + 1) w w1)
  clear h2 h3 h4 h5
  go_wp2
  go_end0
  exact ⟨rfl, HP.out⟩

end Go.Proofs.Ytehcbamfendbaaa
