/- The library's sort of at most eight bytes, by its text: exchanges of neighbours. -/
import Derived.Test.YtpkhddndapcpjaaIpQA
import Derived.Test.YtpkhddndapcpjaaProg
import Derived.Deep.RegionHeld3
import Derived.IntWalk
namespace Go.Proofs.Ytpkhddndapcpjaa
open Go.RowKit Go.ChangeShapes

theorem isNaN_any (x : Int) (w : World) : Calls Try.prog 104 #[.int .u8 x] w fun e w' => e = .returned (.bool false) ∧ w = w' := by
 have t : (x != x) = false := by simp
 go_enter Try.func104, Try.ntmps104
 go_wp2
 go_ret
 exact ⟨rfl, rfl⟩

theorem less_any (x y : Int) (w : World) : Calls Try.prog 91 #[.int .u8 x, .int .u8 y] w fun e w' => e = .returned (.bool (decide (x < y))) ∧ w = w' := by
 go_enter Try.func91, Try.ntmps91
 go_wp2_with (go_at_call 104; refine (isNaN_any _ _).mono ?_; rintro e w' ⟨rfl, rfl⟩)
 go_ret
 exact ⟨rfl, rfl⟩

/-- What sorting keeps. -/
def SortRel (n : Nat) (l m : List Int) : Prop := m.length = 8 ∧ (Sim n m ↔ Sim n l)

theorem wrote_reflS (lo hi : Nat) (w : World) : Wrote lo hi w w := ⟨rfl, rfl, rfl, Nat.le_refl _, fun _ _ _ => rfl⟩
theorem Wrote.trans {lo hi : Nat} {w w1 w2 : World} (h : Wrote lo hi w w1) (k : Wrote lo hi w1 w2) : Wrote lo hi w w2 :=
 ⟨k.os.trans h.os, k.tape.trans h.tape, k.output.trans h.output, Nat.le_trans h.size k.size, fun j hj hd => (k.block j (Nat.lt_of_lt_of_le hj h.size) hd).trans (h.block j hj hd)⟩
theorem Wrote.set {lo hi : Nat} {w w1 : World} (h : Wrote lo hi w w1) {p : Addr} (h1 : lo ≤ p.block) (h2 : p.block < hi) (x : Value) : Wrote lo hi w (w1.setCell p x) :=
 h.trans ⟨rfl, rfl, rfl, by simp [World.setCell], fun k _ hd => Below.heap_setCell _ _ _ _ (by omega)⟩
theorem Wrote.drawn {lo hi : Nat} {w w1 w2 : World} (h : Wrote lo hi w w1) (k : Below w1.heap.size w1 w2) : Wrote lo hi w w2 := h.trans (below_wrote k)

set_option maxHeartbeats 4000000 in
theorem insertion_any (n : Nat) (h1 : 1 ≤ n) (h8 : n ≤ 8) (g : Nat) (l : List Int) (w : World) (hrow : Row8 w g .u8 l) :
  Calls Try.prog 85 #[.slice (some ⟨g, 0, none⟩) n 8, .int .i64 0, .int .i64 n] w
   fun e w' => e = .returned (.tuple #[]) ∧ ∃ m, SortRel n l m ∧ Asc m n ∧ Row8 w' g .u8 m ∧ Wrote g (g + 1) w w' := by
 have R0 := Lib.hid hrow; clear hrow
 go_enter Try.func85, Try.ntmps85
 go_wp2
 go_loopw [6] (fun i wr => ∃ k : Nat, 1 ≤ k ∧ k ≤ n ∧ i = .int .i64 k ∧ ∃ m, SortRel n l m ∧ Asc m k ∧ Row8 wr g .u8 m ∧ Wrote g (g + 1) w wr) (fun i _ => n - (intOf i).toNat)
 case atStart => exact ⟨1, by omega, h1, rfl, l, ⟨R0.out.len, Iff.rfl⟩, fun p q hp hq => by omega, R0.out, wrote_reflS _ _ _⟩
 case round =>
  obtain ⟨k, k1, kn, rfl, m, hsr, hasc, hrow, hwr⟩ := hrel
  clear R0
  have SR := Lib.hid hsr
  have AS := Lib.hid hasc
  have RW := Lib.hid hrow
  have WR := Lib.hid hwr
  clear hsr hasc hrow hwr
  by_cases hk : k < n
  ·go_wp2
   go_loopw [7] (fun i wr => ∃ j : Nat, j ≤ k ∧ i = .int .i64 j ∧ ∃ m, SortRel n l m ∧ AscBut m (k + 1) j ∧ Row8 wr g .u8 m ∧ Wrote g (g + 1) w wr) (fun i _ => (intOf i).toNat)
   case atStart => exact ⟨k, by omega, rfl, m, SR.out, AS.out.but, RW.out, WR.out⟩
   case round =>
    obtain ⟨j, hj, rfl, m2, hsr, hasc, hrow, hwr⟩ := hrel
    clear SR AS RW WR
    have SR := Lib.hid hsr
    have AS := Lib.hid hasc
    have RW := Lib.hid hrow
    have WR := Lib.hid hwr
    clear hsr hasc hrow hwr
    have HS := Lib.hid (sim_swap_iff n m2 SR.out.1 j)
    by_cases j0 : j = 0
    ·subst j0
     go_wp2
     go_quiet (fail)
     go_wp2
     go_roundw
     case rel =>
      have hd := below_draws wr.heap.size wr nq
      exact ⟨k + 1, by omega, by omega, by go_num, m2, SR.out, AS.out.done (.inl rfl), RW.out.below hd, WR.out.drawn hd⟩
     case measure => simp [intOf]; omega
    ·obtain ⟨q, rfl⟩ : ∃ q, j = q + 1 := ⟨j - 1, by omega⟩
     have c1 := RW.out.cell (q + 1) (by omega)
     have c2 := RW.out.cell q (by omega)
     have z1 := RW.out.lt
     have b1 : (q : Int) + 1 < n := by omega
     have b2 : (q : Int) < n := by omega
     have b3 : (0 : Int) ≤ (q : Int) + 1 := by omega
     have b4 : (0 : Int) ≤ (q : Int) := by omega
     by_cases hlt : at8 m2 (q + 1) < at8 m2 q
     ·go_wp2
      have hw1 : IntKind.i64.wrap (q : Int) = q := IntWalk.i64_in _ (by omega)
      go_quiet ((go_at_call 91; exact Calls.quiet_of_same ((less_any _ _ _).mono fun _ _ h => ⟨h.1, h.2.symm⟩)))
      clear hw1
      have hb1 := below_draws wr.heap.size wr nq
      obtain ⟨wq, hwq⟩ : ∃ wq, wq = wr.drewN nq := ⟨_, rfl⟩
      rw [← hwq] at hb1 ⊢
      clear hwq c1 c2 z1
      replace RW := Lib.hid (RW.out.below hb1)
      replace WR := Lib.hid (WR.out.drawn hb1)
      clear hb1
      have c1 := RW.out.cell (q + 1) (by omega)
      have c2 := RW.out.cell q (by omega)
      have f1 := RW.out.free (q + 1) (by omega)
      have f2 := RW.out.free q (by omega)
      have z1 := RW.out.lt
      go_wp2
      have hw1 : IntKind.i64.wrap (q : Int) = q := IntWalk.i64_in _ (by omega)
      go_region
      clear hw1
      go_wp2
      go_roundw
      case rel =>
       refine ⟨q, by omega, rfl, swapL m2 (q + 1), ⟨by rw [swapL_len]; exact SR.out.1, (HS.out (by omega) (by omega) h8).trans SR.out.2⟩, AS.out.step SR.out.1 (by omega) (by omega) (by omega) hlt, ?_, ?_⟩
       ·exact ((RW.out.store (q + 1) (by omega) (at8 m2 q)).store q (by omega) (at8 m2 (q + 1))).drew
       ·exact ((WR.out.set (p := ⟨g, q + 1, none⟩) (Nat.le_refl _) (by simp) _).set (p := ⟨g, q, none⟩) (Nat.le_refl _) (by simp) _).drawn ⟨rfl, rfl, rfl, Nat.le_refl _, fun _ _ => rfl⟩
      case measure => simp [intOf]
     ·go_wp2
      have hw1 : IntKind.i64.wrap (q : Int) = q := IntWalk.i64_in _ (by omega)
      go_quiet ((go_at_call 91; exact Calls.quiet_of_same ((less_any _ _ _).mono fun _ _ h => ⟨h.1, h.2.symm⟩)))
      clear hw1
      go_wp2
      go_roundw
      case rel =>
       have hd := below_draws wr.heap.size wr nq
       exact ⟨k + 1, by omega, by omega, by go_num, m2, SR.out, AS.out.done (.inr hlt), RW.out.below hd, WR.out.drawn hd⟩
      case measure => simp [intOf]; omega
  ·have hkn : k = n := by omega
   subst hkn
   go_wp2
   go_end0
   exact ⟨rfl, m, SR.out, AS.out, RW.out, WR.out⟩

set_option maxRecDepth 100000 in
/-- How many bits a small number has: some number. -/
theorem bitsLen_any (n : Nat) (h8 : n ≤ 8) (w : World) : Calls Try.prog 79 #[.int .u64 n] w fun e w' => (∃ k : Int, e = .returned (.int .i64 k)) ∧ w = w' := by
 have : n = 0 ∨ n = 1 ∨ n = 2 ∨ n = 3 ∨ n = 4 ∨ n = 5 ∨ n = 6 ∨ n = 7 ∨ n = 8 := by omega
 rcases this with rfl | rfl | rfl | rfl | rfl | rfl | rfl | rfl | rfl
 all_goals
  go_enter Try.func79, Try.ntmps79
  go_wp2_with fail
  go_in
  go_wp2
  go_ret
  exact ⟨⟨_, rfl⟩, rfl⟩

set_option maxRecDepth 100000 in
set_option maxHeartbeats 4000000 in
theorem pdq_any (n : Nat) (h1 : 1 ≤ n) (h8 : n ≤ 8) (g : Nat) (l : List Int) (k : Int) (w : World) (hrow : Row8 w g .u8 l) :
  Calls Try.prog 78 #[.slice (some ⟨g, 0, none⟩) n 8, .int .i64 0, .int .i64 n, .int .i64 k] w
   fun e w' => e = .returned (.tuple #[]) ∧ ∃ m, SortRel n l m ∧ Asc m n ∧ Row8 w' g .u8 m ∧ Wrote g (g + 1) w w' := by
 have K := Lib.hid (insertion_any n h1 h8 g l w hrow)
 clear hrow
 go_enter Try.func78, Try.ntmps78
 have hd : decide ((n : Int) ≤ 12) = true := by simp; omega
 go_wp2
 refine wp_loop_rounds 1 ?_; rw [rounds_succ]
 go_wp2_with fail
 refine K.out.mono ?_
 rintro e w1 ⟨rfl, m, h2, h3, h4, h5⟩
 have HP := Lib.hid (⟨m, h2, h3, h4, h5⟩ : ∃ m, SortRel n l m ∧ Asc m n ∧ Row8 w1 g .u8 m ∧ Wrote g (g + 1) w w1)
 clear h2 h3 h4 h5
 go_wp2
 exact bodyPost_ret (results_none rfl _ _ _) rfl ⟨rfl, HP.out⟩

set_option maxHeartbeats 4000000 in
theorem sort_any (n : Nat) (h1 : 1 ≤ n) (h8 : n ≤ 8) (g : Nat) (l : List Int) (w : World) (hrow : Row8 w g .u8 l) :
  Calls Try.prog 64 #[.slice (some ⟨g, 0, none⟩) n 8] w
   fun e w' => e = .returned (.tuple #[]) ∧ ∃ m, SortRel n l m ∧ Asc m n ∧ Row8 w' g .u8 m ∧ Wrote g (g + 1) w w' := by
 have K := Lib.hid (fun k => pdq_any n h1 h8 g l k w hrow)
 clear hrow
 go_enter Try.func64, Try.ntmps64
 go_wp2_with fail
 refine (bitsLen_any n h8 _).mono ?_
 rintro e w' ⟨⟨k, rfl⟩, rfl⟩
 go_wp2_with fail
 refine (K.out k).mono ?_
 rintro e w1 ⟨rfl, m, h2, h3, h4, h5⟩
 have HP := Lib.hid (⟨m, h2, h3, h4, h5⟩ : ∃ m, SortRel n l m ∧ Asc m n ∧ Row8 w1 g .u8 m ∧ Wrote g (g + 1) w w1)
 clear h2 h3 h4 h5
 go_wp2
 go_end0
 exact ⟨rfl, HP.out⟩

end Go.Proofs.Ytpkhddndapcpjaa

