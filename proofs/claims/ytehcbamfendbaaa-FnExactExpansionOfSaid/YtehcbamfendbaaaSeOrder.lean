/- The program's first order of strands. -/
import Derived.Test.YtehcbamfendbaaaSeQA
import Derived.Test.YtehcbamfendbaaaSeLetters
namespace Go.Proofs.Ytehcbamfendbaaa
open Go.RowKit Go.ChangeShapes

/-- The order that has been written up to a place. -/
def upto (k : Nat) : List Int := (List.range k).map (fun (i : Nat) => (i : Int)) ++ List.replicate (8 - k) 0

theorem upto_step (k : Nat) (h : k < 8) : (upto k).set k (k : Int) = upto (k + 1) := startM_step k h

theorem upto_all : upto 8 = order8 := by decide

set_option maxHeartbeats 1000000 in
theorem firstOrder_any (w : World) : Calls Try.prog 98 #[] w fun e w' => e = .returned (arr8 .i64 order8) ∧ Below w.heap.size w w' := by
 go_enter Try.func98, Try.ntmps98
 have R0 := Lib.hid ((Row8.zeros w .i64 98 w.heap.size rfl).alloc (.cells #[.int .i64 0, .int .i64 0, .int .i64 0, .int .i64 0, .int .i64 0, .int .i64 0, .int .i64 0, .int .i64 0] 98))
 have R1 := Lib.hid (Row8.zeros (w.alloc (.cells #[.int .i64 0, .int .i64 0, .int .i64 0, .int .i64 0, .int .i64 0, .int .i64 0, .int .i64 0, .int .i64 0] 98)) .i64 98 (w.heap.size + 1) (by simp))
 have BB := Lib.hid (below2 w (.cells #[.int .i64 0, .int .i64 0, .int .i64 0, .int .i64 0, .int .i64 0, .int .i64 0, .int .i64 0, .int .i64 0] 98) (.cells #[.int .i64 0, .int .i64 0, .int .i64 0, .int .i64 0, .int .i64 0, .int .i64 0, .int .i64 0, .int .i64 0] 98))
 go_wp2
 go_loopw [3] (fun i wr => ∃ k : Nat, k ≤ 8 ∧ i = .int .i64 k ∧ Row8 wr w.heap.size .i64 [0, 0, 0, 0, 0, 0, 0, 0] ∧ Row8 wr (w.heap.size + 1) .i64 (upto k) ∧ Below w.heap.size w wr) (fun i _ => 8 - (intOf i).toNat)
 case atStart => exact ⟨0, Nat.zero_le _, rfl, R0.out, R1.out, BB.out⟩
 case round =>
  obtain ⟨k, hk, rfl, r0, r1, bb⟩ := hrel
  clear R0 R1 BB
  have R0 := Lib.hid r0
  have R1 := Lib.hid r1
  have BB := Lib.hid bb
  clear r0 r1 bb
  by_cases hlt : k < 8
  ·have f1 := R1.out.free k hlt
   have c1 := R1.out.cell k hlt
   have z1 := R1.out.lt
   go_wp2
   go_round
   case rel =>
    refine ⟨k + 1, by omega, by go_num, R0.out.setCell (by simp) _, ?_, BB.out.setCell (by simp) _⟩
    rw [← upto_step k hlt]
    exact R1.out.store k hlt k
   case measure => simp [intOf]; omega
  ·have hkn : k = 8 := by omega
   have HK := Lib.hid hkn; clear hkn
   obtain ⟨⟨c0, c1, c2, c3⟩, c4, c5, c6, c7⟩ := R1.out.all
   obtain ⟨⟨d0, d1, d2, d3⟩, d4, d5, d6, d7⟩ := R0.out.all
   obtain ⟨⟨f0, f1, f2, f3⟩, f4, f5, f6, f7⟩ := R0.out.frees
   have z1 := R0.out.lt
   go_wp2
   obtain ⟨⟨e0, e1, e2, e3⟩, e4, e5, e6, e7⟩ := (R0.out.fill (upto k) R1.out.len).all
   have hu : upto k = order8 := by rw [HK.out]; exact upto_all
   refine bodyPost_ret (v := arr8 .i64 (upto k)) (by simp [results, Try.results98, go_sem, e0, e1, e2, e3, e4, e5, e6, e7]) rfl ⟨by rw [hu], ?_⟩
   exact below_fill8 BB.out _ (Nat.le_refl _) _ _ _ _ _ _ _ _

end Go.Proofs.Ytehcbamfendbaaa

