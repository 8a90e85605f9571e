/- The walk of the law of IsShort. -/
import Derived.Test.YtinflgcpkeomlaaLawA
import Derived.Test.YtinflgcpkeomlaaEShort
import Derived.Deep.RegionHeld3
namespace Go.Proofs.Ytinflgcpkeomlaa
open Go.RowKit Go.ChangeShapes

set_option maxRecDepth 100000 in
set_option maxHeartbeats 1000000 in
theorem fnExactIsShort_walk {n : Int} {a b : List Int} {w : World} (la : a.length = 8) (ya : Bytes8 a) (lb : b.length = 8) (yb : Bytes8 b) (_hn : (Lit.int .i64 n).wf = true) :
    Calls Try.prog 9 #[arr8 .u8 a, arr8 .u8 b, .int .i64 n] w fun e w' => e = .returned (.bool true) ∧ Below w.heap.size w w' := by
  obtain ⟨r, c, hM⟩ : ∃ r c, mIsShort n a b = (r, c) := ⟨_, _, rfl⟩
  have HM := Lib.hid hM
  clear hM
  have LA := Lib.hid la
  have YA := Lib.hid ya
  have LB := Lib.hid lb
  have YB := Lib.hid yb
  clear ya yb
  go_enter Try.func9, Try.ntmps9
  have RA := Lib.hid ((Row8.place w .u8 a 38 w.heap.size rfl la).alloc (.cells #[.int .u8 (at8 b 0), .int .u8 (at8 b 1), .int .u8 (at8 b 2), .int .u8 (at8 b 3), .int .u8 (at8 b 4), .int .u8 (at8 b 5), .int .u8 (at8 b 6), .int .u8 (at8 b 7)] 38))
  have RB := Lib.hid (Row8.place (w.alloc (.cells #[.int .u8 (at8 a 0), .int .u8 (at8 a 1), .int .u8 (at8 a 2), .int .u8 (at8 a 3), .int .u8 (at8 a 4), .int .u8 (at8 a 5), .int .u8 (at8 a 6), .int .u8 (at8 a 7)] 38)) .u8 b 38 (w.heap.size + 1) (by simp) lb)
  have BB := Lib.hid (below2 w (.cells #[.int .u8 (at8 a 0), .int .u8 (at8 a 1), .int .u8 (at8 a 2), .int .u8 (at8 a 3), .int .u8 (at8 a 4), .int .u8 (at8 a 5), .int .u8 (at8 a 6), .int .u8 (at8 a 7)] 38) (.cells #[.int .u8 (at8 b 0), .int .u8 (at8 b 1), .int .u8 (at8 b 2), .int .u8 (at8 b 3), .int .u8 (at8 b 4), .int .u8 (at8 b 5), .int .u8 (at8 b 6), .int .u8 (at8 b 7)] 38))
  clear la lb
  go_wp2
  have zb := BB.out.size
  go_region_held3 (fun w' => (w'.cell? ⟨w.heap.size, 0, none⟩ = some (.int .u8 (at8 a 0)) ∧ w'.cell? ⟨w.heap.size, 1, none⟩ = some (.int .u8 (at8 a 1)) ∧ w'.cell? ⟨w.heap.size, 2, none⟩ = some (.int .u8 (at8 a 2)) ∧ w'.cell? ⟨w.heap.size, 3, none⟩ = some (.int .u8 (at8 a 3)) ∧ w'.cell? ⟨w.heap.size, 4, none⟩ = some (.int .u8 (at8 a 4)) ∧ w'.cell? ⟨w.heap.size, 5, none⟩ = some (.int .u8 (at8 a 5)) ∧ w'.cell? ⟨w.heap.size, 6, none⟩ = some (.int .u8 (at8 a 6)) ∧ w'.cell? ⟨w.heap.size, 7, none⟩ = some (.int .u8 (at8 a 7))) ∧ (w'.cell? ⟨w.heap.size + 1, 0, none⟩ = some (.int .u8 (at8 b 0)) ∧ w'.cell? ⟨w.heap.size + 1, 1, none⟩ = some (.int .u8 (at8 b 1)) ∧ w'.cell? ⟨w.heap.size + 1, 2, none⟩ = some (.int .u8 (at8 b 2)) ∧ w'.cell? ⟨w.heap.size + 1, 3, none⟩ = some (.int .u8 (at8 b 3)) ∧ w'.cell? ⟨w.heap.size + 1, 4, none⟩ = some (.int .u8 (at8 b 4)) ∧ w'.cell? ⟨w.heap.size + 1, 5, none⟩ = some (.int .u8 (at8 b 5)) ∧ w'.cell? ⟨w.heap.size + 1, 6, none⟩ = some (.int .u8 (at8 b 6)) ∧ w'.cell? ⟨w.heap.size + 1, 7, none⟩ = some (.int .u8 (at8 b 7)))) (first | with_reducible exact ⟨(RA.out.drew).flat, (RB.out.drew).flat⟩ | with_reducible exact ⟨(RA.out.drew.below h1a).flat, (RB.out.drew.below h1a).flat⟩ | with_reducible exact ⟨((RA.out.drew.below h1a).below h1b).flat, ((RB.out.drew.below h1a).below h1b).flat⟩ | with_reducible exact ⟨(((RA.out.drew.below h1a).below h1b).below h1c).flat, (((RB.out.drew.below h1a).below h1b).below h1c).flat⟩)
    (first
      | (go_at_call_of 27 (at8 a 0); refine (toSimple_any a LA.out _).mono ?_; rintro e w1a ⟨rfl, h1a⟩)
      | (go_at_call_of 27 (at8 b 0); refine (toSimple_any b LB.out _).mono ?_; rintro e w1b ⟨rfl, h1b⟩)
      | (go_at_call 36; refine (specIsShort_any n a LA.out YA.out b LB.out YB.out r c HM.out _).mono ?_; rintro e w1c ⟨rfl, h1c⟩))
  have B3 := Lib.hid (below_go (below_go (below_go BB.out.drew h1a zb) h1b (Nat.le_trans zb h1a.size)) h1c (Nat.le_trans (Nat.le_trans zb h1a.size) h1b.size))
  clear BB
  have BB := B3
  clear B3 zb
  replace RA := Lib.hid (((RA.out.drew.below h1a).below h1b).below h1c)
  replace RB := Lib.hid (((RB.out.drew.below h1a).below h1b).below h1c)
  clear h1a h1b h1c
  go_wp2
  have zb := BB.out.size
  go_region_held3 (fun w' => (w'.cell? ⟨w.heap.size, 0, none⟩ = some (.int .u8 (at8 a 0)) ∧ w'.cell? ⟨w.heap.size, 1, none⟩ = some (.int .u8 (at8 a 1)) ∧ w'.cell? ⟨w.heap.size, 2, none⟩ = some (.int .u8 (at8 a 2)) ∧ w'.cell? ⟨w.heap.size, 3, none⟩ = some (.int .u8 (at8 a 3)) ∧ w'.cell? ⟨w.heap.size, 4, none⟩ = some (.int .u8 (at8 a 4)) ∧ w'.cell? ⟨w.heap.size, 5, none⟩ = some (.int .u8 (at8 a 5)) ∧ w'.cell? ⟨w.heap.size, 6, none⟩ = some (.int .u8 (at8 a 6)) ∧ w'.cell? ⟨w.heap.size, 7, none⟩ = some (.int .u8 (at8 a 7))) ∧ (w'.cell? ⟨w.heap.size + 1, 0, none⟩ = some (.int .u8 (at8 b 0)) ∧ w'.cell? ⟨w.heap.size + 1, 1, none⟩ = some (.int .u8 (at8 b 1)) ∧ w'.cell? ⟨w.heap.size + 1, 2, none⟩ = some (.int .u8 (at8 b 2)) ∧ w'.cell? ⟨w.heap.size + 1, 3, none⟩ = some (.int .u8 (at8 b 3)) ∧ w'.cell? ⟨w.heap.size + 1, 4, none⟩ = some (.int .u8 (at8 b 4)) ∧ w'.cell? ⟨w.heap.size + 1, 5, none⟩ = some (.int .u8 (at8 b 5)) ∧ w'.cell? ⟨w.heap.size + 1, 6, none⟩ = some (.int .u8 (at8 b 6)) ∧ w'.cell? ⟨w.heap.size + 1, 7, none⟩ = some (.int .u8 (at8 b 7)))) (first | with_reducible exact ⟨(RA.out.drew).flat, (RB.out.drew).flat⟩ | with_reducible exact ⟨(RA.out.drew.below h2a).flat, (RB.out.drew.below h2a).flat⟩ | with_reducible exact ⟨((RA.out.drew.below h2a).below h2b).flat, ((RB.out.drew.below h2a).below h2b).flat⟩ | with_reducible exact ⟨(((RA.out.drew.below h2a).below h2b).below h2c).flat, (((RB.out.drew.below h2a).below h2b).below h2c).flat⟩)
    (first
      | (go_at_call_of 27 (at8 a 0); refine (toSimple_any a LA.out _).mono ?_; rintro e w2a ⟨rfl, h2a⟩)
      | (go_at_call_of 27 (at8 b 0); refine (toSimple_any b LB.out _).mono ?_; rintro e w2b ⟨rfl, h2b⟩)
      | (go_at_call 37; refine (implIsShort_any n a LA.out YA.out b LB.out YB.out r c HM.out _).mono ?_; rintro e w2c ⟨rfl, h2c⟩))
  have B3 := Lib.hid (below_go (below_go (below_go BB.out.drew h2a zb) h2b (Nat.le_trans zb h2a.size)) h2c (Nat.le_trans (Nat.le_trans zb h2a.size) h2b.size))
  clear BB
  have BB := B3
  clear B3 zb
  replace RA := Lib.hid (((RA.out.drew.below h2a).below h2b).below h2c)
  replace RB := Lib.hid (((RB.out.drew.below h2a).below h2b).below h2c)
  clear h2a h2b h2c
  have t1 : (c != c) = false := by simp
  have t2 : (r != r) = false := by simp
  go_wp2
  go_ret
  exact ⟨rfl, BB.out⟩

end Go.Proofs.Ytinflgcpkeomlaa
