/- The program: the letters that begin a simple braid. -/
import Derived.Test.YtpkhddndapcpjaaSmQA
namespace Go.Proofs.Ytpkhddndapcpjaa
open Go.RowKit Go.ChangeShapes

set_option maxRecDepth 100000 in
set_option maxHeartbeats 1000000 in
theorem beginsWith_any (k : Nat) (h8 : k + 1 < 8) (s : List Int) (ls : s.length = 8) (w : World) :
  Calls Try.prog 81 #[arr8 .u8 s, .int .i64 ((k : Int) + 1)] w fun e w' => e = .returned (.bool (decide (at8 s (k + 1) < at8 s k))) ∧ Below w.heap.size w w' := by
 go_enter Try.func81, Try.ntmps81
 have RA := Lib.hid (Row8.place w .u8 s 53 w.heap.size rfl ls)
 have BB := Lib.hid (below1 w (.cells #[.int .u8 (at8 s 0), .int .u8 (at8 s 1), .int .u8 (at8 s 2), .int .u8 (at8 s 3), .int .u8 (at8 s 4), .int .u8 (at8 s 5), .int .u8 (at8 s 6), .int .u8 (at8 s 7)] 53))
 obtain ⟨W, hW⟩ : ∃ W, W = (w.alloc (.cells #[.int .u8 (at8 s 0), .int .u8 (at8 s 1), .int .u8 (at8 s 2), .int .u8 (at8 s 3), .int .u8 (at8 s 4), .int .u8 (at8 s 5), .int .u8 (at8 s 6), .int .u8 (at8 s 7)] 53)) := ⟨_, rfl⟩
 have c1 := RA.out.cell k (by omega)
 have c2 := RA.out.cell (k + 1) (by omega)
 have z1 := RA.out.lt
 have hw1 : IntKind.i64.wrap (k : Int) = k := IntWalk.i64_in _ (by omega)
 have b1 : (k : Int) + 1 < 8 := by omega
 have b2 : (k : Int) < 8 := by omega
 go_wp2
 rw [← hW] at RA BB c1 c2 z1 ⊢
 clear hW
 go_quiet (fail)
 clear hw1
 go_wp2
 go_ret
 exact ⟨rfl, below_go BB.out (below_draws W.heap.size W nq) BB.out.size⟩

end Go.Proofs.Ytpkhddndapcpjaa

