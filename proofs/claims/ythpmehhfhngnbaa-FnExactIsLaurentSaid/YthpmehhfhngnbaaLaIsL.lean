/- What is a polynomial: the model's exported function. -/
import Derived.Test.YthpmehhfhngnbaaLaLau
namespace Go.Proofs.Ythpmehhfhngnbaa
open Go.RowKit Go.ChangeShapes

theorem specIsLaurent_any (low : Int) (a : Option Addr) (n cap : Nat) (xs : List Int) (w : World) (hr : Reads w a n xs) (hn : n ≤ 1048576) :
  Calls Try.prog 36 #[.agg #[.int .i64 low, .slice a n cap]] w fun e w' => e = .returned (.bool (lauB low xs)) ∧ Below w.heap.size w w' := by
 have HR := Lib.hid hr; clear hr
 go_enter Try.func36, Try.ntmps36
 go_wp2_with (go_at_call 78; refine (l05Is_any _ _ _ _ xs _ (HR.out.alloc _) hn).mono ?_; rintro e w1 ⟨rfl, hb1⟩)
 go_ret
 exact ⟨rfl, (below1 w _).trans (hb1.mono (by simp))⟩

theorem specIsLaurent_t {low : Int} {a : Option Addr} {n cap : Nat} {xs : List Int} {w : World} {fb : Bool} (hr : Reads w a n xs) (_hf : Fits xs) (hn : n ≤ 1048576) (hM : lauB low xs = fb) :
  Calls Try.prog 36 #[.agg #[.int .i64 low, .slice a n cap]] w fun e w' => e = .returned (.bool fb) ∧ Below w.heap.size w w' := by
 rw [← hM]
 exact specIsLaurent_any low a n cap xs w hr hn

theorem implIsLaurent_t {low : Int} {a : Option Addr} {n cap : Nat} {xs : List Int} {w : World} {fb : Bool} (hr : Reads w a n xs) (_hf : Fits xs) (hn : n ≤ 1048576) (hM : lauB low xs = fb) :
  Calls Try.prog 38 #[.agg #[.int .i64 low, .slice a n cap]] w fun e w' => e = .returned (.bool fb) ∧ Below w.heap.size w w' := by
 rw [← hM]
 exact implIsLaurent_any low a n cap xs w hr hn

end Go.Proofs.Ythpmehhfhngnbaa

