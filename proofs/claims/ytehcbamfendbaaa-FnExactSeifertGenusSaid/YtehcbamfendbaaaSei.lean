/- SeifertNumber: the model and the program. -/
import Derived.Test.YtehcbamfendbaaaIs2
import Derived.Test.YtehcbamfendbaaaQA
namespace Go.Proofs.Ytehcbamfendbaaa
open Go.RowKit Go.ChangeShapes

/-- Strands less letters, and the code. -/
def mSeif (s : Int) (xs : List Int) : Int × Int := if isBraid s xs = true then (s - xs.length, 0) else (0, 1)

set_option maxRecDepth 100000 in
set_option maxHeartbeats 1000000 in
theorem specSeifertNumber_any {s : Int} {a : Option Addr} {n cap : Nat} {xs : List Int} {w : World} {fv fc : Int} (hr : Reads w a n xs) (hf : Fits xs) (hn : n ≤ 1048576) (hM : mSeif s xs = (fv, fc)) :
    Calls Try.prog 27 #[.agg #[.int .i64 s, .slice a n cap]] w (fun e w' => e = .returned (.tuple #[.int .i64 fv, .int .i64 fc]) ∧ Below w.heap.size w w') := by
  have R := Lib.hid hr; clear hr
  have HF := Lib.hid hf; clear hf
  have HL := Lib.hid R.out.len
  have A := Lib.hid (At2.new w (.int .i64 s) (.slice a n cap) 29)
  have BB := Lib.hid (below1 w (.cells #[.int .i64 s, .slice a n cap] 29))
  have step : ∀ c : Bool, isBraid s xs = c → ∀ w1, Below w.heap.size w w1 → True := fun _ _ _ _ => trivial
  clear step
  cases hbr : isBraid s xs with
  | true =>
    have g1 := lo_of_isBraid _ _ hbr
    have g2 := hi_of_isBraid _ _ hbr
    have g3 := len_of_isBraid _ _ hbr
    simp only [mSeif, if_pos hbr, Prod.mk.injEq] at hM
    obtain ⟨rfl, rfl⟩ := hM
    have hnn : n ≤ 200 := by have := HL.out; omega
    have hws : IntKind.i64.wrap (s - (n : Int)) = s - (n : Int) := IntWalk.i64_in _ (by omega)
    have HB := Lib.hid hbr; clear g3
    go_enter Try.func27, Try.ntmps27
    obtain ⟨qA1, qA2, qA3, qA4, qA5⟩ := A.out
    go_wp2_with fail
    refine (l01Is_any s a n cap xs _ (R.out.alloc _) HF.out hn).mono ?_
    rintro e w1 ⟨rfl, hb⟩
    rw [HB.out]
    clear qA1 qA2 qA3 qA4 qA5
    replace A := Lib.hid (A.out.below hb)
    replace BB := Lib.hid (below_go BB.out hb BB.out.size)
    clear hb
    obtain ⟨qA1, qA2, qA3, qA4, qA5⟩ := A.out
    go_wp2
    go_ret2
    have hl := HL.out
    exact ⟨by rw [hl]; rfl, BB.out⟩
  | false =>
    simp only [mSeif, hbr, Bool.false_eq_true, if_false, Prod.mk.injEq] at hM
    obtain ⟨rfl, rfl⟩ := hM
    have HB := Lib.hid hbr
    go_enter Try.func27, Try.ntmps27
    obtain ⟨qA1, qA2, qA3, qA4, qA5⟩ := A.out
    go_wp2_with fail
    refine (l01Is_any s a n cap xs _ (R.out.alloc _) HF.out hn).mono ?_
    rintro e w1 ⟨rfl, hb⟩
    rw [HB.out]
    clear qA1 qA2 qA3 qA4 qA5
    replace BB := Lib.hid (below_go BB.out hb BB.out.size)
    clear hb
    go_wp2
    go_ret2
    exact ⟨rfl, BB.out⟩

set_option maxRecDepth 100000 in
set_option maxHeartbeats 1000000 in
theorem implSeifertNumber_any {s : Int} {a : Option Addr} {n cap : Nat} {xs : List Int} {w : World} {fv fc : Int} (hr : Reads w a n xs) (hf : Fits xs) (hn : n ≤ 1048576) (hM : mSeif s xs = (fv, fc)) :
    Calls Try.prog 28 #[.agg #[.int .i64 s, .slice a n cap]] w (fun e w' => e = .returned (.tuple #[.int .i64 fv, .int .i64 fc]) ∧ Below w.heap.size w w') := by
  have R := Lib.hid hr; clear hr
  have HF := Lib.hid hf; clear hf
  have HL := Lib.hid R.out.len
  have A := Lib.hid (At2.new w (.int .i64 s) (.slice a n cap) 29)
  have BB := Lib.hid (below1 w (.cells #[.int .i64 s, .slice a n cap] 29))
  have step : ∀ c : Bool, isBraid s xs = c → ∀ w1, Below w.heap.size w w1 → True := fun _ _ _ _ => trivial
  clear step
  cases hbr : isBraid s xs with
  | true =>
    have g1 := lo_of_isBraid _ _ hbr
    have g2 := hi_of_isBraid _ _ hbr
    have g3 := len_of_isBraid _ _ hbr
    simp only [mSeif, if_pos hbr, Prod.mk.injEq] at hM
    obtain ⟨rfl, rfl⟩ := hM
    have hnn : n ≤ 200 := by have := HL.out; omega
    have hws : IntKind.i64.wrap (s - (n : Int)) = s - (n : Int) := IntWalk.i64_in _ (by omega)
    have HB := Lib.hid hbr; clear g3
    go_enter Try.func28, Try.ntmps28
    obtain ⟨qA1, qA2, qA3, qA4, qA5⟩ := A.out
    go_wp2_with fail
    refine (implIsBraid_any s a n cap xs _ (R.out.alloc _) hn).mono ?_
    rintro e w1 ⟨rfl, hb⟩
    rw [HB.out]
    clear qA1 qA2 qA3 qA4 qA5
    replace A := Lib.hid (A.out.below hb)
    replace BB := Lib.hid (below_go BB.out hb BB.out.size)
    clear hb
    obtain ⟨qA1, qA2, qA3, qA4, qA5⟩ := A.out
    go_wp2
    go_ret2
    have hl := HL.out
    exact ⟨by rw [hl]; rfl, BB.out⟩
  | false =>
    simp only [mSeif, hbr, Bool.false_eq_true, if_false, Prod.mk.injEq] at hM
    obtain ⟨rfl, rfl⟩ := hM
    have HB := Lib.hid hbr
    go_enter Try.func28, Try.ntmps28
    obtain ⟨qA1, qA2, qA3, qA4, qA5⟩ := A.out
    go_wp2_with fail
    refine (implIsBraid_any s a n cap xs _ (R.out.alloc _) hn).mono ?_
    rintro e w1 ⟨rfl, hb⟩
    rw [HB.out]
    clear qA1 qA2 qA3 qA4 qA5
    replace BB := Lib.hid (below_go BB.out hb BB.out.size)
    clear hb
    go_wp2
    go_ret2
    exact ⟨rfl, BB.out⟩

end Go.Proofs.Ytehcbamfendbaaa
