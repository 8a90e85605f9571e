/- The inverse of a free word: the model's answer, the program's. -/
import Derived.Test.YtoibcoaohmjfbaaFreP
import Derived.Test.YtoibcoaohmjfbaaFwI
import Derived.Test.YtoibcoaohmjfbaaSBk
import Derived.Test.YtoibcoaohmjfbaaInvd
namespace Go.Proofs.Ytoibcoaohmjfbaa
open Go.RowKit Go.ChangeShapes

/-- The inverse of a free word, and the code. -/
def mInvFree (xs : List Int) (s : Int) : List Int × Int := if isFree s xs = true then (inverse xs, 0) else ([], 1)

set_option maxHeartbeats 1000000 in
theorem specInverseFree_any {s : Int} {a : Option Addr} {n cap : Nat} {xs : List Int} {w : World} {fxs : List Int} {fc : Int} (hr : Reads w a n xs) (hn : n ≤ 1048576) (hs : (Lit.int .i64 s).wf = true) (hM : mInvFree xs s = (fxs, fc)) :
    Calls Try.prog 18 #[.slice a n cap, .int .i64 s] w (RetInts w fxs fc) := by
  have R := Lib.hid hr; clear hr
  have HS := Lib.hid hs; clear hs
  by_cases hf : isFree s xs = true
  · simp only [mInvFree, if_pos hf, Prod.mk.injEq] at hM
    obtain ⟨rfl, rfl⟩ := hM
    have HSM := Lib.hid (small_of_isFree hf)
    go_enter Try.func18, Try.ntmps18
    go_wp2_with fail
    refine (l08Is_any s a n cap xs _ R.out HS.out hn).mono ?_
    rintro e w1 ⟨rfl, hb⟩
    replace R := Lib.hid (R.out.below hb)
    have BB := Lib.hid hb; clear hb
    go_wp2_with fail
    refine (l08Back_any _ _ _ xs _ R.out HSM.out hn).mono ?_
    rintro e w2 ⟨a2, c2, rfl, ho, hb⟩
    have O := Lib.hid ho; have B2 := Lib.hid hb; clear ho hb
    go_wp2
    go_ret2
    exact ⟨a2, n, c2, rfl, hn, O.out.mono BB.out.size, below_go BB.out B2.out BB.out.size⟩
  · simp only [mInvFree, if_neg hf, Prod.mk.injEq] at hM
    obtain ⟨rfl, rfl⟩ := hM
    have hf' : isFree s xs = false := by simpa using hf
    clear hf
    go_enter Try.func18, Try.ntmps18
    go_wp2_with fail
    refine (l08Is_any s a n cap xs _ R.out HS.out hn).mono ?_
    rintro e w1 ⟨rfl, hb⟩
    have BB := Lib.hid hb; clear hb
    go_wp2
    go_ret2
    exact ⟨none, 0, 0, rfl, by omega, Own.nil _ _, BB.out⟩

set_option maxHeartbeats 1000000 in
theorem implInverseFree_any {s : Int} {a : Option Addr} {n cap : Nat} {xs : List Int} {w : World} {fxs : List Int} {fc : Int} (hr : Reads w a n xs) (hn : n ≤ 1048576) (_hs : (Lit.int .i64 s).wf = true) (hM : mInvFree xs s = (fxs, fc)) :
    Calls Try.prog 19 #[.slice a n cap, .int .i64 s] w (RetInts w fxs fc) := by
  have R := Lib.hid hr; clear hr
  by_cases hf : isFree s xs = true
  · simp only [mInvFree, if_pos hf, Prod.mk.injEq] at hM
    obtain ⟨rfl, rfl⟩ := hM
    have HSM := Lib.hid (small_of_isFree hf)
    go_enter Try.func19, Try.ntmps19
    go_wp2_with fail
    refine (isFreeWord_any s a n cap xs _ R.out hn).mono ?_
    rintro e w1 ⟨rfl, hb⟩
    replace R := Lib.hid (R.out.below hb)
    have BB := Lib.hid hb; clear hb
    go_wp2_with fail
    refine (inverted_any 0 a n cap xs _ R.out HSM.out hn).mono ?_
    rintro e w2 ⟨a2, n2, c2, rfl, ho, hb⟩
    have hl : n2 ≤ 1048576 := by have := ho.len; have := R.out.len; simp [inverse] at *; omega
    have O := Lib.hid ho; have B2 := Lib.hid hb; clear ho hb
    have hfld : ∀ (W : World), Sem.run Try.prog (Instr.field 35 (.agg #[.int .i64 0, .slice a2 n2 c2]) 1) W = .ok (.slice a2 n2 c2) W := fun _ => by kernel_rfl
    go_wp2
    go_ret2
    exact ⟨a2, n2, c2, rfl, hl, O.out.mono BB.out.size, below_go BB.out B2.out BB.out.size⟩
  · simp only [mInvFree, if_neg hf, Prod.mk.injEq] at hM
    obtain ⟨rfl, rfl⟩ := hM
    have hf' : isFree s xs = false := by simpa using hf
    clear hf
    go_enter Try.func19, Try.ntmps19
    go_wp2_with fail
    refine (isFreeWord_any s a n cap xs _ R.out hn).mono ?_
    rintro e w1 ⟨rfl, hb⟩
    have BB := Lib.hid hb; clear hb
    go_wp2
    go_ret2
    exact ⟨none, 0, 0, rfl, by omega, Own.nil _ _, BB.out⟩

end Go.Proofs.Ytoibcoaohmjfbaa
