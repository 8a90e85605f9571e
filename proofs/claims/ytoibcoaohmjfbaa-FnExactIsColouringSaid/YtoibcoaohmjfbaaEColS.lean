/- Colours: the exported functions, the model's and the program's. -/
import Derived.Test.YtoibcoaohmjfbaaColD
import Derived.Test.YtoibcoaohmjfbaaColI
import Derived.Test.YtoibcoaohmjfbaaSameI
namespace Go.Proofs.Ytoibcoaohmjfbaa
open Go.RowKit Go.ChangeShapes

theorem lets_of {s : Int} {ls cs : List Int} (h : isBraid s ls = true) (hc : (cs.length : Int) = s) (n : Nat) (hn : cs.length = n) : Lets ls n := by
  obtain ⟨h1, h2, _, h4⟩ := (isBraid_iff s ls).1 h
  intro l hl
  have := h4 l hl
  omega

set_option maxRecDepth 100000 in
set_option maxHeartbeats 1000000 in
theorem specColourStep_any {s : Int} {a : Option Addr} {n cap : Nat} {ls : List Int} {p : Int} {b : Option Addr} {m capb : Nat} {cs : List Int} {w : World} {fxs : List Int} {fc : Int} (hr : Reads w a n ls) (hf : Fits ls) (hn : n ≤ 1048576) (_hp : (Lit.int .i64 p).wf = true) (hr2 : Reads w b m cs) (hm : m ≤ 1048576) (hM : mColStep s ls p cs = (fxs, fc)) :
    Calls Try.prog 39 #[.agg #[.int .i64 s, .slice a n cap], .int .i64 p, .slice b m capb] w (RetInts w fxs fc) := by
  have R := Lib.hid (hr.alloc (.cells #[.int .i64 s, .slice a n cap] 35)); clear hr
  have T := Lib.hid (hr2.alloc (.cells #[.int .i64 s, .slice a n cap] 35)); clear hr2
  have HF := Lib.hid hf; clear hf
  have A := Lib.hid (At2.new w (.int .i64 s) (.slice a n cap) 35)
  have BB := Lib.hid (below1 w (.cells #[.int .i64 s, .slice a n cap] 35))
  obtain ⟨qA1, qA2, qA3, qA4, qA5⟩ := A.out
  obtain ⟨cd, hcd⟩ : ∃ c, c = mColCode s ls p cs := ⟨_, rfl⟩
  have HCD := Lib.hid hcd
  by_cases h0 : cd = 0
  · obtain ⟨g1, g2, g3, g4⟩ := mColCode_ok (by rw [← hcd]; exact h0)
    obtain ⟨b1, b2⟩ := isPrm_bd g2
    obtain ⟨_, i2, _, _⟩ := (isBraid_iff s ls).1 g1
    have hlen := T.out.len
    have hlets := lets_of g1 g3 m hlen
    rw [mColStep, if_pos (by rw [← hcd]; exact h0)] at hM
    obtain ⟨rfl, rfl⟩ := Prod.mk.injEq .. ▸ hM
    have hm8 : m ≤ 8 := by omega
    have HL := Lib.hid hlets; have HC := Lib.hid g4
    have t1 : (cd != 0) = false := by simp [h0]
    clear hcd hM g1 g2 g3 g4 hlets hlen i2 h0
    go_enter Try.func39, Try.ntmps39
    go_wp2_with fail
    refine (l08Code_any s a n cap ls p b m capb cs _ R.out HF.out hn T.out hm).mono ?_
    rintro e w1 ⟨rfl, hb⟩
    rw [← HCD.out]
    clear qA1 qA2 qA3 qA4 qA5
    replace R := Lib.hid (R.out.below hb); replace T := Lib.hid (T.out.below hb); replace A := Lib.hid (A.out.below hb)
    replace BB := Lib.hid (below_go BB.out hb (by simp)); clear hb
    obtain ⟨qA1, qA2, qA3, qA4, qA5⟩ := A.out
    go_wp2_with fail
    refine (l08Step_any a n cap ls p b m capb cs _ R.out hn HL.out T.out (by omega) (by omega) b2 HC.out).mono ?_
    rintro e w2 ⟨a2, c2, rfl, ho, hb⟩
    clear qA1 qA2 qA3 qA4 qA5
    have z1 := BB.out.size
    have O := Lib.hid ho; replace BB := Lib.hid (below_go BB.out hb z1); clear ho hb
    go_wp2
    go_ret2
    exact ⟨a2, m, c2, rfl, hm, O.out.mono z1, BB.out⟩
  · rw [mColStep, if_neg (by rw [← hcd]; exact h0), ← hcd] at hM
    obtain ⟨rfl, rfl⟩ := Prod.mk.injEq .. ▸ hM
    have t1 : (cd != 0) = true := by simp [h0]
    clear hcd hM h0
    go_enter Try.func39, Try.ntmps39
    go_wp2_with fail
    refine (l08Code_any s a n cap ls p b m capb cs _ R.out HF.out hn T.out hm).mono ?_
    rintro e w1 ⟨rfl, hb⟩
    rw [← HCD.out]
    clear qA1 qA2 qA3 qA4 qA5
    replace BB := Lib.hid (below_go BB.out hb (by simp)); clear hb
    go_wp2
    go_ret2
    exact ⟨none, 0, 0, rfl, by omega, Own.nil _ _, BB.out⟩

set_option maxRecDepth 100000 in
set_option maxHeartbeats 1000000 in
theorem specIsColouring_any {s : Int} {a : Option Addr} {n cap : Nat} {ls : List Int} {p : Int} {b : Option Addr} {m capb : Nat} {cs : List Int} {w : World} {fb : Bool} {fc : Int} (hr : Reads w a n ls) (hf : Fits ls) (hn : n ≤ 1048576) (_hp : (Lit.int .i64 p).wf = true) (hr2 : Reads w b m cs) (hm : m ≤ 1048576) (hM : mIsCol s ls p cs = (fb, fc)) :
    Calls Try.prog 41 #[.agg #[.int .i64 s, .slice a n cap], .int .i64 p, .slice b m capb] w fun e w' => e = .returned (.tuple #[.bool fb, .int .i64 fc]) ∧ Below w.heap.size w w' := by
  have R := Lib.hid (hr.alloc (.cells #[.int .i64 s, .slice a n cap] 35)); clear hr
  have T := Lib.hid (hr2.alloc (.cells #[.int .i64 s, .slice a n cap] 35)); clear hr2
  have HF := Lib.hid hf; clear hf
  have A := Lib.hid (At2.new w (.int .i64 s) (.slice a n cap) 35)
  have BB := Lib.hid (below1 w (.cells #[.int .i64 s, .slice a n cap] 35))
  obtain ⟨qA1, qA2, qA3, qA4, qA5⟩ := A.out
  obtain ⟨cd, hcd⟩ : ∃ c, c = mColCode s ls p cs := ⟨_, rfl⟩
  have HCD := Lib.hid hcd
  by_cases h0 : cd = 0
  · obtain ⟨g1, g2, g3, g4⟩ := mColCode_ok (by rw [← hcd]; exact h0)
    obtain ⟨b1, b2⟩ := isPrm_bd g2
    obtain ⟨_, i2, _, _⟩ := (isBraid_iff s ls).1 g1
    have hlen := T.out.len
    have hlets := lets_of g1 g3 m hlen
    rw [mIsCol, if_pos (by rw [← hcd]; exact h0)] at hM
    obtain ⟨rfl, rfl⟩ := Prod.mk.injEq .. ▸ hM
    have hm8 : m ≤ 8 := by omega
    have HL := Lib.hid hlets; have HC := Lib.hid g4
    have t1 : (cd != 0) = false := by simp [h0]
    clear hcd hM g1 g2 g3 g4 hlets hlen i2 h0
    go_enter Try.func41, Try.ntmps41
    go_wp2_with fail
    refine (l08Code_any s a n cap ls p b m capb cs _ R.out HF.out hn T.out hm).mono ?_
    rintro e w1 ⟨rfl, hb⟩
    rw [← HCD.out]
    clear qA1 qA2 qA3 qA4 qA5
    replace R := Lib.hid (R.out.below hb); replace T := Lib.hid (T.out.below hb); replace A := Lib.hid (A.out.below hb)
    replace BB := Lib.hid (below_go BB.out hb (by simp)); clear hb
    obtain ⟨qA1, qA2, qA3, qA4, qA5⟩ := A.out
    go_wp2_with fail
    refine (l08Step_any a n cap ls p b m capb cs _ R.out hn HL.out T.out (by omega) (by omega) b2 HC.out).mono ?_
    rintro e w2 ⟨a2, c2, rfl, ho, hb⟩
    clear qA1 qA2 qA3 qA4 qA5
    have z1 := BB.out.size
    have O := Lib.hid ho.reads; replace T := Lib.hid (T.out.below hb); replace BB := Lib.hid (below_go BB.out hb z1); clear ho hb
    go_wp2_with fail
    refine (l08Same_any a2 b m m c2 capb (tintF p ls cs) cs _ O.out T.out (by unfold maxLen; omega)).mono ?_
    rintro e w3 ⟨rfl, hb⟩
    replace BB := Lib.hid (below_go BB.out hb BB.out.size); clear hb
    go_wp2
    go_ret2
    exact ⟨rfl, BB.out⟩
  · rw [mIsCol, if_neg (by rw [← hcd]; exact h0), ← hcd] at hM
    obtain ⟨rfl, rfl⟩ := Prod.mk.injEq .. ▸ hM
    have t1 : (cd != 0) = true := by simp [h0]
    clear hcd hM h0
    go_enter Try.func41, Try.ntmps41
    go_wp2_with fail
    refine (l08Code_any s a n cap ls p b m capb cs _ R.out HF.out hn T.out hm).mono ?_
    rintro e w1 ⟨rfl, hb⟩
    rw [← HCD.out]
    clear qA1 qA2 qA3 qA4 qA5
    replace BB := Lib.hid (below_go BB.out hb (by simp)); clear hb
    go_wp2
    go_ret2
    exact ⟨rfl, BB.out⟩

set_option maxRecDepth 100000 in
set_option maxHeartbeats 1000000 in
theorem implColourStep_any {s : Int} {a : Option Addr} {n cap : Nat} {ls : List Int} {p : Int} {b : Option Addr} {m capb : Nat} {cs : List Int} {w : World} {fxs : List Int} {fc : Int} (hr : Reads w a n ls) (_hf : Fits ls) (hn : n ≤ 1048576) (_hp : (Lit.int .i64 p).wf = true) (hr2 : Reads w b m cs) (hm : m ≤ 1048576) (hM : mColStep s ls p cs = (fxs, fc)) :
    Calls Try.prog 40 #[.agg #[.int .i64 s, .slice a n cap], .int .i64 p, .slice b m capb] w (RetInts w fxs fc) := by
  have R := Lib.hid (hr.alloc (.cells #[.int .i64 s, .slice a n cap] 35)); clear hr
  have T := Lib.hid (hr2.alloc (.cells #[.int .i64 s, .slice a n cap] 35)); clear hr2
  have A := Lib.hid (At2.new w (.int .i64 s) (.slice a n cap) 35)
  have BB := Lib.hid (below1 w (.cells #[.int .i64 s, .slice a n cap] 35))
  obtain ⟨qA1, qA2, qA3, qA4, qA5⟩ := A.out
  obtain ⟨cd, hcd⟩ : ∃ c, c = mColCode s ls p cs := ⟨_, rfl⟩
  have HCD := Lib.hid hcd
  by_cases h0 : cd = 0
  · obtain ⟨g1, g2, g3, g4⟩ := mColCode_ok (by rw [← hcd]; exact h0)
    obtain ⟨b1, b2⟩ := isPrm_bd g2
    obtain ⟨_, i2, _, _⟩ := (isBraid_iff s ls).1 g1
    have hlen := T.out.len
    have hlets := lets_of g1 g3 m hlen
    rw [mColStep, if_pos (by rw [← hcd]; exact h0)] at hM
    obtain ⟨rfl, rfl⟩ := Prod.mk.injEq .. ▸ hM
    have hm8 : m ≤ 8 := by omega
    have HL := Lib.hid hlets; have HC := Lib.hid g4
    have t1 : (cd != 0) = false := by simp [h0]
    clear hcd hM g1 g2 g3 g4 hlets hlen i2 h0
    go_enter Try.func40, Try.ntmps40
    go_wp2_with fail
    refine (coloursCode_any s a n cap ls p b m capb cs _ R.out hn T.out hm).mono ?_
    rintro e w1 ⟨rfl, hb⟩
    rw [← HCD.out]
    clear qA1 qA2 qA3 qA4 qA5
    replace R := Lib.hid (R.out.below hb); replace T := Lib.hid (T.out.below hb); replace A := Lib.hid (A.out.below hb)
    replace BB := Lib.hid (below_go BB.out hb (by simp)); clear hb
    obtain ⟨qA1, qA2, qA3, qA4, qA5⟩ := A.out
    go_wp2_with fail
    refine (coloured_any s a n cap ls p b m capb cs _ R.out hn HL.out T.out (by omega) (by omega) b2 HC.out).mono ?_
    rintro e w2 ⟨a2, c2, rfl, ho, hb⟩
    clear qA1 qA2 qA3 qA4 qA5
    have z1 := BB.out.size
    have O := Lib.hid ho; replace BB := Lib.hid (below_go BB.out hb z1); clear ho hb
    go_wp2
    go_ret2
    exact ⟨a2, m, c2, rfl, hm, O.out.mono z1, BB.out⟩
  · rw [mColStep, if_neg (by rw [← hcd]; exact h0), ← hcd] at hM
    obtain ⟨rfl, rfl⟩ := Prod.mk.injEq .. ▸ hM
    have t1 : (cd != 0) = true := by simp [h0]
    clear hcd hM h0
    go_enter Try.func40, Try.ntmps40
    go_wp2_with fail
    refine (coloursCode_any s a n cap ls p b m capb cs _ R.out hn T.out hm).mono ?_
    rintro e w1 ⟨rfl, hb⟩
    rw [← HCD.out]
    clear qA1 qA2 qA3 qA4 qA5
    replace BB := Lib.hid (below_go BB.out hb (by simp)); clear hb
    go_wp2
    go_ret2
    exact ⟨none, 0, 0, rfl, by omega, Own.nil _ _, BB.out⟩

set_option maxRecDepth 100000 in
set_option maxHeartbeats 1000000 in
theorem implIsColouring_any {s : Int} {a : Option Addr} {n cap : Nat} {ls : List Int} {p : Int} {b : Option Addr} {m capb : Nat} {cs : List Int} {w : World} {fb : Bool} {fc : Int} (hr : Reads w a n ls) (_hf : Fits ls) (hn : n ≤ 1048576) (_hp : (Lit.int .i64 p).wf = true) (hr2 : Reads w b m cs) (hm : m ≤ 1048576) (hM : mIsCol s ls p cs = (fb, fc)) :
    Calls Try.prog 42 #[.agg #[.int .i64 s, .slice a n cap], .int .i64 p, .slice b m capb] w fun e w' => e = .returned (.tuple #[.bool fb, .int .i64 fc]) ∧ Below w.heap.size w w' := by
  have R := Lib.hid (hr.alloc (.cells #[.int .i64 s, .slice a n cap] 35)); clear hr
  have T := Lib.hid (hr2.alloc (.cells #[.int .i64 s, .slice a n cap] 35)); clear hr2
  have A := Lib.hid (At2.new w (.int .i64 s) (.slice a n cap) 35)
  have BB := Lib.hid (below1 w (.cells #[.int .i64 s, .slice a n cap] 35))
  obtain ⟨qA1, qA2, qA3, qA4, qA5⟩ := A.out
  obtain ⟨cd, hcd⟩ : ∃ c, c = mColCode s ls p cs := ⟨_, rfl⟩
  have HCD := Lib.hid hcd
  by_cases h0 : cd = 0
  · obtain ⟨g1, g2, g3, g4⟩ := mColCode_ok (by rw [← hcd]; exact h0)
    obtain ⟨b1, b2⟩ := isPrm_bd g2
    obtain ⟨_, i2, _, _⟩ := (isBraid_iff s ls).1 g1
    have hlen := T.out.len
    have hlets := lets_of g1 g3 m hlen
    rw [mIsCol, if_pos (by rw [← hcd]; exact h0)] at hM
    obtain ⟨rfl, rfl⟩ := Prod.mk.injEq .. ▸ hM
    have hm8 : m ≤ 8 := by omega
    have HL := Lib.hid hlets; have HC := Lib.hid g4
    have t1 : (cd != 0) = false := by simp [h0]
    clear hcd hM g1 g2 g3 g4 hlets hlen i2 h0
    go_enter Try.func42, Try.ntmps42
    go_wp2_with fail
    refine (coloursCode_any s a n cap ls p b m capb cs _ R.out hn T.out hm).mono ?_
    rintro e w1 ⟨rfl, hb⟩
    rw [← HCD.out]
    clear qA1 qA2 qA3 qA4 qA5
    replace R := Lib.hid (R.out.below hb); replace T := Lib.hid (T.out.below hb); replace A := Lib.hid (A.out.below hb)
    replace BB := Lib.hid (below_go BB.out hb (by simp)); clear hb
    obtain ⟨qA1, qA2, qA3, qA4, qA5⟩ := A.out
    go_wp2_with fail
    refine (coloured_any s a n cap ls p b m capb cs _ R.out hn HL.out T.out (by omega) (by omega) b2 HC.out).mono ?_
    rintro e w2 ⟨a2, c2, rfl, ho, hb⟩
    clear qA1 qA2 qA3 qA4 qA5
    have z1 := BB.out.size
    have O := Lib.hid ho.reads; replace T := Lib.hid (T.out.below hb); replace BB := Lib.hid (below_go BB.out hb z1); clear ho hb
    go_wp2_with fail
    refine (slEqual_any a2 b m m c2 capb (tintF p ls cs) cs _ O.out T.out (by unfold maxLen; omega)).mono ?_
    rintro e w3 ⟨rfl, hb⟩
    replace BB := Lib.hid (below_go BB.out hb BB.out.size); clear hb
    go_wp2
    go_ret2
    exact ⟨rfl, BB.out⟩
  · rw [mIsCol, if_neg (by rw [← hcd]; exact h0), ← hcd] at hM
    obtain ⟨rfl, rfl⟩ := Prod.mk.injEq .. ▸ hM
    have t1 : (cd != 0) = true := by simp [h0]
    clear hcd hM h0
    go_enter Try.func42, Try.ntmps42
    go_wp2_with fail
    refine (coloursCode_any s a n cap ls p b m capb cs _ R.out hn T.out hm).mono ?_
    rintro e w1 ⟨rfl, hb⟩
    rw [← HCD.out]
    clear qA1 qA2 qA3 qA4 qA5
    replace BB := Lib.hid (below_go BB.out hb (by simp)); clear hb
    go_wp2
    go_ret2
    exact ⟨rfl, BB.out⟩

end Go.Proofs.Ytoibcoaohmjfbaa
