/- The main letter of a braid, and whether it is trivial: the exported functions, the model's and the program's. -/
import Derived.Test.YtckdhnpnkgmikaaDoorHfr
namespace Go.Proofs.YtckdhnpnkgmikaaDoor
open Go.RowKit Go.ChangeShapes

/-- The main letter of a braid, and the code; is it trivial, and the code. -/
def mMl (s : Int) (xs : List Int) : Int × Int := if isBraid s xs = true then (match mainL xs with | none => (0, 3) | some v => (v, 0)) else (0, 1)
def mTriv (s : Int) (xs : List Int) : Bool × Int := (((mMl s xs).2 == 0) && ((mMl s xs).1 == 0), (mMl s xs).2)

set_option maxHeartbeats 400000 in
theorem specMl_any {s : Int} {a : Option Addr} {n cap : Nat} {xs : List Int} {w : World} {fv fc : Int} (hr : Reads w a n xs) (hf : Fits xs) (hn : n ≤ 1048576) (hcap : n ≤ cap) (hM : mMl s xs = (fv, fc)) :
    Calls Tryd.prog 16 #[.agg #[.int .i64 s, .slice a n cap]] w fun e w' => e = .returned (.tuple #[.int .i64 fv, .int .i64 fc]) ∧ Below w.heap.size w w' := by
  have R := Lib.hid hr; clear hr
  have HF := Lib.hid hf; clear hf
  by_cases hbr : isBraid s xs = true
  · have HX := Lib.hid (lt8_of_isBraid hbr)
    have hn200 : n ≤ 200 := by have := len_of_isBraid _ _ hbr; have := R.out.len; omega
    rw [mMl, if_pos hbr] at hM
    have HM := Lib.hid hM; clear hM
    go_enter Tryd.func16, Tryd.ntmps16
    go_wp2_with fail
    refine (l01Is_any _ _ _ _ xs _ (R.out.alloc _) HF.out hn).mono ?_
    rintro e w1 ⟨rfl, hb⟩
    obtain ⟨q1, q2, q3, q4, q5⟩ := (At2.new w (.int .i64 s) (.slice a n cap) 26).below hb
    have R1 := Lib.hid ((R.out.alloc (.cells #[.int .i64 s, .slice a n cap] 26)).below hb)
    have BB := Lib.hid (below_go (below1 w _) hb (by simp)); clear hb
    go_wp2_with fail
    refine (l06Letter_any _ _ _ xs _ R1.out HX.out (by omega) hcap).mono ?_
    rintro e w2 ⟨rfl, hb⟩
    have BC := Lib.hid (below_go BB.out hb BB.out.size); clear hb
    cases hm : mainL xs with
    | none =>
      replace HM := HM.out; rw [hm] at HM; simp only [Prod.mk.injEq] at HM; obtain ⟨rfl, rfl⟩ := HM
      clear hm
      simp only [mlS]
      go_wp2
      go_ret2
      exact ⟨rfl, BC.out⟩
    | some v =>
      replace HM := HM.out; rw [hm] at HM; simp only [Prod.mk.injEq] at HM; obtain ⟨rfl, rfl⟩ := HM
      clear hm
      simp only [mlS]
      go_wp2
      go_ret2
      exact ⟨rfl, BC.out⟩
  · have hb0 : isBraid s xs = false := by simpa using hbr
    rw [mMl, if_neg hbr, Prod.mk.injEq] at hM
    obtain ⟨rfl, rfl⟩ := hM
    clear hbr
    go_enter Tryd.func16, Tryd.ntmps16
    go_wp2_with (go_at_call 34; refine (l01Is_any _ _ _ _ xs _ (R.out.alloc _) HF.out hn).mono ?_; rintro e w1 ⟨rfl, hb⟩)
    go_ret2
    exact ⟨rfl, below_go (below1 w _) hb (by simp)⟩

set_option maxHeartbeats 400000 in
theorem implMl_any {s : Int} {a : Option Addr} {n cap : Nat} {xs : List Int} {w : World} {ep : Value} {fv fc : Int} (hr : Reads w a n xs) (hf : Fits xs) (hn : n ≤ 1048576) (hcap : n ≤ cap) (hg : w.cell? ⟨0, 0, none⟩ = some (.iface 90 ep)) (hM : mMl s xs = (fv, fc)) :
    Calls Tryd.prog 17 #[.agg #[.int .i64 s, .slice a n cap]] w fun e w' => e = .returned (.tuple #[.int .i64 fv, .int .i64 fc]) ∧ Below w.heap.size w w' := by
  have R := Lib.hid hr; clear hr
  have HF := Lib.hid hf; clear hf
  have HG := Lib.hid hg; clear hg
  by_cases hbr : isBraid s xs = true
  · have HX := Lib.hid (lt8_of_isBraid hbr)
    have hn200 : n ≤ 200 := by have := len_of_isBraid _ _ hbr; have := R.out.len; omega
    rw [mMl, if_pos hbr] at hM
    have HM := Lib.hid hM; clear hM
    go_enter Tryd.func17, Tryd.ntmps17
    go_wp2_with fail
    refine (implIsBraid_any _ _ _ _ xs _ (R.out.alloc _) hn).mono ?_
    rintro e w1 ⟨rfl, hb⟩
    obtain ⟨q1, q2, q3, q4, q5⟩ := (At2.new w (.int .i64 s) (.slice a n cap) 26).below hb
    have R1 := Lib.hid ((R.out.alloc (.cells #[.int .i64 s, .slice a n cap] 26)).below hb)
    have BB := Lib.hid (below_go (below1 w _) hb (by simp)); clear hb
    go_wp2_with fail
    refine (mainLetter_any _ _ _ xs ep _ R1.out HX.out (by omega) hcap (gvar BB.out HG.out)).mono ?_
    rintro e w2 ⟨rfl, hb⟩
    have BC := Lib.hid (below_go BB.out hb BB.out.size); clear hb
    cases hm : mainL xs with
    | none =>
      replace HM := HM.out; rw [hm] at HM; simp only [Prod.mk.injEq] at HM; obtain ⟨rfl, rfl⟩ := HM
      clear hm
      simp only [mlI]
      go_wp2
      go_ret2
      exact ⟨rfl, BC.out⟩
    | some v =>
      replace HM := HM.out; rw [hm] at HM; simp only [Prod.mk.injEq] at HM; obtain ⟨rfl, rfl⟩ := HM
      clear hm
      simp only [mlI]
      go_wp2
      go_ret2
      exact ⟨rfl, BC.out⟩
  · have hb0 : isBraid s xs = false := by simpa using hbr
    rw [mMl, if_neg hbr, Prod.mk.injEq] at hM
    obtain ⟨rfl, rfl⟩ := hM
    clear hbr
    go_enter Tryd.func17, Tryd.ntmps17
    go_wp2_with (go_at_call 38; refine (implIsBraid_any _ _ _ _ xs _ (R.out.alloc _) hn).mono ?_; rintro e w1 ⟨rfl, hb⟩)
    go_ret2
    exact ⟨rfl, below_go (below1 w _) hb (by simp)⟩

set_option maxHeartbeats 400000 in
theorem specTriv_any {s : Int} {a : Option Addr} {n cap : Nat} {xs : List Int} {w : World} {fb : Bool} {fc : Int} (hr : Reads w a n xs) (hf : Fits xs) (hn : n ≤ 1048576) (hcap : n ≤ cap) (hM : mTriv s xs = (fb, fc)) :
    Calls Tryd.prog 18 #[.agg #[.int .i64 s, .slice a n cap]] w fun e w' => e = .returned (.tuple #[.bool fb, .int .i64 fc]) ∧ Below w.heap.size w w' := by
  obtain ⟨fv, c, hm⟩ : ∃ fv c, mMl s xs = (fv, c) := ⟨_, _, rfl⟩
  rw [mTriv, hm, Prod.mk.injEq] at hM
  obtain ⟨rfl, rfl⟩ := hM
  have HM := Lib.hid hm; clear hm
  have R := Lib.hid hr; clear hr
  go_enter Tryd.func18, Tryd.ntmps18
  go_wp2_with fail
  refine (specMl_any (R.out.alloc _) hf hn hcap HM.out).mono ?_
  rintro e w1 ⟨rfl, hb⟩
  have BB := Lib.hid (below_go (below1 w _) hb (by simp)); clear hb
  by_cases h1 : c = 0
  · have e1 : (c == 0) = true := by simp [h1]
    by_cases h2 : fv = 0
    all_goals
      first | (have e2 : (fv == 0) = true := by simp [h2]) | (have e2 : (fv == 0) = false := by simp [h2])
      clear h2 h1
      go_wp2
      go_ret2
      exact ⟨by rw [e1, e2]; rfl, BB.out⟩
  · have e1 : (c == 0) = false := by simp [h1]
    clear h1
    go_wp2
    go_ret2
    exact ⟨by rw [e1]; rfl, BB.out⟩

set_option maxHeartbeats 400000 in
theorem implTriv_any {s : Int} {a : Option Addr} {n cap : Nat} {xs : List Int} {w : World} {ep : Value} {fb : Bool} {fc : Int} (hr : Reads w a n xs) (hf : Fits xs) (hn : n ≤ 1048576) (hcap : n ≤ cap) (hg : w.cell? ⟨0, 0, none⟩ = some (.iface 90 ep)) (hM : mTriv s xs = (fb, fc)) :
    Calls Tryd.prog 19 #[.agg #[.int .i64 s, .slice a n cap]] w fun e w' => e = .returned (.tuple #[.bool fb, .int .i64 fc]) ∧ Below w.heap.size w w' := by
  obtain ⟨fv, c, hm⟩ : ∃ fv c, mMl s xs = (fv, c) := ⟨_, _, rfl⟩
  rw [mTriv, hm, Prod.mk.injEq] at hM
  obtain ⟨rfl, rfl⟩ := hM
  have HM := Lib.hid hm; clear hm
  have R := Lib.hid hr; clear hr
  have HG := Lib.hid hg; clear hg
  go_enter Tryd.func19, Tryd.ntmps19
  go_wp2_with fail
  refine (implMl_any (R.out.alloc _) hf hn hcap (gvar (below1 w _) HG.out) HM.out).mono ?_
  rintro e w1 ⟨rfl, hb⟩
  have BB := Lib.hid (below_go (below1 w _) hb (by simp)); clear hb
  by_cases h1 : c = 0
  · have e1 : (c == 0) = true := by simp [h1]
    by_cases h2 : fv = 0
    all_goals
      first | (have e2 : (fv == 0) = true := by simp [h2]) | (have e2 : (fv == 0) = false := by simp [h2])
      clear h2 h1
      go_wp2
      go_ret2
      exact ⟨by rw [e1, e2]; rfl, BB.out⟩
  · have e1 : (c == 0) = false := by simp [h1]
    clear h1
    go_wp2
    go_ret2
    exact ⟨by rw [e1]; rfl, BB.out⟩

end Go.Proofs.YtckdhnpnkgmikaaDoor
