/- The first handle of a braid, and the sign of a word: the exported functions, the model's and the program's. -/
import Derived.Test.YtckdhnpnkgmikaaSHan
import Derived.Test.YtckdhnpnkgmikaaIHan
import Derived.Test.YtckdhnpnkgmikaaMainO
import Derived.Test.YtckdhnpnkgmikaaIs2
namespace Go.Proofs.Ytckdhnpnkgmikaa
open Go.RowKit Go.ChangeShapes

theorem lt8_of_isBraid {s : Int} {xs : List Int} (h : isBraid s xs = true) : Lt8 xs := by
  obtain ⟨_, h2, _, h4⟩ := (isBraid_iff s xs).1 h
  intro x hx
  have := h4 x hx
  omega

/-- A list of two numbers that the call makes. -/
theorem own_lit2 (B g : Nat) (w : World) (x y : Int) (hB : B ≤ w.heap.size) (hg : w.heap.size = g) : Own B (w.alloc (.cells #[.int .i64 x, .int .i64 y] 2)) (some ⟨g, 0, none⟩) 2 2 [x, y] := by
  subst hg
  have := World.ownsRow_lit (base := B) (size := 1) (e := 2) w #[.int .i64 x, .int .i64 y] 2 hB (by decide) rfl
  exact this

/-- The places of the first handle, and the code. -/
def mFirst (s : Int) (xs : List Int) : List Int × Int :=
  if isBraid s xs = true then (match hand xs xs.length with | none => ([], 4) | some r => ([(r.1 : Int), (r.2 : Int)], 0)) else ([], 1)

/-- The sign of a word, and the code. -/
def mWSign (s : Int) (xs : List Int) : Int × Int := if isBraid s xs = true then (sgnM xs, 0) else (0, 1)

set_option maxHeartbeats 400000 in
theorem specFirst_any {s : Int} {a : Option Addr} {n cap : Nat} {xs : List Int} {w : World} {fxs : List Int} {fc : Int} (hr : Reads w a n xs) (hf : Fits xs) (hn : n ≤ 1048576) (hM : mFirst s xs = (fxs, fc)) :
    Calls Try.prog 10 #[.agg #[.int .i64 s, .slice a n cap]] w (RetInts w fxs fc) := by
  have R := Lib.hid hr; clear hr
  have HF := Lib.hid hf; clear hf
  have HL := Lib.hid R.out.len
  by_cases hbr : isBraid s xs = true
  · have HX := Lib.hid (lt8_of_isBraid hbr)
    rw [mFirst, if_pos hbr, HL.out] at hM
    go_enter Try.func10, Try.ntmps10
    go_wp2_with fail
    refine (l01Is_any _ _ _ _ xs _ (R.out.alloc _) HF.out hn).mono ?_
    rintro e w1 ⟨rfl, hb⟩
    obtain ⟨q1, q2, q3, q4, q5⟩ := (At2.new w (.int .i64 s) (.slice a n cap) 28).below hb
    have R1 := Lib.hid ((R.out.alloc (.cells #[.int .i64 s, .slice a n cap] 28)).below hb)
    have BB := Lib.hid (below_go (below1 w _) hb (by simp)); clear hb
    go_wp2_with fail
    refine (l06Handle_any _ _ _ xs _ R1.out HX.out hn).mono ?_
    rintro e w2 ⟨rfl, hb⟩
    have BC := Lib.hid (below_go BB.out hb BB.out.size); clear hb
    cases hh : hand xs n with
    | none =>
      rw [hh] at hM
      simp only [Prod.mk.injEq] at hM
      obtain ⟨rfl, rfl⟩ := hM
      clear hh
      simp only [handV]
      go_wp2
      go_ret2
      exact ⟨none, 0, 0, rfl, Nat.zero_le _, Own.nil _ _, BC.out⟩
    | some r =>
      obtain ⟨p, q⟩ := r
      rw [hh] at hM
      simp only [Prod.mk.injEq] at hM
      obtain ⟨rfl, rfl⟩ := hM
      clear hh
      simp only [handV]
      go_wp2
      go_ret2
      exact ⟨_, 2, 2, rfl, by omega, own_lit2 _ _ _ _ _ BC.out.size rfl, BC.out.alloc BC.out.size _⟩
  · have hb0 : isBraid s xs = false := by simpa using hbr
    rw [mFirst, if_neg hbr, Prod.mk.injEq] at hM
    obtain ⟨rfl, rfl⟩ := hM
    clear hbr
    go_enter Try.func10, Try.ntmps10
    go_wp2_with (go_at_call 30; refine (l01Is_any _ _ _ _ xs _ (R.out.alloc _) HF.out hn).mono ?_; rintro e w1 ⟨rfl, hb⟩)
    go_ret2
    exact ⟨none, 0, 0, rfl, Nat.zero_le _, Own.nil _ _, below_go (below1 w _) hb (by simp)⟩

set_option maxHeartbeats 400000 in
theorem implFirst_any {s : Int} {a : Option Addr} {n cap : Nat} {xs : List Int} {w : World} {fxs : List Int} {fc : Int} (hr : Reads w a n xs) (_hf : Fits xs) (hn : n ≤ 1048576) (hM : mFirst s xs = (fxs, fc)) :
    Calls Try.prog 12 #[.agg #[.int .i64 s, .slice a n cap]] w (RetInts w fxs fc) := by
  have R := Lib.hid hr; clear hr
  have HL := Lib.hid R.out.len
  by_cases hbr : isBraid s xs = true
  · have HX := Lib.hid (lt8_of_isBraid hbr)
    rw [mFirst, if_pos hbr, HL.out] at hM
    go_enter Try.func12, Try.ntmps12
    go_wp2_with fail
    refine (implIsBraid_any _ _ _ _ xs _ (R.out.alloc _) hn).mono ?_
    rintro e w1 ⟨rfl, hb⟩
    obtain ⟨q1, q2, q3, q4, q5⟩ := (At2.new w (.int .i64 s) (.slice a n cap) 28).below hb
    have R1 := Lib.hid ((R.out.alloc (.cells #[.int .i64 s, .slice a n cap] 28)).below hb)
    have BB := Lib.hid (below_go (below1 w _) hb (by simp)); clear hb
    go_wp2_with fail
    refine (firstHandle_any _ _ _ xs _ R1.out HX.out hn).mono ?_
    rintro e w2 ⟨rfl, hb⟩
    have BC := Lib.hid (below_go BB.out hb BB.out.size); clear hb
    cases hh : hand xs n with
    | none =>
      rw [hh] at hM
      simp only [Prod.mk.injEq] at hM
      obtain ⟨rfl, rfl⟩ := hM
      clear hh
      simp only [handI]
      go_wp2
      go_ret2
      exact ⟨none, 0, 0, rfl, Nat.zero_le _, Own.nil _ _, BC.out.alloc BC.out.size _⟩
    | some r =>
      obtain ⟨p, q⟩ := r
      rw [hh] at hM
      simp only [Prod.mk.injEq] at hM
      obtain ⟨rfl, rfl⟩ := hM
      clear hh
      simp only [handI]
      go_wp2
      go_ret2
      exact ⟨_, 2, 2, rfl, by omega, own_lit2 _ _ _ _ _ (by have := BC.out.size; simp; omega) (by simp), (BC.out.alloc BC.out.size _).alloc (by have := BC.out.size; simp; omega) _⟩
  · have hb0 : isBraid s xs = false := by simpa using hbr
    rw [mFirst, if_neg hbr, Prod.mk.injEq] at hM
    obtain ⟨rfl, rfl⟩ := hM
    clear hbr
    go_enter Try.func12, Try.ntmps12
    go_wp2_with (go_at_call 33; refine (implIsBraid_any _ _ _ _ xs _ (R.out.alloc _) hn).mono ?_; rintro e w1 ⟨rfl, hb⟩)
    go_ret2
    exact ⟨none, 0, 0, rfl, Nat.zero_le _, Own.nil _ _, below_go (below1 w _) hb (by simp)⟩

set_option maxHeartbeats 400000 in
theorem specWSign_any {s : Int} {a : Option Addr} {n cap : Nat} {xs : List Int} {w : World} {fv fc : Int} (hr : Reads w a n xs) (hf : Fits xs) (hn : n ≤ 1048576) (hM : mWSign s xs = (fv, fc)) :
    Calls Try.prog 21 #[.agg #[.int .i64 s, .slice a n cap]] w fun e w' => e = .returned (.tuple #[.int .i64 fv, .int .i64 fc]) ∧ Below w.heap.size w w' := by
  have R := Lib.hid hr; clear hr
  have HF := Lib.hid hf; clear hf
  by_cases hbr : isBraid s xs = true
  · have HX := Lib.hid (lt8_of_isBraid hbr)
    rw [mWSign, if_pos hbr, Prod.mk.injEq] at hM
    obtain ⟨rfl, rfl⟩ := hM
    go_enter Try.func21, Try.ntmps21
    go_wp2_with fail
    refine (l01Is_any _ _ _ _ xs _ (R.out.alloc _) HF.out hn).mono ?_
    rintro e w1 ⟨rfl, hb⟩
    obtain ⟨q1, q2, q3, q4, q5⟩ := (At2.new w (.int .i64 s) (.slice a n cap) 28).below hb
    have R1 := Lib.hid ((R.out.alloc (.cells #[.int .i64 s, .slice a n cap] 28)).below hb)
    have BB := Lib.hid (below_go (below1 w _) hb (by simp)); clear hb
    go_wp2_with fail
    refine (l06Main_any _ _ _ xs _ R1.out HX.out hn).mono ?_
    rintro e w2 ⟨rfl, hb⟩
    have BC := Lib.hid (below_go BB.out hb BB.out.size); clear hb
    go_wp2
    go_ret2
    exact ⟨rfl, BC.out⟩
  · have hb0 : isBraid s xs = false := by simpa using hbr
    rw [mWSign, if_neg hbr, Prod.mk.injEq] at hM
    obtain ⟨rfl, rfl⟩ := hM
    clear hbr
    go_enter Try.func21, Try.ntmps21
    go_wp2_with (go_at_call 30; refine (l01Is_any _ _ _ _ xs _ (R.out.alloc _) HF.out hn).mono ?_; rintro e w1 ⟨rfl, hb⟩)
    go_ret2
    exact ⟨rfl, below_go (below1 w _) hb (by simp)⟩

set_option maxHeartbeats 400000 in
theorem implWSign_any {s : Int} {a : Option Addr} {n cap : Nat} {xs : List Int} {w : World} {fv fc : Int} (hr : Reads w a n xs) (_hf : Fits xs) (hn : n ≤ 1048576) (hM : mWSign s xs = (fv, fc)) :
    Calls Try.prog 22 #[.agg #[.int .i64 s, .slice a n cap]] w fun e w' => e = .returned (.tuple #[.int .i64 fv, .int .i64 fc]) ∧ Below w.heap.size w w' := by
  have R := Lib.hid hr; clear hr
  by_cases hbr : isBraid s xs = true
  · have HX := Lib.hid (lt8_of_isBraid hbr)
    rw [mWSign, if_pos hbr, Prod.mk.injEq] at hM
    obtain ⟨rfl, rfl⟩ := hM
    go_enter Try.func22, Try.ntmps22
    go_wp2_with fail
    refine (implIsBraid_any _ _ _ _ xs _ (R.out.alloc _) hn).mono ?_
    rintro e w1 ⟨rfl, hb⟩
    obtain ⟨q1, q2, q3, q4, q5⟩ := (At2.new w (.int .i64 s) (.slice a n cap) 28).below hb
    have R1 := Lib.hid ((R.out.alloc (.cells #[.int .i64 s, .slice a n cap] 28)).below hb)
    have BB := Lib.hid (below_go (below1 w _) hb (by simp)); clear hb
    go_wp2_with fail
    refine (mainSign_any _ _ _ xs _ R1.out HX.out hn).mono ?_
    rintro e w2 ⟨rfl, hb⟩
    have BC := Lib.hid (below_go BB.out hb BB.out.size); clear hb
    rw [sgnM_snd xs HX.out]
    go_wp2
    go_ret2
    exact ⟨rfl, BC.out⟩
  · have hb0 : isBraid s xs = false := by simpa using hbr
    rw [mWSign, if_neg hbr, Prod.mk.injEq] at hM
    obtain ⟨rfl, rfl⟩ := hM
    clear hbr
    go_enter Try.func22, Try.ntmps22
    go_wp2_with (go_at_call 33; refine (implIsBraid_any _ _ _ _ xs _ (R.out.alloc _) hn).mono ?_; rintro e w1 ⟨rfl, hb⟩)
    go_ret2
    exact ⟨rfl, below_go (below1 w _) hb (by simp)⟩

end Go.Proofs.Ytckdhnpnkgmikaa
