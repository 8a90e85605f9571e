/- A handle of a braid is reduced: the exported functions, the model's and the program's. -/
import Derived.Test.YtckdhnpnkgmikaaFirst
import Derived.Test.YtckdhnpnkgmikaaSStp
import Derived.Test.YtckdhnpnkgmikaaIStp
import Derived.Test.YtckdhnpnkgmikaaKit6
namespace Go.Proofs.Ytckdhnpnkgmikaa
open Go.RowKit Go.ChangeShapes

/-- A braid whose first handle has been reduced, and the code. -/
def mReduce (s : Int) (xs : List Int) : Int × List Int × Int :=
  if isBraid s xs = true then (match hand xs xs.length with | none => (0, [], 4) | some r => if (stepL xs r.1 r.2).length ≤ 200 then (s, stepL xs r.1 r.2, 0) else (0, [], 3)) else (0, [], 1)

set_option maxHeartbeats 1000000 in
theorem specReduce_any {s : Int} {a : Option Addr} {n cap : Nat} {xs : List Int} {w : World} {fs : Int} {fxs : List Int} {fc : Int} (hr : Reads w a n xs) (hf : Fits xs) (hn : n ≤ 1048576) (hcap : n ≤ cap) (hM : mReduce s xs = (fs, fxs, fc)) :
    Calls Try.prog 18 #[.agg #[.int .i64 s, .slice a n cap]] w (RetBraid w fs fxs fc) := by
  have R := Lib.hid hr; clear hr
  have HF := Lib.hid hf; clear hf
  have HL := Lib.hid R.out.len
  by_cases hbr : isBraid s xs = true
  · have HX := Lib.hid (lt8_of_isBraid hbr)
    have hn200 : n ≤ 200 := by have := len_of_isBraid _ _ hbr; have := HL.out; omega
    rw [mReduce, if_pos hbr, HL.out] at hM
    have HM := Lib.hid hM; clear hM
    go_enter Try.func18, Try.ntmps18
    replace R := Lib.hid ((R.out.alloc (.cells #[.int .i64 s, .slice a n cap] 28)).alloc (.cells #[.int .i64 0, .slice none 0 0] 28))
    have A := Lib.hid ((At2.new w (.int .i64 s) (.slice a n cap) 28).alloc (.cells #[.int .i64 0, .slice none 0 0] 28))
    have Z := Lib.hid (At2.place (w.alloc (.cells #[.int .i64 s, .slice a n cap] 28)) (.int .i64 0) (.slice none 0 0) 28 (w.heap.size + 1) (by simp))
    have BB := Lib.hid (below2 w (.cells #[.int .i64 s, .slice a n cap] 28) (.cells #[.int .i64 0, .slice none 0 0] 28))
    obtain ⟨qA1, qA2, qA3, qA4, qA5⟩ := A.out
    obtain ⟨qZ1, qZ2, qZ3, qZ4, qZ5⟩ := Z.out
    go_wp2_with fail
    refine (l01Is_any _ _ _ _ xs _ R.out HF.out hn).mono ?_
    rintro e w1 ⟨rfl, hb⟩
    clear qA1 qA2 qA3 qA4 qA5 qZ1 qZ2 qZ3 qZ4 qZ5
    replace R := Lib.hid (R.out.below hb)
    replace A := Lib.hid (A.out.below hb)
    replace Z := Lib.hid (Z.out.below hb)
    replace BB := Lib.hid (below_go BB.out hb BB.out.size)
    clear hb
    obtain ⟨qA1, qA2, qA3, qA4, qA5⟩ := A.out
    obtain ⟨qZ1, qZ2, qZ3, qZ4, qZ5⟩ := Z.out
    go_wp2_with fail
    refine (l06Handle_any _ _ _ xs _ R.out HX.out hn).mono ?_
    rintro e w2 ⟨rfl, hb⟩
    clear qA1 qA2 qA3 qA4 qA5 qZ1 qZ2 qZ3 qZ4 qZ5
    replace R := Lib.hid (R.out.below hb)
    replace A := Lib.hid (A.out.below hb)
    replace Z := Lib.hid (Z.out.below hb)
    replace BB := Lib.hid (below_go BB.out hb BB.out.size)
    clear hb
    cases hh : hand xs n with
    | none =>
      replace HM := HM.out; rw [hh] at HM; simp only [Prod.mk.injEq] at HM; obtain ⟨rfl, rfl, rfl⟩ := HM
      clear hh; simp only [handV]
      obtain ⟨qA1, qA2, qA3, qA4, qA5⟩ := A.out
      obtain ⟨qZ1, qZ2, qZ3, qZ4, qZ5⟩ := Z.out
      go_wp2
      obtain ⟨_, e2, e3, _, _⟩ := Z.out.fill (.int .i64 0) (.slice none 0 0)
      refine bodyPost_ret (v := .tuple #[.agg #[.int .i64 0, .slice none 0 0], .int .i64 4]) (by simp [results, Try.results18, go_sem, e2, e3]) rfl ⟨none, 0, 0, rfl, Nat.zero_le _, ?_, ?_⟩
      · exact Own.nil _ _
      · exact ((BB.out.setCell (p := ⟨w.heap.size + 1, 0, none⟩) (by simp) _).setCell (p := ⟨w.heap.size + 1, 1, none⟩) (by simp) _)
    | some r =>
      obtain ⟨p, q⟩ := r
      obtain ⟨hpq, hqn, hpx⟩ := hand_lt hh
      replace HM := HM.out; rw [hh] at HM; simp only at HM; replace HM := Lib.hid HM
      clear hh; simp only [handV]
      have z2 := Z.out.1
      obtain ⟨qA1, qA2, qA3, qA4, qA5⟩ := A.out
      obtain ⟨qZ1, qZ2, qZ3, qZ4, qZ5⟩ := Z.out
      go_wp2_with fail
      refine (l06Step_any _ _ _ xs p q _ R.out HX.out (by omega) hcap hpq hqn hpx).mono ?_
      rintro e w3 ⟨b3, c3, rfl, ho, hb⟩
      clear qA1 qA2 qA3 qA4 qA5 qZ1 qZ2 qZ3 qZ4 qZ5
      replace A := Lib.hid (A.out.below hb)
      replace Z := Lib.hid (Z.out.below hb)
      replace BB := Lib.hid (below_go BB.out hb BB.out.size)
      have HO : Hid (Own (w.heap.size + 1 + 1) w3 b3 _ c3 (stepL xs p q)) := Lib.hid (ho.mono (by omega))
      clear ho hb
      have hlen := stepL_len xs p q hpq (by rw [HL.out]; exact hqn)
      rw [HL.out] at hlen
      by_cases hl : (stepL xs p q).length ≤ 200
      · replace HM := HM.out; rw [if_pos hl] at HM; simp only [Prod.mk.injEq] at HM; obtain ⟨rfl, rfl, rfl⟩ := HM
        obtain ⟨l, hll⟩ : ∃ l, l = (stepL xs p q).length := ⟨_, rfl⟩
        rw [← hll] at HO hl ⊢
        have hl2 : ¬ (200 : Int) < (l : Int) := by omega
        clear hll hlen
        obtain ⟨qA1, qA2, qA3, qA4, qA5⟩ := A.out
        obtain ⟨qZ1, qZ2, qZ3, qZ4, qZ5⟩ := Z.out
        go_wp2
        obtain ⟨_, e2, e3, _, _⟩ := Z.out.fill (.int .i64 s) (.slice b3 l c3)
        refine bodyPost_ret (v := .tuple #[.agg #[.int .i64 s, .slice b3 l c3], .int .i64 0]) (by simp [results, Try.results18, go_sem, e2, e3]) rfl ⟨b3, l, c3, rfl, by omega, ?_, ?_⟩
        · exact ((HO.out.setCell_below (by simp) _).setCell_below (by simp) _).mono (by omega)
        · exact ((BB.out.setCell (p := ⟨w.heap.size + 1, 0, none⟩) (by simp) _).setCell (p := ⟨w.heap.size + 1, 1, none⟩) (by simp) _)
      · replace HM := HM.out; rw [if_neg hl] at HM; simp only [Prod.mk.injEq] at HM; obtain ⟨rfl, rfl, rfl⟩ := HM
        obtain ⟨l, hll⟩ : ∃ l, l = (stepL xs p q).length := ⟨_, rfl⟩
        rw [← hll] at HO hl ⊢
        have hl2 : (200 : Int) < (l : Int) := by omega
        clear hll hlen
        obtain ⟨qA1, qA2, qA3, qA4, qA5⟩ := A.out
        obtain ⟨qZ1, qZ2, qZ3, qZ4, qZ5⟩ := Z.out
        go_wp2
        obtain ⟨_, e2, e3, _, _⟩ := Z.out.fill (.int .i64 0) (.slice none 0 0)
        refine bodyPost_ret (v := .tuple #[.agg #[.int .i64 0, .slice none 0 0], .int .i64 3]) (by simp [results, Try.results18, go_sem, e2, e3]) rfl ⟨none, 0, 0, rfl, Nat.zero_le _, ?_, ?_⟩
        · exact Own.nil _ _
        · exact ((BB.out.setCell (p := ⟨w.heap.size + 1, 0, none⟩) (by simp) _).setCell (p := ⟨w.heap.size + 1, 1, none⟩) (by simp) _)
  · have hb0 : isBraid s xs = false := by simpa using hbr
    rw [mReduce, if_neg hbr] at hM
    simp only [Prod.mk.injEq] at hM
    obtain ⟨rfl, rfl, rfl⟩ := hM
    clear hbr
    go_enter Try.func18, Try.ntmps18
    replace R := Lib.hid ((R.out.alloc (.cells #[.int .i64 s, .slice a n cap] 28)).alloc (.cells #[.int .i64 0, .slice none 0 0] 28))
    have A := Lib.hid ((At2.new w (.int .i64 s) (.slice a n cap) 28).alloc (.cells #[.int .i64 0, .slice none 0 0] 28))
    have Z := Lib.hid (At2.place (w.alloc (.cells #[.int .i64 s, .slice a n cap] 28)) (.int .i64 0) (.slice none 0 0) 28 (w.heap.size + 1) (by simp))
    have BB := Lib.hid (below2 w (.cells #[.int .i64 s, .slice a n cap] 28) (.cells #[.int .i64 0, .slice none 0 0] 28))
    obtain ⟨qA1, qA2, qA3, qA4, qA5⟩ := A.out
    obtain ⟨qZ1, qZ2, qZ3, qZ4, qZ5⟩ := Z.out
    go_wp2_with fail
    refine (l01Is_any _ _ _ _ xs _ R.out HF.out hn).mono ?_
    rintro e w1 ⟨rfl, hb⟩
    clear qA1 qA2 qA3 qA4 qA5 qZ1 qZ2 qZ3 qZ4 qZ5
    replace R := Lib.hid (R.out.below hb)
    replace A := Lib.hid (A.out.below hb)
    replace Z := Lib.hid (Z.out.below hb)
    replace BB := Lib.hid (below_go BB.out hb BB.out.size)
    clear hb
    obtain ⟨qA1, qA2, qA3, qA4, qA5⟩ := A.out
    obtain ⟨qZ1, qZ2, qZ3, qZ4, qZ5⟩ := Z.out
    go_wp2
    obtain ⟨_, e2, e3, _, _⟩ := Z.out.fill (.int .i64 0) (.slice none 0 0)
    refine bodyPost_ret (v := .tuple #[.agg #[.int .i64 0, .slice none 0 0], .int .i64 1]) (by simp [results, Try.results18, go_sem, e2, e3]) rfl ⟨none, 0, 0, rfl, Nat.zero_le _, ?_, ?_⟩
    · exact Own.nil _ _
    · exact ((BB.out.setCell (p := ⟨w.heap.size + 1, 0, none⟩) (by simp) _).setCell (p := ⟨w.heap.size + 1, 1, none⟩) (by simp) _)

set_option maxHeartbeats 1000000 in
theorem implReduce_any {s : Int} {a : Option Addr} {n cap : Nat} {xs : List Int} {w : World} {fs : Int} {fxs : List Int} {fc : Int} (hr : Reads w a n xs) (hf : Fits xs) (hn : n ≤ 1048576) (hcap : n ≤ cap) (hM : mReduce s xs = (fs, fxs, fc)) :
    Calls Try.prog 19 #[.agg #[.int .i64 s, .slice a n cap]] w (RetBraid w fs fxs fc) := by
  have R := Lib.hid hr; clear hr
  have HF := Lib.hid hf; clear hf
  have HL := Lib.hid R.out.len
  by_cases hbr : isBraid s xs = true
  · have HX := Lib.hid (lt8_of_isBraid hbr)
    have hn200 : n ≤ 200 := by have := len_of_isBraid _ _ hbr; have := HL.out; omega
    rw [mReduce, if_pos hbr, HL.out] at hM
    have HM := Lib.hid hM; clear hM
    go_enter Try.func19, Try.ntmps19
    replace R := Lib.hid ((R.out.alloc (.cells #[.int .i64 s, .slice a n cap] 28)).alloc (.cells #[.int .i64 0, .slice none 0 0] 28))
    have A := Lib.hid ((At2.new w (.int .i64 s) (.slice a n cap) 28).alloc (.cells #[.int .i64 0, .slice none 0 0] 28))
    have Z := Lib.hid (At2.place (w.alloc (.cells #[.int .i64 s, .slice a n cap] 28)) (.int .i64 0) (.slice none 0 0) 28 (w.heap.size + 1) (by simp))
    have BB := Lib.hid (below2 w (.cells #[.int .i64 s, .slice a n cap] 28) (.cells #[.int .i64 0, .slice none 0 0] 28))
    obtain ⟨qA1, qA2, qA3, qA4, qA5⟩ := A.out
    obtain ⟨qZ1, qZ2, qZ3, qZ4, qZ5⟩ := Z.out
    go_wp2_with fail
    refine (implIsBraid_any _ _ _ _ xs _ R.out hn).mono ?_
    rintro e w1 ⟨rfl, hb⟩
    clear qA1 qA2 qA3 qA4 qA5 qZ1 qZ2 qZ3 qZ4 qZ5
    replace R := Lib.hid (R.out.below hb)
    replace A := Lib.hid (A.out.below hb)
    replace Z := Lib.hid (Z.out.below hb)
    replace BB := Lib.hid (below_go BB.out hb BB.out.size)
    clear hb
    obtain ⟨qA1, qA2, qA3, qA4, qA5⟩ := A.out
    obtain ⟨qZ1, qZ2, qZ3, qZ4, qZ5⟩ := Z.out
    go_wp2_with fail
    refine (firstHandle_any _ _ _ xs _ R.out HX.out hn).mono ?_
    rintro e w2 ⟨rfl, hb⟩
    clear qA1 qA2 qA3 qA4 qA5 qZ1 qZ2 qZ3 qZ4 qZ5
    replace R := Lib.hid (R.out.below hb)
    replace A := Lib.hid (A.out.below hb)
    replace Z := Lib.hid (Z.out.below hb)
    replace BB := Lib.hid (below_go BB.out hb BB.out.size)
    clear hb
    cases hh : hand xs n with
    | none =>
      replace HM := HM.out; rw [hh] at HM; simp only [Prod.mk.injEq] at HM; obtain ⟨rfl, rfl, rfl⟩ := HM
      clear hh; simp only [handI]
      obtain ⟨qA1, qA2, qA3, qA4, qA5⟩ := A.out
      obtain ⟨qZ1, qZ2, qZ3, qZ4, qZ5⟩ := Z.out
      go_wp2
      obtain ⟨_, e2, e3, _, _⟩ := (Z.out.fill (.int .i64 0) (.slice none 0 0)).alloc (.cells #[.int .i64 0, .int .i64 0] 48)
      refine bodyPost_ret (v := .tuple #[.agg #[.int .i64 0, .slice none 0 0], .int .i64 4]) (by simp [results, Try.results19, go_sem, e2, e3]) rfl ⟨none, 0, 0, rfl, Nat.zero_le _, ?_, ?_⟩
      · exact Own.nil _ _
      · exact ((BB.out.setCell (p := ⟨w.heap.size + 1, 0, none⟩) (by simp) _).setCell (p := ⟨w.heap.size + 1, 1, none⟩) (by simp) _).alloc (by simpa using BB.out.size) _
    | some r =>
      obtain ⟨p, q⟩ := r
      obtain ⟨hpq, hqn, hpx⟩ := hand_lt hh
      replace HM := HM.out; rw [hh] at HM; simp only at HM; replace HM := Lib.hid HM
      clear hh; simp only [handI]
      have z2 := Z.out.1
      obtain ⟨qA1, qA2, qA3, qA4, qA5⟩ := A.out
      obtain ⟨qZ1, qZ2, qZ3, qZ4, qZ5⟩ := Z.out
      go_wp2_with fail
      refine (reduced_any _ _ _ xs p q _ (R.out.alloc _) HX.out (by omega) hcap hpq hqn).mono ?_
      rintro e w3 ⟨b3, c3, rfl, ho, hb⟩
      clear qA1 qA2 qA3 qA4 qA5 qZ1 qZ2 qZ3 qZ4 qZ5
      replace A := Lib.hid ((A.out.alloc _).below hb)
      replace Z := Lib.hid ((Z.out.alloc _).below hb)
      have zz := Z.out.1
      have HO : Hid (Own (w.heap.size + 1 + 1) w3 b3 _ c3 (stepL xs p q)) := Lib.hid (ho.mono (by simp; omega))
      replace BB := Lib.hid (below_go (BB.out.alloc BB.out.size _) hb (by have := BB.out.size; simp; omega))
      clear ho hb
      have hlen := stepL_len xs p q hpq (by rw [HL.out]; exact hqn)
      rw [HL.out] at hlen
      by_cases hl : (stepL xs p q).length ≤ 200
      · replace HM := HM.out; rw [if_pos hl] at HM; simp only [Prod.mk.injEq] at HM; obtain ⟨rfl, rfl, rfl⟩ := HM
        obtain ⟨l, hll⟩ : ∃ l, l = (stepL xs p q).length := ⟨_, rfl⟩
        rw [← hll] at HO hl ⊢
        have hl2 : ¬ (200 : Int) < (l : Int) := by omega
        clear hll hlen
        obtain ⟨qA1, qA2, qA3, qA4, qA5⟩ := A.out
        obtain ⟨qZ1, qZ2, qZ3, qZ4, qZ5⟩ := Z.out
        go_wp2
        obtain ⟨_, e2, e3, _, _⟩ := Z.out.fill (.int .i64 s) (.slice b3 l c3)
        refine bodyPost_ret (v := .tuple #[.agg #[.int .i64 s, .slice b3 l c3], .int .i64 0]) (by simp [results, Try.results19, go_sem, e2, e3]) rfl ⟨b3, l, c3, rfl, by omega, ?_, ?_⟩
        · exact ((HO.out.setCell_below (by simp) _).setCell_below (by simp) _).mono (by omega)
        · exact ((BB.out.setCell (p := ⟨w.heap.size + 1, 0, none⟩) (by simp) _).setCell (p := ⟨w.heap.size + 1, 1, none⟩) (by simp) _)
      · replace HM := HM.out; rw [if_neg hl] at HM; simp only [Prod.mk.injEq] at HM; obtain ⟨rfl, rfl, rfl⟩ := HM
        obtain ⟨l, hll⟩ : ∃ l, l = (stepL xs p q).length := ⟨_, rfl⟩
        rw [← hll] at HO hl ⊢
        have hl2 : (200 : Int) < (l : Int) := by omega
        clear hll hlen
        obtain ⟨qA1, qA2, qA3, qA4, qA5⟩ := A.out
        obtain ⟨qZ1, qZ2, qZ3, qZ4, qZ5⟩ := Z.out
        go_wp2
        obtain ⟨_, e2, e3, _, _⟩ := Z.out.fill (.int .i64 0) (.slice none 0 0)
        refine bodyPost_ret (v := .tuple #[.agg #[.int .i64 0, .slice none 0 0], .int .i64 3]) (by simp [results, Try.results19, go_sem, e2, e3]) rfl ⟨none, 0, 0, rfl, Nat.zero_le _, ?_, ?_⟩
        · exact Own.nil _ _
        · exact ((BB.out.setCell (p := ⟨w.heap.size + 1, 0, none⟩) (by simp) _).setCell (p := ⟨w.heap.size + 1, 1, none⟩) (by simp) _)
  · have hb0 : isBraid s xs = false := by simpa using hbr
    rw [mReduce, if_neg hbr] at hM
    simp only [Prod.mk.injEq] at hM
    obtain ⟨rfl, rfl, rfl⟩ := hM
    clear hbr
    go_enter Try.func19, Try.ntmps19
    replace R := Lib.hid ((R.out.alloc (.cells #[.int .i64 s, .slice a n cap] 28)).alloc (.cells #[.int .i64 0, .slice none 0 0] 28))
    have A := Lib.hid ((At2.new w (.int .i64 s) (.slice a n cap) 28).alloc (.cells #[.int .i64 0, .slice none 0 0] 28))
    have Z := Lib.hid (At2.place (w.alloc (.cells #[.int .i64 s, .slice a n cap] 28)) (.int .i64 0) (.slice none 0 0) 28 (w.heap.size + 1) (by simp))
    have BB := Lib.hid (below2 w (.cells #[.int .i64 s, .slice a n cap] 28) (.cells #[.int .i64 0, .slice none 0 0] 28))
    obtain ⟨qA1, qA2, qA3, qA4, qA5⟩ := A.out
    obtain ⟨qZ1, qZ2, qZ3, qZ4, qZ5⟩ := Z.out
    go_wp2_with fail
    refine (implIsBraid_any _ _ _ _ xs _ R.out hn).mono ?_
    rintro e w1 ⟨rfl, hb⟩
    clear qA1 qA2 qA3 qA4 qA5 qZ1 qZ2 qZ3 qZ4 qZ5
    replace R := Lib.hid (R.out.below hb)
    replace A := Lib.hid (A.out.below hb)
    replace Z := Lib.hid (Z.out.below hb)
    replace BB := Lib.hid (below_go BB.out hb BB.out.size)
    clear hb
    obtain ⟨qA1, qA2, qA3, qA4, qA5⟩ := A.out
    obtain ⟨qZ1, qZ2, qZ3, qZ4, qZ5⟩ := Z.out
    go_wp2
    obtain ⟨_, e2, e3, _, _⟩ := Z.out.fill (.int .i64 0) (.slice none 0 0)
    refine bodyPost_ret (v := .tuple #[.agg #[.int .i64 0, .slice none 0 0], .int .i64 1]) (by simp [results, Try.results19, go_sem, e2, e3]) rfl ⟨none, 0, 0, rfl, Nat.zero_le _, ?_, ?_⟩
    · exact Own.nil _ _
    · exact ((BB.out.setCell (p := ⟨w.heap.size + 1, 0, none⟩) (by simp) _).setCell (p := ⟨w.heap.size + 1, 1, none⟩) (by simp) _)

end Go.Proofs.Ytckdhnpnkgmikaa
