/- BandOf: the model's answer, the program's. -/
import Derived.Test.YthelncibpoijoaaPBnd
import Derived.Test.YthelncibpoijoaaQA
import Derived.Deep.DeepCutAuto
namespace Go.Proofs.Ythelncibpoijoaa
open Go.RowKit Go.ChangeShapes

/-- The numbers of a band. -/
def okBand (n t s : Int) : Prop := (2 ≤ n ∧ n ≤ 8) ∧ (1 ≤ t ∧ t ≤ n - 1) ∧ 0 ≤ s ∧ s ≤ t - 1
instance (n t s : Int) : Decidable (okBand n t s) := by unfold okBand; infer_instance

/-- What BandOf gives. -/
def mBandOf (n t s : Int) : Int × List Int × Int := if okBand n t s then (n, bandL t.toNat s.toNat, 0) else (0, [], 2)

set_option maxRecDepth 100000 in
set_option maxHeartbeats 1000000 in
theorem specBandOf_yes (n : Int) (t s : Nat) (h1 : 2 ≤ n) (h2 : n ≤ 8) (h3 : (t : Int) < n) (hs : s < t) (w : World) :
    Calls Try.prog 32 #[.int .i64 n, .int .i64 t, .int .i64 s] w (RetBraid w n (bandL t s) 0) := by
  have ht : t < 8 := by omega
  have t1 : inB n 2 8 = true := (inB_iff _ _ _).2 ⟨h1, h2⟩
  have t2 : inB (t : Int) 1 (n - 1) = true := (inB_iff _ _ _).2 ⟨by omega, by omega⟩
  have t3 : inB (s : Int) 0 ((t : Int) - 1) = true := (inB_iff _ _ _).2 ⟨by omega, by omega⟩
  have w1 : IntKind.i64.wrap (n - 1) = n - 1 := IntWalk.i64_in _ (by omega)
  have w2 : IntKind.i64.wrap ((t : Int) - 1) = (t : Int) - 1 := IntWalk.i64_in _ (by omega)
  go_enter Try.func32, Try.ntmps32
  have Z := Lib.hid (At2.new w (.int .i64 0) (.slice none 0 0) 36)
  have BB := Lib.hid (below1 w (.cells #[.int .i64 0, .slice none 0 0] 36))
  go_wp2_with (first | (go_at_call 66; refine (l01In_any _ _ _ _).mono ?_; rintro e w' ⟨rfl, rfl⟩))
  refine (l07Band_any t s hs ht _).mono ?_
  rintro e w1 ⟨a1, c1, rfl, ho, hb⟩
  have P1 : Hid (OwnIn (w.heap.size + 1) w1.heap.size w1 a1 (bandL t s).length c1 (bandL t s)) := Lib.hid (by simpa using ho.within); clear ho
  replace Z := Lib.hid (Z.out.below hb)
  have z1 : w.heap.size + 1 ≤ w1.heap.size := by have := hb.size; simp at this; omega
  replace BB := Lib.hid (below_go BB.out hb (by first | omega | (simp; done) | (simp; omega)))
  clear hb
  have hl := bandL_len t s
  obtain ⟨l, hll⟩ : ∃ l, l = (bandL t s).length := ⟨_, rfl⟩
  rw [← hll] at P1 hl ⊢
  clear hll
  have hl16 : l ≤ 16 := by omega
  clear hl
  obtain ⟨qZ1, qZ2, qZ3, qZ4, qZ5⟩ := Z.out
  go_wp2
  obtain ⟨_, e2, e3, _, _⟩ := Z.out.fill (.int .i64 n) (.slice a1 l c1)
  refine bodyPost_ret (v := .tuple #[.agg #[.int .i64 n, .slice a1 l c1], .int .i64 0]) (by simp [results, Try.results32, go_sem, e2, e3]) rfl ⟨a1, _, c1, rfl, by omega, ?_, ?_⟩
  · exact ((P1.out.1.setCell_below (by first | (simp; done) | (simp; omega)) _).setCell_below (by first | (simp; done) | (simp; omega)) _).mono (by omega)
  · exact (BB.out.setCell (p := ⟨w.heap.size, 0, none⟩) (by simp) _).setCell (p := ⟨w.heap.size, 1, none⟩) (by simp) _

set_option maxRecDepth 100000 in
set_option maxHeartbeats 1000000 in
theorem implBandOf_yes (n : Int) (t s : Nat) (h1 : 2 ≤ n) (h2 : n ≤ 8) (h3 : (t : Int) < n) (hs : s < t) (w : World) :
    Calls Try.prog 33 #[.int .i64 n, .int .i64 t, .int .i64 s] w (RetBraid w n (bandL t s) 0) := by
  have ht : t < 8 := by omega
  have t1 : ¬ n < 2 := by omega
  have t2 : ¬ n > 8 := by omega
  have t3 : ¬ (s : Int) < 0 := by omega
  have t4 : ¬ (t : Int) ≤ s := by omega
  have t5 : ¬ (t : Int) ≥ n := by omega
  go_enter Try.func33, Try.ntmps33
  have Z := Lib.hid (At2.new w (.int .i64 0) (.slice none 0 0) 36)
  have BB := Lib.hid (below1 w (.cells #[.int .i64 0, .slice none 0 0] 36))
  go_wp2_with fail
  refine (bandWord_any t s hs ht _).mono ?_
  rintro e w1 ⟨a1, c1, rfl, ho, hb⟩
  have P1 : Hid (OwnIn (w.heap.size + 1) w1.heap.size w1 a1 (bandL t s).length c1 (bandL t s)) := Lib.hid (by simpa using ho.within); clear ho
  replace Z := Lib.hid (Z.out.below hb)
  have z1 : w.heap.size + 1 ≤ w1.heap.size := by have := hb.size; simp at this; omega
  replace BB := Lib.hid (below_go BB.out hb (by first | omega | (simp; done) | (simp; omega)))
  clear hb
  have hl := bandL_len t s
  obtain ⟨l, hll⟩ : ∃ l, l = (bandL t s).length := ⟨_, rfl⟩
  rw [← hll] at P1 hl ⊢
  clear hll
  have hl16 : l ≤ 16 := by omega
  clear hl
  obtain ⟨qZ1, qZ2, qZ3, qZ4, qZ5⟩ := Z.out
  go_wp2
  obtain ⟨_, e2, e3, _, _⟩ := Z.out.fill (.int .i64 n) (.slice a1 l c1)
  refine bodyPost_ret (v := .tuple #[.agg #[.int .i64 n, .slice a1 l c1], .int .i64 0]) (by simp [results, Try.results33, go_sem, e2, e3]) rfl ⟨a1, _, c1, rfl, by omega, ?_, ?_⟩
  · exact ((P1.out.1.setCell_below (by first | (simp; done) | (simp; omega)) _).setCell_below (by first | (simp; done) | (simp; omega)) _).mono (by omega)
  · exact (BB.out.setCell (p := ⟨w.heap.size, 0, none⟩) (by simp) _).setCell (p := ⟨w.heap.size, 1, none⟩) (by simp) _

set_option maxRecDepth 100000 in
set_option maxHeartbeats 1000000 in
theorem specBandOf_no (n t s : Int) (h : ¬ okBand n t s) (w : World) :
    Calls Try.prog 32 #[.int .i64 n, .int .i64 t, .int .i64 s] w (RetBraid w 0 [] 2) := by
  by_cases h1 : 2 ≤ n ∧ n ≤ 8
  · have t1 : inB n 2 8 = true := (inB_iff _ _ _).2 h1
    have w1 : IntKind.i64.wrap (n - 1) = n - 1 := IntWalk.i64_in _ (by omega)
    by_cases h2 : 1 ≤ t ∧ t ≤ n - 1
    · have t2 : inB t 1 (n - 1) = true := (inB_iff _ _ _).2 h2
      have w2 : IntKind.i64.wrap (t - 1) = t - 1 := IntWalk.i64_in _ (by omega)
      have t3 : inB s 0 (t - 1) = false := (inB_not _ _ _).2 (by unfold okBand at h; omega)
      clear h
      go_enter Try.func32, Try.ntmps32
      have Z := Lib.hid (At2.new w (.int .i64 0) (.slice none 0 0) 36)
      have BB := Lib.hid (below1 w (.cells #[.int .i64 0, .slice none 0 0] 36))
      go_wp2_with (first | (go_at_call 66; refine (l01In_any _ _ _ _).mono ?_; rintro e w' ⟨rfl, rfl⟩))
      refine bodyPost_ret (v := .tuple #[.agg #[.int .i64 0, .slice none 0 0], .int .i64 2]) (by simp [results, Try.results32, go_sem]) rfl ⟨none, 0, 0, rfl, Nat.zero_le _, Own.nil _ _, ?_⟩
      exact below1 w _
    · have t2 : inB t 1 (n - 1) = false := (inB_not _ _ _).2 (by omega)
      clear h
      go_enter Try.func32, Try.ntmps32
      have Z := Lib.hid (At2.new w (.int .i64 0) (.slice none 0 0) 36)
      have BB := Lib.hid (below1 w (.cells #[.int .i64 0, .slice none 0 0] 36))
      go_wp2_with (first | (go_at_call 66; refine (l01In_any _ _ _ _).mono ?_; rintro e w' ⟨rfl, rfl⟩))
      refine bodyPost_ret (v := .tuple #[.agg #[.int .i64 0, .slice none 0 0], .int .i64 2]) (by simp [results, Try.results32, go_sem]) rfl ⟨none, 0, 0, rfl, Nat.zero_le _, Own.nil _ _, ?_⟩
      exact below1 w _
  · have t1 : inB n 2 8 = false := (inB_not _ _ _).2 (by omega)
    clear h
    go_enter Try.func32, Try.ntmps32
    have Z := Lib.hid (At2.new w (.int .i64 0) (.slice none 0 0) 36)
    have BB := Lib.hid (below1 w (.cells #[.int .i64 0, .slice none 0 0] 36))
    go_wp2_with (first | (go_at_call 66; refine (l01In_any _ _ _ _).mono ?_; rintro e w' ⟨rfl, rfl⟩))
    refine bodyPost_ret (v := .tuple #[.agg #[.int .i64 0, .slice none 0 0], .int .i64 2]) (by simp [results, Try.results32, go_sem]) rfl ⟨none, 0, 0, rfl, Nat.zero_le _, Own.nil _ _, ?_⟩
    exact below1 w _

set_option maxRecDepth 100000 in
set_option maxHeartbeats 1000000 in
theorem implBandOf_no (n t s : Int) (h : ¬ okBand n t s) (w : World) :
    Calls Try.prog 33 #[.int .i64 n, .int .i64 t, .int .i64 s] w (RetBraid w 0 [] 2) := by
  by_cases t1 : n < 2
  · clear h
    go_enter Try.func33, Try.ntmps33
    have Z := Lib.hid (At2.new w (.int .i64 0) (.slice none 0 0) 36)
    have BB := Lib.hid (below1 w (.cells #[.int .i64 0, .slice none 0 0] 36))
    go_wp2
    refine bodyPost_ret (v := .tuple #[.agg #[.int .i64 0, .slice none 0 0], .int .i64 2]) (by simp [results, Try.results33, go_sem]) rfl ⟨none, 0, 0, rfl, Nat.zero_le _, Own.nil _ _, ?_⟩
    exact below1 w _
  · by_cases t2 : n > 8
    · clear h
      go_enter Try.func33, Try.ntmps33
      have Z := Lib.hid (At2.new w (.int .i64 0) (.slice none 0 0) 36)
      have BB := Lib.hid (below1 w (.cells #[.int .i64 0, .slice none 0 0] 36))
      go_wp2
      refine bodyPost_ret (v := .tuple #[.agg #[.int .i64 0, .slice none 0 0], .int .i64 2]) (by simp [results, Try.results33, go_sem]) rfl ⟨none, 0, 0, rfl, Nat.zero_le _, Own.nil _ _, ?_⟩
      exact below1 w _
    · by_cases t3 : s < 0
      · clear h
        go_enter Try.func33, Try.ntmps33
        have Z := Lib.hid (At2.new w (.int .i64 0) (.slice none 0 0) 36)
        have BB := Lib.hid (below1 w (.cells #[.int .i64 0, .slice none 0 0] 36))
        go_wp2
        refine bodyPost_ret (v := .tuple #[.agg #[.int .i64 0, .slice none 0 0], .int .i64 2]) (by simp [results, Try.results33, go_sem]) rfl ⟨none, 0, 0, rfl, Nat.zero_le _, Own.nil _ _, ?_⟩
        exact below1 w _
      · by_cases t4 : t ≤ s
        · clear h
          go_enter Try.func33, Try.ntmps33
          have Z := Lib.hid (At2.new w (.int .i64 0) (.slice none 0 0) 36)
          have BB := Lib.hid (below1 w (.cells #[.int .i64 0, .slice none 0 0] 36))
          go_wp2
          refine bodyPost_ret (v := .tuple #[.agg #[.int .i64 0, .slice none 0 0], .int .i64 2]) (by simp [results, Try.results33, go_sem]) rfl ⟨none, 0, 0, rfl, Nat.zero_le _, Own.nil _ _, ?_⟩
          exact below1 w _
        · have t5 : t ≥ n := by unfold okBand at h; omega
          clear h
          go_enter Try.func33, Try.ntmps33
          have Z := Lib.hid (At2.new w (.int .i64 0) (.slice none 0 0) 36)
          have BB := Lib.hid (below1 w (.cells #[.int .i64 0, .slice none 0 0] 36))
          go_wp2
          refine bodyPost_ret (v := .tuple #[.agg #[.int .i64 0, .slice none 0 0], .int .i64 2]) (by simp [results, Try.results33, go_sem]) rfl ⟨none, 0, 0, rfl, Nat.zero_le _, Own.nil _ _, ?_⟩
          exact below1 w _

theorem specBandOf_any {n t s : Int} {w : World} {fs : Int} {fxs : List Int} {fc : Int} (_h0 : (Lit.int .i64 n).wf = true) (_h1 : (Lit.int .i64 t).wf = true) (_h2 : (Lit.int .i64 s).wf = true) (hM : mBandOf n t s = (fs, fxs, fc)) :
    Calls Try.prog 32 #[.int .i64 n, .int .i64 t, .int .i64 s] w (RetBraid w fs fxs fc) := by
  by_cases h : okBand n t s
  · simp only [mBandOf, if_pos h, Prod.mk.injEq] at hM
    obtain ⟨rfl, rfl, rfl⟩ := hM
    obtain ⟨⟨g1, g2⟩, ⟨g3, g4⟩, g5, g6⟩ := h
    obtain ⟨t', rfl⟩ : ∃ k : Nat, t = k := ⟨t.toNat, by omega⟩
    obtain ⟨s', rfl⟩ : ∃ k : Nat, s = k := ⟨s.toNat, by omega⟩
    rw [Int.toNat_natCast, Int.toNat_natCast]
    exact specBandOf_yes n t' s' g1 g2 (by omega) (by omega) w
  · simp only [mBandOf, if_neg h, Prod.mk.injEq] at hM
    obtain ⟨rfl, rfl, rfl⟩ := hM
    exact specBandOf_no n t s h w

theorem implBandOf_any {n t s : Int} {w : World} {fs : Int} {fxs : List Int} {fc : Int} (_h0 : (Lit.int .i64 n).wf = true) (_h1 : (Lit.int .i64 t).wf = true) (_h2 : (Lit.int .i64 s).wf = true) (hM : mBandOf n t s = (fs, fxs, fc)) :
    Calls Try.prog 33 #[.int .i64 n, .int .i64 t, .int .i64 s] w (RetBraid w fs fxs fc) := by
  by_cases h : okBand n t s
  · simp only [mBandOf, if_pos h, Prod.mk.injEq] at hM
    obtain ⟨rfl, rfl, rfl⟩ := hM
    obtain ⟨⟨g1, g2⟩, ⟨g3, g4⟩, g5, g6⟩ := h
    obtain ⟨t', rfl⟩ : ∃ k : Nat, t = k := ⟨t.toNat, by omega⟩
    obtain ⟨s', rfl⟩ : ∃ k : Nat, s = k := ⟨s.toNat, by omega⟩
    rw [Int.toNat_natCast, Int.toNat_natCast]
    exact implBandOf_yes n t' s' g1 g2 (by omega) (by omega) w
  · simp only [mBandOf, if_neg h, Prod.mk.injEq] at hM
    obtain ⟨rfl, rfl, rfl⟩ := hM
    exact implBandOf_no n t s h w

end Go.Proofs.Ythelncibpoijoaa
