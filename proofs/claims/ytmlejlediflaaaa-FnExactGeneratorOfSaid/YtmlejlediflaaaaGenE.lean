/- GeneratorOf: the model's answer, the program's. -/
import Derived.Test.YtmlejlediflaaaaGenr
import Derived.Test.YtmlejlediflaaaaQA
import Derived.Deep.DeepCutAuto
namespace Go.Proofs.Ytmlejlediflaaaa
open Go.RowKit Go.ChangeShapes

/-- The numbers of a generator. -/
def okGen (n t s : Int) : Prop := (2 ≤ n ∧ n ≤ 8) ∧ (1 ≤ t ∧ t ≤ n - 1) ∧ 0 ≤ s ∧ s ≤ t - 1
instance (n t s : Int) : Decidable (okGen n t s) := by unfold okGen; infer_instance

/-- What GeneratorOf gives. -/
def mGenOf (n s t : Int) : Int × List Int × Int := if okGen n t s then (n, genL t.toNat s.toNat, 0) else (0, [], 2)

set_option maxRecDepth 100000 in
set_option maxHeartbeats 1000000 in
theorem specGen_yes (n : Int) (t s : Nat) (h1 : 2 ≤ n) (h2 : n ≤ 8) (h3 : (t : Int) < n) (hs : s < t) (w : World) :
    Calls Try.prog 17 #[.int .i64 n, .int .i64 s, .int .i64 t] w (RetBraid w n (genL t s) 0) := by
  have ht : t < 8 := by omega
  have t1 : inB n 2 8 = true := (inB_iff _ _ _).2 ⟨h1, h2⟩
  have t2 : inB (t : Int) 1 (n - 1) = true := (inB_iff _ _ _).2 ⟨by omega, by omega⟩
  have t3 : inB (s : Int) 0 ((t : Int) - 1) = true := (inB_iff _ _ _).2 ⟨by omega, by omega⟩
  have w1 : IntKind.i64.wrap (n - 1) = n - 1 := IntWalk.i64_in _ (by omega)
  have w2 : IntKind.i64.wrap ((t : Int) - 1) = (t : Int) - 1 := IntWalk.i64_in _ (by omega)
  go_enter Try.func17, Try.ntmps17
  have Z := Lib.hid (At2.new w (.int .i64 0) (.slice none 0 0) 24)
  have BB := Lib.hid (below1 w (.cells #[.int .i64 0, .slice none 0 0] 24))
  go_wp2_with (first | (go_at_call 59; refine (l01In_any _ _ _ _).mono ?_; rintro e w' ⟨rfl, rfl⟩))
  refine (l10Generator_any t s hs ht _).mono ?_
  rintro e w1 ⟨a1, c1, rfl, ho, hb⟩
  have P1 : Hid (OwnIn (w.heap.size + 1) w1.heap.size w1 a1 (genL t s).length c1 (genL t s)) := Lib.hid (by simpa using ho.within); clear ho
  replace Z := Lib.hid (Z.out.below hb)
  have z1 : w.heap.size + 1 ≤ w1.heap.size := by have := hb.size; simp at this; omega
  replace BB := Lib.hid (below_go BB.out hb (by first | omega | (simp; done) | (simp; omega)))
  clear hb
  have hl := genL_len t s
  obtain ⟨l, hll⟩ : ∃ l, l = (genL t s).length := ⟨_, rfl⟩
  rw [← hll] at P1 hl ⊢
  clear hll
  have hl16 : l ≤ 16 := by omega
  clear hl
  obtain ⟨qZ1, qZ2, qZ3, qZ4, qZ5⟩ := Z.out
  go_wp2
  obtain ⟨_, e2, e3, _, _⟩ := Z.out.fill (.int .i64 n) (.slice a1 l c1)
  refine bodyPost_ret (v := .tuple #[.agg #[.int .i64 n, .slice a1 l c1], .int .i64 0]) (by simp [results, Try.results17, go_sem, e2, e3]) rfl ⟨a1, _, c1, rfl, by omega, ?_, ?_⟩
  · exact ((P1.out.1.setCell_below (by first | (simp; done) | (simp; omega)) _).setCell_below (by first | (simp; done) | (simp; omega)) _).mono (by omega)
  · exact (BB.out.setCell (p := ⟨w.heap.size, 0, none⟩) (by simp) _).setCell (p := ⟨w.heap.size, 1, none⟩) (by simp) _

set_option maxRecDepth 100000 in
set_option maxHeartbeats 1000000 in
theorem implGen_yes (n : Int) (t s : Nat) (h1 : 2 ≤ n) (h2 : n ≤ 8) (h3 : (t : Int) < n) (hs : s < t) (w : World) :
    Calls Try.prog 18 #[.int .i64 n, .int .i64 s, .int .i64 t] w (RetBraid w n (genL t s) 0) := by
  have ht : t < 8 := by omega
  have t1 : ¬ n < 2 := by omega
  have t2 : ¬ n > 8 := by omega
  have t3 : ¬ (s : Int) < 0 := by omega
  have t4 : ¬ (s : Int) ≥ t := by omega
  have t5 : ¬ (t : Int) ≥ n := by omega
  go_enter Try.func18, Try.ntmps18
  have Z := Lib.hid (At2.new w (.int .i64 0) (.slice none 0 0) 24)
  have BB := Lib.hid (below1 w (.cells #[.int .i64 0, .slice none 0 0] 24))
  go_wp2_with fail
  refine (generator_any n t s hs ht _).mono ?_
  rintro e w1 ⟨a1, l, c1, rfl, ho, hb⟩
  have hl16 : l ≤ 16 := by have h1 := ho.len; rw [genL_len] at h1; omega
  have P1 : Hid (OwnIn (w.heap.size + 1) w1.heap.size w1 a1 l c1 (genL t s)) := Lib.hid (by simpa using ho.within); clear ho
  replace Z := Lib.hid (Z.out.below hb)
  have z1 : w.heap.size + 1 ≤ w1.heap.size := by have := hb.size; simp at this; omega
  replace BB := Lib.hid (below_go BB.out hb (by first | omega | (simp; done) | (simp; omega)))
  clear hb
  obtain ⟨qZ1, qZ2, qZ3, qZ4, qZ5⟩ := Z.out
  go_wp2
  obtain ⟨_, e2, e3, _, _⟩ := Z.out.fill (.int .i64 n) (.slice a1 l c1)
  refine bodyPost_ret (v := .tuple #[.agg #[.int .i64 n, .slice a1 l c1], .int .i64 0]) (by simp [results, Try.results18, go_sem, e2, e3]) rfl ⟨a1, _, c1, rfl, by omega, ?_, ?_⟩
  · exact ((P1.out.1.setCell_below (by first | (simp; done) | (simp; omega)) _).setCell_below (by first | (simp; done) | (simp; omega)) _).mono (by omega)
  · exact (BB.out.setCell (p := ⟨w.heap.size, 0, none⟩) (by simp) _).setCell (p := ⟨w.heap.size, 1, none⟩) (by simp) _

set_option maxRecDepth 100000 in
set_option maxHeartbeats 1000000 in
theorem specGen_no (n t s : Int) (h : ¬ okGen n t s) (w : World) :
    Calls Try.prog 17 #[.int .i64 n, .int .i64 s, .int .i64 t] w (RetBraid w 0 [] 2) := by
  by_cases h1 : 2 ≤ n ∧ n ≤ 8
  · have t1 : inB n 2 8 = true := (inB_iff _ _ _).2 h1
    have w1 : IntKind.i64.wrap (n - 1) = n - 1 := IntWalk.i64_in _ (by omega)
    by_cases h2 : 1 ≤ t ∧ t ≤ n - 1
    · have t2 : inB t 1 (n - 1) = true := (inB_iff _ _ _).2 h2
      have w2 : IntKind.i64.wrap (t - 1) = t - 1 := IntWalk.i64_in _ (by omega)
      have t3 : inB s 0 (t - 1) = false := (inB_not _ _ _).2 (by unfold okGen at h; omega)
      clear h
      go_enter Try.func17, Try.ntmps17
      have Z := Lib.hid (At2.new w (.int .i64 0) (.slice none 0 0) 24)
      have BB := Lib.hid (below1 w (.cells #[.int .i64 0, .slice none 0 0] 24))
      go_wp2_with (first | (go_at_call 59; refine (l01In_any _ _ _ _).mono ?_; rintro e w' ⟨rfl, rfl⟩))
      refine bodyPost_ret (v := .tuple #[.agg #[.int .i64 0, .slice none 0 0], .int .i64 2]) (by simp [results, Try.results17, go_sem]) rfl ⟨none, 0, 0, rfl, Nat.zero_le _, Own.nil _ _, ?_⟩
      exact below1 w _
    · have t2 : inB t 1 (n - 1) = false := (inB_not _ _ _).2 (by omega)
      clear h
      go_enter Try.func17, Try.ntmps17
      have Z := Lib.hid (At2.new w (.int .i64 0) (.slice none 0 0) 24)
      have BB := Lib.hid (below1 w (.cells #[.int .i64 0, .slice none 0 0] 24))
      go_wp2_with (first | (go_at_call 59; refine (l01In_any _ _ _ _).mono ?_; rintro e w' ⟨rfl, rfl⟩))
      refine bodyPost_ret (v := .tuple #[.agg #[.int .i64 0, .slice none 0 0], .int .i64 2]) (by simp [results, Try.results17, go_sem]) rfl ⟨none, 0, 0, rfl, Nat.zero_le _, Own.nil _ _, ?_⟩
      exact below1 w _
  · have t1 : inB n 2 8 = false := (inB_not _ _ _).2 (by omega)
    clear h
    go_enter Try.func17, Try.ntmps17
    have Z := Lib.hid (At2.new w (.int .i64 0) (.slice none 0 0) 24)
    have BB := Lib.hid (below1 w (.cells #[.int .i64 0, .slice none 0 0] 24))
    go_wp2_with (first | (go_at_call 59; refine (l01In_any _ _ _ _).mono ?_; rintro e w' ⟨rfl, rfl⟩))
    refine bodyPost_ret (v := .tuple #[.agg #[.int .i64 0, .slice none 0 0], .int .i64 2]) (by simp [results, Try.results17, go_sem]) rfl ⟨none, 0, 0, rfl, Nat.zero_le _, Own.nil _ _, ?_⟩
    exact below1 w _

set_option maxRecDepth 100000 in
set_option maxHeartbeats 1000000 in
theorem implGen_no (n t s : Int) (h : ¬ okGen n t s) (w : World) :
    Calls Try.prog 18 #[.int .i64 n, .int .i64 s, .int .i64 t] w (RetBraid w 0 [] 2) := by
  by_cases t1 : n < 2
  · clear h
    go_enter Try.func18, Try.ntmps18
    have Z := Lib.hid (At2.new w (.int .i64 0) (.slice none 0 0) 24)
    have BB := Lib.hid (below1 w (.cells #[.int .i64 0, .slice none 0 0] 24))
    go_wp2
    refine bodyPost_ret (v := .tuple #[.agg #[.int .i64 0, .slice none 0 0], .int .i64 2]) (by simp [results, Try.results18, go_sem]) rfl ⟨none, 0, 0, rfl, Nat.zero_le _, Own.nil _ _, ?_⟩
    exact below1 w _
  · by_cases t2 : n > 8
    · clear h
      go_enter Try.func18, Try.ntmps18
      have Z := Lib.hid (At2.new w (.int .i64 0) (.slice none 0 0) 24)
      have BB := Lib.hid (below1 w (.cells #[.int .i64 0, .slice none 0 0] 24))
      go_wp2
      refine bodyPost_ret (v := .tuple #[.agg #[.int .i64 0, .slice none 0 0], .int .i64 2]) (by simp [results, Try.results18, go_sem]) rfl ⟨none, 0, 0, rfl, Nat.zero_le _, Own.nil _ _, ?_⟩
      exact below1 w _
    · by_cases t3 : s < 0
      · clear h
        go_enter Try.func18, Try.ntmps18
        have Z := Lib.hid (At2.new w (.int .i64 0) (.slice none 0 0) 24)
        have BB := Lib.hid (below1 w (.cells #[.int .i64 0, .slice none 0 0] 24))
        go_wp2
        refine bodyPost_ret (v := .tuple #[.agg #[.int .i64 0, .slice none 0 0], .int .i64 2]) (by simp [results, Try.results18, go_sem]) rfl ⟨none, 0, 0, rfl, Nat.zero_le _, Own.nil _ _, ?_⟩
        exact below1 w _
      · by_cases t4 : s ≥ t
        · clear h
          go_enter Try.func18, Try.ntmps18
          have Z := Lib.hid (At2.new w (.int .i64 0) (.slice none 0 0) 24)
          have BB := Lib.hid (below1 w (.cells #[.int .i64 0, .slice none 0 0] 24))
          go_wp2
          refine bodyPost_ret (v := .tuple #[.agg #[.int .i64 0, .slice none 0 0], .int .i64 2]) (by simp [results, Try.results18, go_sem]) rfl ⟨none, 0, 0, rfl, Nat.zero_le _, Own.nil _ _, ?_⟩
          exact below1 w _
        · have t5 : t ≥ n := by unfold okGen at h; omega
          clear h
          go_enter Try.func18, Try.ntmps18
          have Z := Lib.hid (At2.new w (.int .i64 0) (.slice none 0 0) 24)
          have BB := Lib.hid (below1 w (.cells #[.int .i64 0, .slice none 0 0] 24))
          go_wp2
          refine bodyPost_ret (v := .tuple #[.agg #[.int .i64 0, .slice none 0 0], .int .i64 2]) (by simp [results, Try.results18, go_sem]) rfl ⟨none, 0, 0, rfl, Nat.zero_le _, Own.nil _ _, ?_⟩
          exact below1 w _

theorem specGen_any {n s t : Int} {w : World} {fs : Int} {fxs : List Int} {fc : Int} (_h0 : (Lit.int .i64 n).wf = true) (_h1 : (Lit.int .i64 s).wf = true) (_h2 : (Lit.int .i64 t).wf = true) (hM : mGenOf n s t = (fs, fxs, fc)) :
    Calls Try.prog 17 #[.int .i64 n, .int .i64 s, .int .i64 t] w (RetBraid w fs fxs fc) := by
  by_cases h : okGen n t s
  · simp only [mGenOf, if_pos h, Prod.mk.injEq] at hM
    obtain ⟨rfl, rfl, rfl⟩ := hM
    obtain ⟨⟨g1, g2⟩, ⟨g3, g4⟩, g5, g6⟩ := h
    obtain ⟨t', rfl⟩ : ∃ k : Nat, t = k := ⟨t.toNat, by omega⟩
    obtain ⟨s', rfl⟩ : ∃ k : Nat, s = k := ⟨s.toNat, by omega⟩
    rw [Int.toNat_natCast, Int.toNat_natCast]
    exact specGen_yes n t' s' g1 g2 (by omega) (by omega) w
  · simp only [mGenOf, if_neg h, Prod.mk.injEq] at hM
    obtain ⟨rfl, rfl, rfl⟩ := hM
    exact specGen_no n t s h w

theorem implGen_any {n s t : Int} {w : World} {fs : Int} {fxs : List Int} {fc : Int} (_h0 : (Lit.int .i64 n).wf = true) (_h1 : (Lit.int .i64 s).wf = true) (_h2 : (Lit.int .i64 t).wf = true) (hM : mGenOf n s t = (fs, fxs, fc)) :
    Calls Try.prog 18 #[.int .i64 n, .int .i64 s, .int .i64 t] w (RetBraid w fs fxs fc) := by
  by_cases h : okGen n t s
  · simp only [mGenOf, if_pos h, Prod.mk.injEq] at hM
    obtain ⟨rfl, rfl, rfl⟩ := hM
    obtain ⟨⟨g1, g2⟩, ⟨g3, g4⟩, g5, g6⟩ := h
    obtain ⟨t', rfl⟩ : ∃ k : Nat, t = k := ⟨t.toNat, by omega⟩
    obtain ⟨s', rfl⟩ : ∃ k : Nat, s = k := ⟨s.toNat, by omega⟩
    rw [Int.toNat_natCast, Int.toNat_natCast]
    exact implGen_yes n t' s' g1 g2 (by omega) (by omega) w
  · simp only [mGenOf, if_neg h, Prod.mk.injEq] at hM
    obtain ⟨rfl, rfl, rfl⟩ := hM
    exact implGen_no n t s h w

end Go.Proofs.Ytmlejlediflaaaa
