/- ForgetStrand, the exported functions. -/
import Derived.Test.YtmlejlediflaaaaSFor
namespace Go.Proofs.Ytmlejlediflaaaa
open Go.RowKit Go.ChangeShapes

set_option maxRecDepth 100000 in
set_option maxHeartbeats 1000000 in
theorem implForget_any {s : Int} {a : Option Addr} {n cap : Nat} {xs : List Int} {x : Int} {w : World} {fs : Int} {fxs : List Int} {fc : Int} (hr : Reads w a n xs) (hf : Fits xs) (hn : n ≤ 1048576) (hx : (Lit.int .i64 x).wf = true) (hM : mForget s xs x = (fs, fxs, fc)) :
    Calls Try.prog 40 #[.agg #[.int .i64 s, .slice a n cap], .int .i64 x] w (RetBraid w fs fxs fc) := by
  have R := Lib.hid hr; clear hr
  have HF := Lib.hid hf; clear hf
  have HX := Lib.hid hx; clear hx
  by_cases hbr : isBraid s xs = true
  · have HLS := Lib.hid (letts_of_isBraid hbr)
    have g1 := lo_of_isBraid _ _ hbr
    have g2 := hi_of_isBraid _ _ hbr
    have HLEN := Lib.hid (len_of_isBraid _ _ hbr)
    by_cases hkk : (0 ≤ x ∧ x < s) ∧ 2 ≤ s
    · simp only [mForget, if_pos hbr, if_pos hkk, Prod.mk.injEq] at hM
      obtain ⟨rfl, rfl, rfl⟩ := hM
      obtain ⟨⟨k1, k2⟩, k3⟩ := hkk
      have d1 : ¬ x < 0 := by omega
      have d2 : ¬ x ≥ s := by omega
      have d3 : ¬ s < 2 := by omega
      go_enter Try.func40, Try.ntmps40
      replace R := Lib.hid ((R.out.alloc (.cells #[.int .i64 s, .slice a n cap] 24)).alloc (.cells #[.int .i64 0, .slice none 0 0] 24))
      have A := Lib.hid ((At2.new w (.int .i64 s) (.slice a n cap) 24).alloc (.cells #[.int .i64 0, .slice none 0 0] 24))
      have Z := Lib.hid (At2.place (w.alloc (.cells #[.int .i64 s, .slice a n cap] 24)) (.int .i64 0) (.slice none 0 0) 24 (w.heap.size + 1) (by simp))
      have BB := Lib.hid (below2 w (.cells #[.int .i64 s, .slice a n cap] 24) (.cells #[.int .i64 0, .slice none 0 0] 24))
      obtain ⟨qA1, qA2, qA3, qA4, qA5⟩ := A.out
      go_wp2_with fail
      refine (implIsBraid_any s a n cap xs _ R.out hn).mono ?_
      rintro e w1 ⟨rfl, hb⟩
      clear qA1 qA2 qA3 qA4 qA5
      replace R := Lib.hid (R.out.below hb)
      replace A := Lib.hid (A.out.below hb)
      replace Z := Lib.hid (Z.out.below hb)
      replace BB := Lib.hid (below_go BB.out hb BB.out.size)
      clear hb
      obtain ⟨qA1, qA2, qA3, qA4, qA5⟩ := A.out
      go_wp2_with fail
      refine (forgotten_any s a n cap xs x _ R.out hn (by omega) HLS.out k1 k2).mono ?_
      rintro e w2 ⟨a2, n2, c2, rfl, ho, hb⟩
      have hl2 : n2 ≤ 1048576 := by have h1 := ho.len; have h2 := forgetL_len x xs; have := HLEN.out; omega
      have O2 : Hid (Own (w.heap.size + 1 + 1) w2 a2 n2 c2 (forgetL x xs)) := Lib.hid (ho.mono (by have := Z.out.1; omega))
      clear ho
      clear qA1 qA2 qA3 qA4 qA5
      replace R := Lib.hid (R.out.below hb)
      replace A := Lib.hid (A.out.below hb)
      replace Z := Lib.hid (Z.out.below hb)
      replace BB := Lib.hid (below_go BB.out hb BB.out.size)
      clear hb
      obtain ⟨qA1, qA2, qA3, qA4, qA5⟩ := A.out
      clear qA1 qA2 qA3 qA4 qA5
      obtain ⟨qZ1, qZ2, qZ3, qZ4, qZ5⟩ := Z.out
      go_wp2
      obtain ⟨_, e2, e3, _, _⟩ := Z.out.fill (.int .i64 (s - 1)) (.slice a2 n2 c2)
      refine bodyPost_ret (v := .tuple #[.agg #[.int .i64 (s - 1), .slice a2 n2 c2], .int .i64 0]) (by simp [results, Try.results40, go_sem, e2, e3]) rfl ⟨a2, n2, c2, rfl, hl2, ?_, ?_⟩
      · exact ((O2.out.setCell_below (by simp) _).setCell_below (by simp) _).mono (by omega)
      · exact (BB.out.setCell (p := ⟨w.heap.size + 1, 0, none⟩) (by simp) _).setCell (p := ⟨w.heap.size + 1, 1, none⟩) (by simp) _
    · simp only [mForget, if_pos hbr, if_neg hkk, Prod.mk.injEq] at hM
      obtain ⟨rfl, rfl, rfl⟩ := hM
      by_cases d1 : x < 0
      · clear hkk
        go_enter Try.func40, Try.ntmps40
        replace R := Lib.hid ((R.out.alloc (.cells #[.int .i64 s, .slice a n cap] 24)).alloc (.cells #[.int .i64 0, .slice none 0 0] 24))
        have A := Lib.hid ((At2.new w (.int .i64 s) (.slice a n cap) 24).alloc (.cells #[.int .i64 0, .slice none 0 0] 24))
        have Z := Lib.hid (At2.place (w.alloc (.cells #[.int .i64 s, .slice a n cap] 24)) (.int .i64 0) (.slice none 0 0) 24 (w.heap.size + 1) (by simp))
        have BB := Lib.hid (below2 w (.cells #[.int .i64 s, .slice a n cap] 24) (.cells #[.int .i64 0, .slice none 0 0] 24))
        obtain ⟨qA1, qA2, qA3, qA4, qA5⟩ := A.out
        go_wp2_with fail
        refine (implIsBraid_any s a n cap xs _ R.out hn).mono ?_
        rintro e w1 ⟨rfl, hb⟩
        clear qA1 qA2 qA3 qA4 qA5
        replace R := Lib.hid (R.out.below hb)
        replace A := Lib.hid (A.out.below hb)
        replace Z := Lib.hid (Z.out.below hb)
        replace BB := Lib.hid (below_go BB.out hb BB.out.size)
        clear hb
        obtain ⟨qA1, qA2, qA3, qA4, qA5⟩ := A.out
        obtain ⟨qZ1, qZ2, qZ3, qZ4, qZ5⟩ := Z.out
        go_wp2
        obtain ⟨_, e2, e3, _, _⟩ := Z.out.fill (.int .i64 0) (.slice none 0 0)
        refine bodyPost_ret (v := .tuple #[.agg #[.int .i64 0, .slice none 0 0], .int .i64 2]) (by simp [results, Try.results40, go_sem, e2, e3]) rfl ⟨none, 0, 0, rfl, Nat.zero_le _, Own.nil _ _, ?_⟩
        exact (BB.out.setCell (p := ⟨w.heap.size + 1, 0, none⟩) (by simp) _).setCell (p := ⟨w.heap.size + 1, 1, none⟩) (by simp) _
      · by_cases d2 : x ≥ s
        · clear hkk
          go_enter Try.func40, Try.ntmps40
          replace R := Lib.hid ((R.out.alloc (.cells #[.int .i64 s, .slice a n cap] 24)).alloc (.cells #[.int .i64 0, .slice none 0 0] 24))
          have A := Lib.hid ((At2.new w (.int .i64 s) (.slice a n cap) 24).alloc (.cells #[.int .i64 0, .slice none 0 0] 24))
          have Z := Lib.hid (At2.place (w.alloc (.cells #[.int .i64 s, .slice a n cap] 24)) (.int .i64 0) (.slice none 0 0) 24 (w.heap.size + 1) (by simp))
          have BB := Lib.hid (below2 w (.cells #[.int .i64 s, .slice a n cap] 24) (.cells #[.int .i64 0, .slice none 0 0] 24))
          obtain ⟨qA1, qA2, qA3, qA4, qA5⟩ := A.out
          go_wp2_with fail
          refine (implIsBraid_any s a n cap xs _ R.out hn).mono ?_
          rintro e w1 ⟨rfl, hb⟩
          clear qA1 qA2 qA3 qA4 qA5
          replace R := Lib.hid (R.out.below hb)
          replace A := Lib.hid (A.out.below hb)
          replace Z := Lib.hid (Z.out.below hb)
          replace BB := Lib.hid (below_go BB.out hb BB.out.size)
          clear hb
          obtain ⟨qA1, qA2, qA3, qA4, qA5⟩ := A.out
          obtain ⟨qZ1, qZ2, qZ3, qZ4, qZ5⟩ := Z.out
          go_wp2
          obtain ⟨_, e2, e3, _, _⟩ := Z.out.fill (.int .i64 0) (.slice none 0 0)
          refine bodyPost_ret (v := .tuple #[.agg #[.int .i64 0, .slice none 0 0], .int .i64 2]) (by simp [results, Try.results40, go_sem, e2, e3]) rfl ⟨none, 0, 0, rfl, Nat.zero_le _, Own.nil _ _, ?_⟩
          exact (BB.out.setCell (p := ⟨w.heap.size + 1, 0, none⟩) (by simp) _).setCell (p := ⟨w.heap.size + 1, 1, none⟩) (by simp) _
        · have d3 : s < 2 := by omega
          clear hkk
          go_enter Try.func40, Try.ntmps40
          replace R := Lib.hid ((R.out.alloc (.cells #[.int .i64 s, .slice a n cap] 24)).alloc (.cells #[.int .i64 0, .slice none 0 0] 24))
          have A := Lib.hid ((At2.new w (.int .i64 s) (.slice a n cap) 24).alloc (.cells #[.int .i64 0, .slice none 0 0] 24))
          have Z := Lib.hid (At2.place (w.alloc (.cells #[.int .i64 s, .slice a n cap] 24)) (.int .i64 0) (.slice none 0 0) 24 (w.heap.size + 1) (by simp))
          have BB := Lib.hid (below2 w (.cells #[.int .i64 s, .slice a n cap] 24) (.cells #[.int .i64 0, .slice none 0 0] 24))
          obtain ⟨qA1, qA2, qA3, qA4, qA5⟩ := A.out
          go_wp2_with fail
          refine (implIsBraid_any s a n cap xs _ R.out hn).mono ?_
          rintro e w1 ⟨rfl, hb⟩
          clear qA1 qA2 qA3 qA4 qA5
          replace R := Lib.hid (R.out.below hb)
          replace A := Lib.hid (A.out.below hb)
          replace Z := Lib.hid (Z.out.below hb)
          replace BB := Lib.hid (below_go BB.out hb BB.out.size)
          clear hb
          obtain ⟨qA1, qA2, qA3, qA4, qA5⟩ := A.out
          obtain ⟨qZ1, qZ2, qZ3, qZ4, qZ5⟩ := Z.out
          go_wp2
          obtain ⟨_, e2, e3, _, _⟩ := Z.out.fill (.int .i64 0) (.slice none 0 0)
          refine bodyPost_ret (v := .tuple #[.agg #[.int .i64 0, .slice none 0 0], .int .i64 2]) (by simp [results, Try.results40, go_sem, e2, e3]) rfl ⟨none, 0, 0, rfl, Nat.zero_le _, Own.nil _ _, ?_⟩
          exact (BB.out.setCell (p := ⟨w.heap.size + 1, 0, none⟩) (by simp) _).setCell (p := ⟨w.heap.size + 1, 1, none⟩) (by simp) _
  · have hb0 : isBraid s xs = false := by simpa using hbr
    simp only [mForget, if_neg hbr, Prod.mk.injEq] at hM
    obtain ⟨rfl, rfl, rfl⟩ := hM
    clear hbr
    go_enter Try.func40, Try.ntmps40
    replace R := Lib.hid ((R.out.alloc (.cells #[.int .i64 s, .slice a n cap] 24)).alloc (.cells #[.int .i64 0, .slice none 0 0] 24))
    have A := Lib.hid ((At2.new w (.int .i64 s) (.slice a n cap) 24).alloc (.cells #[.int .i64 0, .slice none 0 0] 24))
    have Z := Lib.hid (At2.place (w.alloc (.cells #[.int .i64 s, .slice a n cap] 24)) (.int .i64 0) (.slice none 0 0) 24 (w.heap.size + 1) (by simp))
    have BB := Lib.hid (below2 w (.cells #[.int .i64 s, .slice a n cap] 24) (.cells #[.int .i64 0, .slice none 0 0] 24))
    obtain ⟨qA1, qA2, qA3, qA4, qA5⟩ := A.out
    go_wp2_with fail
    refine (implIsBraid_any s a n cap xs _ R.out hn).mono ?_
    rintro e w1 ⟨rfl, hb⟩
    clear qA1 qA2 qA3 qA4 qA5
    replace R := Lib.hid (R.out.below hb)
    replace A := Lib.hid (A.out.below hb)
    replace Z := Lib.hid (Z.out.below hb)
    replace BB := Lib.hid (below_go BB.out hb BB.out.size)
    clear hb
    obtain ⟨qA1, qA2, qA3, qA4, qA5⟩ := A.out
    obtain ⟨qZ1, qZ2, qZ3, qZ4, qZ5⟩ := Z.out
    go_wp2
    obtain ⟨_, e2, e3, _, _⟩ := Z.out.fill (.int .i64 0) (.slice none 0 0)
    refine bodyPost_ret (v := .tuple #[.agg #[.int .i64 0, .slice none 0 0], .int .i64 1]) (by simp [results, Try.results40, go_sem, e2, e3]) rfl ⟨none, 0, 0, rfl, Nat.zero_le _, Own.nil _ _, ?_⟩
    exact (BB.out.setCell (p := ⟨w.heap.size + 1, 0, none⟩) (by simp) _).setCell (p := ⟨w.heap.size + 1, 1, none⟩) (by simp) _

set_option maxRecDepth 100000 in
set_option maxHeartbeats 1000000 in
theorem specForget_any {s : Int} {a : Option Addr} {n cap : Nat} {xs : List Int} {x : Int} {w : World} {fs : Int} {fxs : List Int} {fc : Int} (hr : Reads w a n xs) (hf : Fits xs) (hn : n ≤ 1048576) (hx : (Lit.int .i64 x).wf = true) (hM : mForget s xs x = (fs, fxs, fc)) :
    Calls Try.prog 39 #[.agg #[.int .i64 s, .slice a n cap], .int .i64 x] w (RetBraid w fs fxs fc) := by
  have R := Lib.hid hr; clear hr
  have HF := Lib.hid hf; clear hf
  have HX := Lib.hid hx; clear hx
  by_cases hbr : isBraid s xs = true
  · have HLS := Lib.hid (letts_of_isBraid hbr)
    have g1 := lo_of_isBraid _ _ hbr
    have g2 := hi_of_isBraid _ _ hbr
    have HLEN := Lib.hid (len_of_isBraid _ _ hbr)
    by_cases hkk : (0 ≤ x ∧ x < s) ∧ 2 ≤ s
    · simp only [mForget, if_pos hbr, if_pos hkk, Prod.mk.injEq] at hM
      obtain ⟨rfl, rfl, rfl⟩ := hM
      obtain ⟨⟨k1, k2⟩, k3⟩ := hkk
      have d3 : ¬ s < 2 := by omega
      have t1 : inB x 0 (s - 1) = true := (inB_iff _ _ _).2 ⟨by omega, by omega⟩
      have ws : IntKind.i64.wrap (s - 1) = s - 1 := IntWalk.i64_in _ (by omega)
      go_enter Try.func39, Try.ntmps39
      replace R := Lib.hid ((R.out.alloc (.cells #[.int .i64 s, .slice a n cap] 24)).alloc (.cells #[.int .i64 0, .slice none 0 0] 24))
      have A := Lib.hid ((At2.new w (.int .i64 s) (.slice a n cap) 24).alloc (.cells #[.int .i64 0, .slice none 0 0] 24))
      have Z := Lib.hid (At2.place (w.alloc (.cells #[.int .i64 s, .slice a n cap] 24)) (.int .i64 0) (.slice none 0 0) 24 (w.heap.size + 1) (by simp))
      have BB := Lib.hid (below2 w (.cells #[.int .i64 s, .slice a n cap] 24) (.cells #[.int .i64 0, .slice none 0 0] 24))
      obtain ⟨qA1, qA2, qA3, qA4, qA5⟩ := A.out
      go_wp2_with fail
      refine (l01Is_any s a n cap xs _ R.out HF.out hn).mono ?_
      rintro e w1 ⟨rfl, hb⟩
      clear qA1 qA2 qA3 qA4 qA5
      replace R := Lib.hid (R.out.below hb)
      replace A := Lib.hid (A.out.below hb)
      replace Z := Lib.hid (Z.out.below hb)
      replace BB := Lib.hid (below_go BB.out hb BB.out.size)
      clear hb
      obtain ⟨qA1, qA2, qA3, qA4, qA5⟩ := A.out
      go_wp2_with (go_at_call 59; refine (l01In_any _ _ _ _).mono ?_; rintro e w' ⟨rfl, rfl⟩)
      go_region_held3 (fun w' => w'.cell? ⟨w.heap.size, 0, none⟩ = some (.int .i64 s) ∧ w'.cell? ⟨w.heap.size, 1, none⟩ = some (.slice a n cap)) (first | with_reducible exact ⟨qA2, qA3⟩ | with_reducible exact ⟨rA2, rA3⟩ | go_keep)
        (first
          | (go_at_call 77; refine (l10Forget_any s a n cap xs x _ R.out.drew hn (by omega) HLS.out k1 k2).mono ?_; rintro e w2 ⟨a2, n2, c2, rfl, hl2, ho, hb⟩; obtain ⟨rA1, rA2, rA3, rA4, rA5⟩ := A.out.drew.below hb; obtain ⟨rZ1, rZ2, rZ3, rZ4, rZ5⟩ := Z.out.drew.below hb))
      go_wp2
      have z1 := Z.out.1
      have z2 : w1.heap.size ≤ w2.heap.size := hb.size
      obtain ⟨_, e2, e3, _, _⟩ := (Z.out.drew.below hb).fill (.int .i64 (s - 1)) (.slice a2 n2 c2)
      refine bodyPost_ret (v := .tuple #[.agg #[.int .i64 (s - 1), .slice a2 n2 c2], .int .i64 0]) (by simp [results, Try.results39, go_sem, e2, e3]) rfl ⟨a2, n2, c2, rfl, by omega, ?_, ?_⟩
      · exact ((ho.setCell_below (by show _ < w1.heap.size; simp; omega) _).setCell_below (by show _ < w1.heap.size; simp; omega) _).mono (by show _ ≤ w1.heap.size; omega)
      · exact ((below_go BB.out.drew hb (by show _ ≤ w1.heap.size; omega)).setCell (p := ⟨w.heap.size + 1, 0, none⟩) (by simp) _).setCell (p := ⟨w.heap.size + 1, 1, none⟩) (by simp) _
    · simp only [mForget, if_pos hbr, if_neg hkk, Prod.mk.injEq] at hM
      obtain ⟨rfl, rfl, rfl⟩ := hM
      have ws : IntKind.i64.wrap (s - 1) = s - 1 := IntWalk.i64_in _ (by omega)
      by_cases d3 : s < 2
      · clear hkk
        go_enter Try.func39, Try.ntmps39
        replace R := Lib.hid ((R.out.alloc (.cells #[.int .i64 s, .slice a n cap] 24)).alloc (.cells #[.int .i64 0, .slice none 0 0] 24))
        have A := Lib.hid ((At2.new w (.int .i64 s) (.slice a n cap) 24).alloc (.cells #[.int .i64 0, .slice none 0 0] 24))
        have Z := Lib.hid (At2.place (w.alloc (.cells #[.int .i64 s, .slice a n cap] 24)) (.int .i64 0) (.slice none 0 0) 24 (w.heap.size + 1) (by simp))
        have BB := Lib.hid (below2 w (.cells #[.int .i64 s, .slice a n cap] 24) (.cells #[.int .i64 0, .slice none 0 0] 24))
        obtain ⟨qA1, qA2, qA3, qA4, qA5⟩ := A.out
        go_wp2_with fail
        refine (l01Is_any s a n cap xs _ R.out HF.out hn).mono ?_
        rintro e w1 ⟨rfl, hb⟩
        clear qA1 qA2 qA3 qA4 qA5
        replace R := Lib.hid (R.out.below hb)
        replace A := Lib.hid (A.out.below hb)
        replace Z := Lib.hid (Z.out.below hb)
        replace BB := Lib.hid (below_go BB.out hb BB.out.size)
        clear hb
        obtain ⟨qA1, qA2, qA3, qA4, qA5⟩ := A.out
        obtain ⟨qZ1, qZ2, qZ3, qZ4, qZ5⟩ := Z.out
        go_wp2
        obtain ⟨_, e2, e3, _, _⟩ := Z.out.fill (.int .i64 0) (.slice none 0 0)
        refine bodyPost_ret (v := .tuple #[.agg #[.int .i64 0, .slice none 0 0], .int .i64 2]) (by simp [results, Try.results39, go_sem, e2, e3]) rfl ⟨none, 0, 0, rfl, Nat.zero_le _, Own.nil _ _, ?_⟩
        exact (BB.out.setCell (p := ⟨w.heap.size + 1, 0, none⟩) (by simp) _).setCell (p := ⟨w.heap.size + 1, 1, none⟩) (by simp) _
      · have t1 : inB x 0 (s - 1) = false := (inB_not _ _ _).2 (by omega)
        clear hkk
        go_enter Try.func39, Try.ntmps39
        replace R := Lib.hid ((R.out.alloc (.cells #[.int .i64 s, .slice a n cap] 24)).alloc (.cells #[.int .i64 0, .slice none 0 0] 24))
        have A := Lib.hid ((At2.new w (.int .i64 s) (.slice a n cap) 24).alloc (.cells #[.int .i64 0, .slice none 0 0] 24))
        have Z := Lib.hid (At2.place (w.alloc (.cells #[.int .i64 s, .slice a n cap] 24)) (.int .i64 0) (.slice none 0 0) 24 (w.heap.size + 1) (by simp))
        have BB := Lib.hid (below2 w (.cells #[.int .i64 s, .slice a n cap] 24) (.cells #[.int .i64 0, .slice none 0 0] 24))
        obtain ⟨qA1, qA2, qA3, qA4, qA5⟩ := A.out
        go_wp2_with fail
        refine (l01Is_any s a n cap xs _ R.out HF.out hn).mono ?_
        rintro e w1 ⟨rfl, hb⟩
        clear qA1 qA2 qA3 qA4 qA5
        replace R := Lib.hid (R.out.below hb)
        replace A := Lib.hid (A.out.below hb)
        replace Z := Lib.hid (Z.out.below hb)
        replace BB := Lib.hid (below_go BB.out hb BB.out.size)
        clear hb
        obtain ⟨qA1, qA2, qA3, qA4, qA5⟩ := A.out
        obtain ⟨qZ1, qZ2, qZ3, qZ4, qZ5⟩ := Z.out
        go_wp2_with (go_at_call 59; refine (l01In_any _ _ _ _).mono ?_; rintro e w' ⟨rfl, rfl⟩)
        obtain ⟨_, e2, e3, _, _⟩ := Z.out.fill (.int .i64 0) (.slice none 0 0)
        refine bodyPost_ret (v := .tuple #[.agg #[.int .i64 0, .slice none 0 0], .int .i64 2]) (by simp [results, Try.results39, go_sem, e2, e3]) rfl ⟨none, 0, 0, rfl, Nat.zero_le _, Own.nil _ _, ?_⟩
        exact (BB.out.setCell (p := ⟨w.heap.size + 1, 0, none⟩) (by simp) _).setCell (p := ⟨w.heap.size + 1, 1, none⟩) (by simp) _
  · have hb0 : isBraid s xs = false := by simpa using hbr
    simp only [mForget, if_neg hbr, Prod.mk.injEq] at hM
    obtain ⟨rfl, rfl, rfl⟩ := hM
    clear hbr
    go_enter Try.func39, Try.ntmps39
    replace R := Lib.hid ((R.out.alloc (.cells #[.int .i64 s, .slice a n cap] 24)).alloc (.cells #[.int .i64 0, .slice none 0 0] 24))
    have A := Lib.hid ((At2.new w (.int .i64 s) (.slice a n cap) 24).alloc (.cells #[.int .i64 0, .slice none 0 0] 24))
    have Z := Lib.hid (At2.place (w.alloc (.cells #[.int .i64 s, .slice a n cap] 24)) (.int .i64 0) (.slice none 0 0) 24 (w.heap.size + 1) (by simp))
    have BB := Lib.hid (below2 w (.cells #[.int .i64 s, .slice a n cap] 24) (.cells #[.int .i64 0, .slice none 0 0] 24))
    obtain ⟨qA1, qA2, qA3, qA4, qA5⟩ := A.out
    go_wp2_with fail
    refine (l01Is_any s a n cap xs _ R.out HF.out hn).mono ?_
    rintro e w1 ⟨rfl, hb⟩
    clear qA1 qA2 qA3 qA4 qA5
    replace R := Lib.hid (R.out.below hb)
    replace A := Lib.hid (A.out.below hb)
    replace Z := Lib.hid (Z.out.below hb)
    replace BB := Lib.hid (below_go BB.out hb BB.out.size)
    clear hb
    obtain ⟨qA1, qA2, qA3, qA4, qA5⟩ := A.out
    obtain ⟨qZ1, qZ2, qZ3, qZ4, qZ5⟩ := Z.out
    go_wp2
    obtain ⟨_, e2, e3, _, _⟩ := Z.out.fill (.int .i64 0) (.slice none 0 0)
    refine bodyPost_ret (v := .tuple #[.agg #[.int .i64 0, .slice none 0 0], .int .i64 1]) (by simp [results, Try.results39, go_sem, e2, e3]) rfl ⟨none, 0, 0, rfl, Nat.zero_le _, Own.nil _ _, ?_⟩
    exact (BB.out.setCell (p := ⟨w.heap.size + 1, 0, none⟩) (by simp) _).setCell (p := ⟨w.heap.size + 1, 1, none⟩) (by simp) _

end Go.Proofs.Ytmlejlediflaaaa
