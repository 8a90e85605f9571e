/- The walk of the law of impl.ConjugateWord: the model's answer and the program's are compared, marks are written into what came back and looked for. -/
import Derived.Test.YtehcbamfendbaaaCnj
import Derived.Test.YtehcbamfendbaaaQA
import Derived.Deep.RegionHeld3
import Derived.Deep.DeepCutAuto
namespace Go.Proofs.Ytehcbamfendbaaa
open Go.RowKit Go.ChangeShapes

set_option maxRecDepth 100000 in
set_option maxHeartbeats 4000000 in
theorem fnExactConjugateWord_walk {s0 : Int} {a0 : Option Addr} {n0 cap0 : Nat} {xs0 : List Int} {s1 : Int} {a1 : Option Addr} {n1 cap1 : Nat} {xs1 : List Int} {w : World} (hr0 : Reads w a0 n0 xs0) (hf0 : Fits xs0) (hn0 : n0 ≤ maxLen) (hs0 : (Lit.int .i64 s0).wf = true) (hr1 : Reads w a1 n1 xs1) (hf1 : Fits xs1) (hn1 : n1 ≤ maxLen) (hs1 : (Lit.int .i64 s1).wf = true) :
    Calls Try.prog 7 #[.agg #[.int .i64 s0, .slice a0 n0 cap0], .agg #[.int .i64 s1, .slice a1 n1 cap1]] w fun e w' => e = .returned (.bool true) ∧ Below w.heap.size w w' := by
  have R0 := Lib.hid hr0.old; clear hr0
  have HF0 := Lib.hid hf0; clear hf0
  have HS0 := Lib.hid hs0; clear hs0
  have R1 := Lib.hid hr1.old; clear hr1
  have HF1 := Lib.hid hf1; clear hf1
  have HS1 := Lib.hid hs1; clear hs1
  by_cases hk0 : n0 ≤ 1048576
  rotate_left
  · go_enter Try.func7, Try.ntmps7
    replace R0 := Lib.hid (R0.out.alloc (.cells #[.int .i64 s0, .slice a0 n0 cap0] 24))
    replace R1 := Lib.hid (R1.out.alloc (.cells #[.int .i64 s0, .slice a0 n0 cap0] 24))
    have A0 := Lib.hid (At2.new w (.int .i64 s0) (.slice a0 n0 cap0) 24)
    have BB := Lib.hid (below1 w (.cells #[.int .i64 s0, .slice a0 n0 cap0] 24))
    replace R0 := Lib.hid (R0.out.alloc (.cells #[.int .i64 s1, .slice a1 n1 cap1] 24))
    replace R1 := Lib.hid (R1.out.alloc (.cells #[.int .i64 s1, .slice a1 n1 cap1] 24))
    replace A0 := Lib.hid (A0.out.alloc (.cells #[.int .i64 s1, .slice a1 n1 cap1] 24))
    have A1 := Lib.hid (At2.place (w.alloc (.cells #[.int .i64 s0, .slice a0 n0 cap0] 24)) (.int .i64 s1) (.slice a1 n1 cap1) 24 (w.heap.size + 1) (by simp))
    replace BB := Lib.hid (BB.out.alloc (by first | omega | (simp; done) | (simp; omega)) (.cells #[.int .i64 s1, .slice a1 n1 cap1] 24))
    go_wp2_with fail
    refine (szBraid_big _ _ _ _ _ _ (by omega) (by omega) hn0).mono ?_
    rintro e w1 ⟨rfl, hb⟩
    replace R0 := Lib.hid (R0.out.below hb)
    replace R1 := Lib.hid (R1.out.below hb)
    replace A0 := Lib.hid (A0.out.below hb)
    replace A1 := Lib.hid (A1.out.below hb)
    have z1 : w.heap.size + 2 ≤ w1.heap.size := by have := hb.size; simp at this; omega
    replace BB := Lib.hid (below_go BB.out hb (by first | omega | (simp; done) | (simp; omega)))
    clear hb
    go_wp2
    go_ret
    exact ⟨rfl, BB.out⟩
  by_cases hk1 : n0 + n1 ≤ 1048576
  rotate_left
  · go_enter Try.func7, Try.ntmps7
    replace R0 := Lib.hid (R0.out.alloc (.cells #[.int .i64 s0, .slice a0 n0 cap0] 24))
    replace R1 := Lib.hid (R1.out.alloc (.cells #[.int .i64 s0, .slice a0 n0 cap0] 24))
    have A0 := Lib.hid (At2.new w (.int .i64 s0) (.slice a0 n0 cap0) 24)
    have BB := Lib.hid (below1 w (.cells #[.int .i64 s0, .slice a0 n0 cap0] 24))
    replace R0 := Lib.hid (R0.out.alloc (.cells #[.int .i64 s1, .slice a1 n1 cap1] 24))
    replace R1 := Lib.hid (R1.out.alloc (.cells #[.int .i64 s1, .slice a1 n1 cap1] 24))
    replace A0 := Lib.hid (A0.out.alloc (.cells #[.int .i64 s1, .slice a1 n1 cap1] 24))
    have A1 := Lib.hid (At2.place (w.alloc (.cells #[.int .i64 s0, .slice a0 n0 cap0] 24)) (.int .i64 s1) (.slice a1 n1 cap1) 24 (w.heap.size + 1) (by simp))
    replace BB := Lib.hid (BB.out.alloc (by first | omega | (simp; done) | (simp; omega)) (.cells #[.int .i64 s1, .slice a1 n1 cap1] 24))
    go_wp2_with fail
    refine (szBraid_fit _ _ _ _ _ _ (by omega) (by omega)).mono ?_
    rintro e w1 ⟨rfl, hb⟩
    replace R0 := Lib.hid (R0.out.below hb)
    replace R1 := Lib.hid (R1.out.below hb)
    replace A0 := Lib.hid (A0.out.below hb)
    replace A1 := Lib.hid (A1.out.below hb)
    have z1 : w.heap.size + 2 ≤ w1.heap.size := by have := hb.size; simp at this; omega
    replace BB := Lib.hid (below_go BB.out hb (by first | omega | (simp; done) | (simp; omega)))
    clear hb
    obtain ⟨qA01, qA02, qA03, qA04, qA05⟩ := A0.out
    obtain ⟨qA11, qA12, qA13, qA14, qA15⟩ := A1.out
    go_wp2_with fail
    refine (szBraid_big _ _ _ _ _ _ (by omega) (by omega) hn1).mono ?_
    rintro e w2 ⟨rfl, hb⟩
    clear qA01 qA02 qA03 qA04 qA05 qA11 qA12 qA13 qA14 qA15
    replace R0 := Lib.hid (R0.out.below hb)
    replace R1 := Lib.hid (R1.out.below hb)
    replace A0 := Lib.hid (A0.out.below hb)
    replace A1 := Lib.hid (A1.out.below hb)
    have z2 : w1.heap.size ≤ w2.heap.size := hb.size
    replace BB := Lib.hid (below_go BB.out hb (by omega))
    clear hb
    go_wp2
    go_ret
    exact ⟨rfl, BB.out⟩
  have hm0 : n0 ≤ 1048576 := by omega
  have hm1 : n1 ≤ 1048576 := by omega
  obtain ⟨fs, fxs, fc, hM⟩ : ∃ fs fxs fc, mConj s0 xs0 s1 xs1 = (fs, fxs, fc) := ⟨_, _, _, rfl⟩
  have HM := Lib.hid hM; clear hM
  have t1 : (fc != fc) = false := by simp
  go_enter Try.func7, Try.ntmps7
  replace R0 := Lib.hid (R0.out.alloc (.cells #[.int .i64 s0, .slice a0 n0 cap0] 24))
  replace R1 := Lib.hid (R1.out.alloc (.cells #[.int .i64 s0, .slice a0 n0 cap0] 24))
  have A0 := Lib.hid (At2.new w (.int .i64 s0) (.slice a0 n0 cap0) 24)
  have BB := Lib.hid (below1 w (.cells #[.int .i64 s0, .slice a0 n0 cap0] 24))
  replace R0 := Lib.hid (R0.out.alloc (.cells #[.int .i64 s1, .slice a1 n1 cap1] 24))
  replace R1 := Lib.hid (R1.out.alloc (.cells #[.int .i64 s1, .slice a1 n1 cap1] 24))
  replace A0 := Lib.hid (A0.out.alloc (.cells #[.int .i64 s1, .slice a1 n1 cap1] 24))
  have A1 := Lib.hid (At2.place (w.alloc (.cells #[.int .i64 s0, .slice a0 n0 cap0] 24)) (.int .i64 s1) (.slice a1 n1 cap1) 24 (w.heap.size + 1) (by simp))
  replace BB := Lib.hid (BB.out.alloc (by first | omega | (simp; done) | (simp; omega)) (.cells #[.int .i64 s1, .slice a1 n1 cap1] 24))
  go_wp2_with fail
  refine (szBraid_fit _ _ _ _ _ _ (by omega) (by omega)).mono ?_
  rintro e w1 ⟨rfl, hb⟩
  replace R0 := Lib.hid (R0.out.below hb)
  replace R1 := Lib.hid (R1.out.below hb)
  replace A0 := Lib.hid (A0.out.below hb)
  replace A1 := Lib.hid (A1.out.below hb)
  have z1 : w.heap.size + 2 ≤ w1.heap.size := by have := hb.size; simp at this; omega
  replace BB := Lib.hid (below_go BB.out hb (by first | omega | (simp; done) | (simp; omega)))
  clear hb
  obtain ⟨qA01, qA02, qA03, qA04, qA05⟩ := A0.out
  obtain ⟨qA11, qA12, qA13, qA14, qA15⟩ := A1.out
  go_wp2_with fail
  refine (szBraid_fit _ _ _ _ _ _ (by omega) (by omega)).mono ?_
  rintro e w2 ⟨rfl, hb⟩
  clear qA01 qA02 qA03 qA04 qA05 qA11 qA12 qA13 qA14 qA15
  replace R0 := Lib.hid (R0.out.below hb)
  replace R1 := Lib.hid (R1.out.below hb)
  replace A0 := Lib.hid (A0.out.below hb)
  replace A1 := Lib.hid (A1.out.below hb)
  have z2 : w1.heap.size ≤ w2.heap.size := hb.size
  replace BB := Lib.hid (below_go BB.out hb (by omega))
  clear hb
  obtain ⟨qA01, qA02, qA03, qA04, qA05⟩ := A0.out
  obtain ⟨qA11, qA12, qA13, qA14, qA15⟩ := A1.out
  go_upto_region 8 with fail
  go_cut [6, 7] (fun s6 s7 wx => s7 = .int .i64 fc ∧ Left2 w2 fs fxs s6 wx)
  case first =>
    go_region_held3 (fun w' => w'.cell? ⟨w.heap.size, 0, none⟩ = some (.int .i64 s0) ∧ w'.cell? ⟨w.heap.size, 1, none⟩ = some (.slice a0 n0 cap0) ∧ w'.cell? ⟨w.heap.size + 1, 0, none⟩ = some (.int .i64 s1) ∧ w'.cell? ⟨w.heap.size + 1, 1, none⟩ = some (.slice a1 n1 cap1) ∧ Below w2.heap.size w2 w') (first | exact hold2 A0.out A1.out hbK | exact hold2 A0.out A1.out (hbK.alloc hbK.size _) | exact hold2 A0.out A1.out ((Below.refl _ _).drew) | exact hold2 A0.out A1.out (‹_ ∧ _ ∧ _ ∧ _ ∧ Below _ _ _›.2.2.2.2.alloc (‹_ ∧ _ ∧ _ ∧ _ ∧ Below _ _ _›.2.2.2.2.size) _) | exact hold2 A0.out A1.out ((‹_ ∧ _ ∧ _ ∧ _ ∧ Below _ _ _›.2.2.2.2.setCell (by first | omega | (simp; done) | (simp; omega)) _).setCell (by first | omega | (simp; done) | (simp; omega)) _))
      (first
        | (go_at_call_of 18 (Value.agg #[.int .i64 s0, .slice a0 n0 cap0]); refine (toBraid_any _ _ _ _ xs0 _ (R0.out.reads.below ‹_ ∧ _ ∧ _ ∧ _ ∧ Below _ _ _›.2.2.2.2) hm0).mono ?_; rintro e wp ⟨ap, np, cp, rfl, ho1, hb1⟩; have hbK := below_go ‹_ ∧ _ ∧ _ ∧ _ ∧ Below _ _ _›.2.2.2.2 hb1 (‹_ ∧ _ ∧ _ ∧ _ ∧ Below _ _ _›.2.2.2.2.size); have zK1 := hbK.size)
        | (go_at_call_of 18 (Value.agg #[.int .i64 s1, .slice a1 n1 cap1]); refine (toBraid_any _ _ _ _ xs1 _ (R1.out.reads.below ‹_ ∧ _ ∧ _ ∧ _ ∧ Below _ _ _›.2.2.2.2) hm1).mono ?_; rintro e wq ⟨aq, nq2, cq, rfl, ho2, hb2⟩; have hx1 : Reads wq ap np xs0 := (by first | exact (ho1.below hb2).reads | exact ((ho1.alloc _).below hb2).reads); have hbK := below_go ‹_ ∧ _ ∧ _ ∧ _ ∧ Below _ _ _›.2.2.2.2 hb2 (‹_ ∧ _ ∧ _ ∧ _ ∧ Below _ _ _›.2.2.2.2.size); have zK2 := hbK.size; have zK3 := hb2.size)
        | (go_at_call 31; refine (specConj_any (by first | exact hx1 | exact hx1.alloc _) HF0.out (by have := ho1.len; have := R0.out.reads.len; omega) (by first | exact ho2.reads | exact (ho2.alloc _).reads) HF1.out (by have := ho2.len; have := R1.out.reads.len; omega) HM.out).mono ?_; rintro e wr3 ⟨br, mr, dr, rfl, hlr, ho3, hb3⟩; (first | have kW := (At2.new _ (.int .i64 0) (.slice none 0 0) 29).below hb3 | (have kW := ((At2.new _ (.int .i64 0) (.slice none 0 0) 29).below hb2).below hb3; have kY := ((At2.new _ (.int .i64 0) (.slice none 0 0) 29).below hb2).1) | (have kW := (((At2.new _ (.int .i64 0) (.slice none 0 0) 29).below hb1).below hb2).below hb3; have kY := ((At2.new _ (.int .i64 0) (.slice none 0 0) 29).below hb1).1) | (have kW := (((At2.new _ (.int .i64 0) (.slice none 0 0) 29).drew.below hb1).below hb2).below hb3; have kY := ((At2.new _ (.int .i64 0) (.slice none 0 0) 29).drew.below hb1).1) | skip); (try (have kV := kW; obtain ⟨y1, y2, y3, y4, y5⟩ := kV)); have hbK := below_go ‹_ ∧ _ ∧ _ ∧ _ ∧ Below _ _ _›.2.2.2.2 hb3 (‹_ ∧ _ ∧ _ ∧ _ ∧ Below _ _ _›.2.2.2.2.size); have zK4 := hbK.size))
    all_goals
      go_wp2_with fail
      go_meet
      first
        | exact ⟨rfl, wr3.heap.size, br, mr, dr, rfl, hlr, hbK.size, At2.new _ _ _ _, (Own.mono (ho3.alloc _) zK2).within, hbK.alloc hbK.size _⟩
        | exact ⟨rfl, _, br, mr, dr, rfl, hlr, (by first | omega | (simp; done) | (simp; omega) | (have e2 := hb2.size; omega) | (have e2 := hb2.size; simp at e2; simp; omega)), kW.fill _ _, (((ho3.setCell_below (by first | omega | (simp; done) | (simp; omega) | (have e2 := hb2.size; omega) | (have e2 := hb2.size; simp at e2; simp; omega)) _).setCell_below (by first | omega | (simp; done) | (simp; omega) | (have e2 := hb2.size; omega) | (have e2 := hb2.size; simp at e2; simp; omega)) _).mono (by first | omega | (simp; done) | (simp; omega) | (have e2 := hb2.size; omega) | (have e2 := hb2.size; simp at e2; simp; omega))).within, (hbK.setCell (by first | omega | (simp; done) | (simp; omega) | (have e2 := hb2.size; omega) | (have e2 := hb2.size; simp at e2; simp; omega)) _).setCell (by first | omega | (simp; done) | (simp; omega) | (have e2 := hb2.size; omega) | (have e2 := hb2.size; simp at e2; simp; omega)) _⟩
  case rest =>
    obtain ⟨wc3, hwc⟩ : ∃ x, x = wc := ⟨_, rfl⟩; subst hwc
    obtain ⟨rfl, g3, b3, m3, d3, rfl, hl3, hg3, hW, hP, hb⟩ := hcut
    clear qA01 qA02 qA03 qA04 qA05 qA11 qA12 qA13 qA14 qA15
    replace R0 := Lib.hid (R0.out.below hb)
    replace R1 := Lib.hid (R1.out.below hb)
    replace A0 := Lib.hid (A0.out.below hb)
    replace A1 := Lib.hid (A1.out.below hb)
    have z3 : w2.heap.size ≤ wc3.heap.size := hb.size
    have zz3 : g3 < wc3.heap.size := hW.1
    replace BB := Lib.hid (below_go BB.out hb (by omega))
    have W := Lib.hid hW; have P3 := Lib.hid hP; clear hW hP hb
    skip
    obtain ⟨qA01, qA02, qA03, qA04, qA05⟩ := A0.out
    obtain ⟨qA11, qA12, qA13, qA14, qA15⟩ := A1.out
    obtain ⟨qW1, qW2, qW3, qW4, qW5⟩ := W.out
    go_wp2_with fail
    refine (toBraid_any _ _ _ _ xs0 _ R0.out.reads hm0).mono ?_
    rintro e w4 ⟨aw4, nw4, cw4, rfl, ho, hb⟩
    clear qA01 qA02 qA03 qA04 qA05 qA11 qA12 qA13 qA14 qA15 qW1 qW2 qW3 qW4 qW5
    have O4 : Hid (OwnIn (wc3.heap.size) w4.heap.size w4 aw4 nw4 cw4 xs0) := Lib.hid (by simpa using ho.within); clear ho
    have hnw4 : nw4 ≤ 1048576 := by have := O4.out.len; have := R0.out.reads.len; omega
    replace R0 := Lib.hid (R0.out.below hb)
    replace R1 := Lib.hid (R1.out.below hb)
    replace A0 := Lib.hid (A0.out.below hb)
    replace A1 := Lib.hid (A1.out.below hb)
    replace P3 := Lib.hid (P3.out.below hb)
    replace W := Lib.hid (W.out.below hb)
    have z4 : wc3.heap.size ≤ w4.heap.size := hb.size
    replace BB := Lib.hid (below_go BB.out hb (by omega))
    clear hb
    obtain ⟨qA01, qA02, qA03, qA04, qA05⟩ := A0.out
    obtain ⟨qA11, qA12, qA13, qA14, qA15⟩ := A1.out
    obtain ⟨qW1, qW2, qW3, qW4, qW5⟩ := W.out
    replace R0 := Lib.hid (R0.out.alloc (.cells #[.int .i64 s0, .slice aw4 nw4 cw4] 29))
    replace R1 := Lib.hid (R1.out.alloc (.cells #[.int .i64 s0, .slice aw4 nw4 cw4] 29))
    replace A0 := Lib.hid (A0.out.alloc (.cells #[.int .i64 s0, .slice aw4 nw4 cw4] 29))
    replace A1 := Lib.hid (A1.out.alloc (.cells #[.int .i64 s0, .slice aw4 nw4 cw4] 29))
    replace P3 := Lib.hid (P3.out.alloc (.cells #[.int .i64 s0, .slice aw4 nw4 cw4] 29))
    replace W := Lib.hid (W.out.alloc (.cells #[.int .i64 s0, .slice aw4 nw4 cw4] 29))
    replace O4 := Lib.hid (O4.out.alloc (.cells #[.int .i64 s0, .slice aw4 nw4 cw4] 29))
    have X0 := Lib.hid (At2.new w4 (.int .i64 s0) (.slice aw4 nw4 cw4) 29)
    replace BB := Lib.hid (BB.out.alloc (by first | omega | (simp; done) | (simp; omega)) (.cells #[.int .i64 s0, .slice aw4 nw4 cw4] 29))
    go_wp2_with fail
    refine (toBraid_any _ _ _ _ xs1 _ R1.out.reads hm1).mono ?_
    rintro e w5 ⟨aw5, nw5, cw5, rfl, ho, hb⟩
    clear qA01 qA02 qA03 qA04 qA05 qA11 qA12 qA13 qA14 qA15 qW1 qW2 qW3 qW4 qW5
    have O5 : Hid (OwnIn (w4.heap.size + 1) w5.heap.size w5 aw5 nw5 cw5 xs1) := Lib.hid (by simpa using ho.within); clear ho
    have hnw5 : nw5 ≤ 1048576 := by have := O5.out.len; have := R1.out.reads.len; omega
    replace R0 := Lib.hid (R0.out.below hb)
    replace R1 := Lib.hid (R1.out.below hb)
    replace A0 := Lib.hid (A0.out.below hb)
    replace A1 := Lib.hid (A1.out.below hb)
    replace P3 := Lib.hid (P3.out.below hb)
    replace W := Lib.hid (W.out.below hb)
    replace O4 := Lib.hid (O4.out.below hb)
    replace X0 := Lib.hid (X0.out.below hb)
    have z5 : w4.heap.size + 1 ≤ w5.heap.size := by have := hb.size; simp at this; omega
    replace BB := Lib.hid (below_go BB.out hb (by first | omega | (simp; done) | (simp; omega)))
    clear hb
    obtain ⟨qA01, qA02, qA03, qA04, qA05⟩ := A0.out
    obtain ⟨qA11, qA12, qA13, qA14, qA15⟩ := A1.out
    obtain ⟨qW1, qW2, qW3, qW4, qW5⟩ := W.out
    obtain ⟨qX01, qX02, qX03, qX04, qX05⟩ := X0.out
    replace R0 := Lib.hid (R0.out.alloc (.cells #[.int .i64 s1, .slice aw5 nw5 cw5] 29))
    replace R1 := Lib.hid (R1.out.alloc (.cells #[.int .i64 s1, .slice aw5 nw5 cw5] 29))
    replace A0 := Lib.hid (A0.out.alloc (.cells #[.int .i64 s1, .slice aw5 nw5 cw5] 29))
    replace A1 := Lib.hid (A1.out.alloc (.cells #[.int .i64 s1, .slice aw5 nw5 cw5] 29))
    replace P3 := Lib.hid (P3.out.alloc (.cells #[.int .i64 s1, .slice aw5 nw5 cw5] 29))
    replace W := Lib.hid (W.out.alloc (.cells #[.int .i64 s1, .slice aw5 nw5 cw5] 29))
    replace O4 := Lib.hid (O4.out.alloc (.cells #[.int .i64 s1, .slice aw5 nw5 cw5] 29))
    replace X0 := Lib.hid (X0.out.alloc (.cells #[.int .i64 s1, .slice aw5 nw5 cw5] 29))
    replace O5 := Lib.hid (O5.out.alloc (.cells #[.int .i64 s1, .slice aw5 nw5 cw5] 29))
    have X1 := Lib.hid (At2.new w5 (.int .i64 s1) (.slice aw5 nw5 cw5) 29)
    replace BB := Lib.hid (BB.out.alloc (by first | omega | (simp; done) | (simp; omega)) (.cells #[.int .i64 s1, .slice aw5 nw5 cw5] 29))
    go_wp2_with fail
    refine (implConj_any O4.out.reads HF0.out hnw4 O5.out.reads HF1.out hnw5 HM.out).mono ?_
    rintro e w6 ⟨b6, m6, d6, rfl, hl6, ho, hb⟩
    clear qA01 qA02 qA03 qA04 qA05 qA11 qA12 qA13 qA14 qA15 qW1 qW2 qW3 qW4 qW5 qX01 qX02 qX03 qX04 qX05
    have P6 : Hid (OwnIn (w5.heap.size + 1) w6.heap.size w6 b6 m6 d6 fxs) := Lib.hid (by simpa using ho.within); clear ho
    replace R0 := Lib.hid (R0.out.below hb)
    replace R1 := Lib.hid (R1.out.below hb)
    replace A0 := Lib.hid (A0.out.below hb)
    replace A1 := Lib.hid (A1.out.below hb)
    replace P3 := Lib.hid (P3.out.below hb)
    replace W := Lib.hid (W.out.below hb)
    replace O4 := Lib.hid (O4.out.below hb)
    replace X0 := Lib.hid (X0.out.below hb)
    replace O5 := Lib.hid (O5.out.below hb)
    replace X1 := Lib.hid (X1.out.below hb)
    have z6 : w5.heap.size + 1 ≤ w6.heap.size := by have := hb.size; simp at this; omega
    replace BB := Lib.hid (below_go BB.out hb (by first | omega | (simp; done) | (simp; omega)))
    clear hb
    obtain ⟨qA01, qA02, qA03, qA04, qA05⟩ := A0.out
    obtain ⟨qA11, qA12, qA13, qA14, qA15⟩ := A1.out
    obtain ⟨qW1, qW2, qW3, qW4, qW5⟩ := W.out
    obtain ⟨qX01, qX02, qX03, qX04, qX05⟩ := X0.out
    obtain ⟨qX11, qX12, qX13, qX14, qX15⟩ := X1.out
    replace R0 := Lib.hid (R0.out.alloc (.cells #[.int .i64 fs, .slice b6 m6 d6] 29))
    replace R1 := Lib.hid (R1.out.alloc (.cells #[.int .i64 fs, .slice b6 m6 d6] 29))
    replace A0 := Lib.hid (A0.out.alloc (.cells #[.int .i64 fs, .slice b6 m6 d6] 29))
    replace A1 := Lib.hid (A1.out.alloc (.cells #[.int .i64 fs, .slice b6 m6 d6] 29))
    replace P3 := Lib.hid (P3.out.alloc (.cells #[.int .i64 fs, .slice b6 m6 d6] 29))
    replace W := Lib.hid (W.out.alloc (.cells #[.int .i64 fs, .slice b6 m6 d6] 29))
    replace O4 := Lib.hid (O4.out.alloc (.cells #[.int .i64 fs, .slice b6 m6 d6] 29))
    replace X0 := Lib.hid (X0.out.alloc (.cells #[.int .i64 fs, .slice b6 m6 d6] 29))
    replace O5 := Lib.hid (O5.out.alloc (.cells #[.int .i64 fs, .slice b6 m6 d6] 29))
    replace X1 := Lib.hid (X1.out.alloc (.cells #[.int .i64 fs, .slice b6 m6 d6] 29))
    replace P6 := Lib.hid (P6.out.alloc (.cells #[.int .i64 fs, .slice b6 m6 d6] 29))
    have G := Lib.hid (At2.new w6 (.int .i64 fs) (.slice b6 m6 d6) 29)
    replace BB := Lib.hid (BB.out.alloc (by first | omega | (simp; done) | (simp; omega)) (.cells #[.int .i64 fs, .slice b6 m6 d6] 29))
    go_wp2_with fail
    refine (eqBraid_yes _ _ _ _ _ _ _ fxs _ P6.out.reads P3.out.reads hl6).mono ?_
    rintro e w7 ⟨rfl, hb⟩
    clear qA01 qA02 qA03 qA04 qA05 qA11 qA12 qA13 qA14 qA15 qW1 qW2 qW3 qW4 qW5 qX01 qX02 qX03 qX04 qX05 qX11 qX12 qX13 qX14 qX15
    replace R0 := Lib.hid (R0.out.below hb)
    replace R1 := Lib.hid (R1.out.below hb)
    replace A0 := Lib.hid (A0.out.below hb)
    replace A1 := Lib.hid (A1.out.below hb)
    replace P3 := Lib.hid (P3.out.below hb)
    replace W := Lib.hid (W.out.below hb)
    replace O4 := Lib.hid (O4.out.below hb)
    replace X0 := Lib.hid (X0.out.below hb)
    replace O5 := Lib.hid (O5.out.below hb)
    replace X1 := Lib.hid (X1.out.below hb)
    replace P6 := Lib.hid (P6.out.below hb)
    replace G := Lib.hid (G.out.below hb)
    have z7 : w6.heap.size + 1 ≤ w7.heap.size := by have := hb.size; simp at this; omega
    replace BB := Lib.hid (below_go BB.out hb (by first | omega | (simp; done) | (simp; omega)))
    clear hb
    obtain ⟨qA01, qA02, qA03, qA04, qA05⟩ := A0.out
    obtain ⟨qA11, qA12, qA13, qA14, qA15⟩ := A1.out
    obtain ⟨qW1, qW2, qW3, qW4, qW5⟩ := W.out
    obtain ⟨qX01, qX02, qX03, qX04, qX05⟩ := X0.out
    obtain ⟨qX11, qX12, qX13, qX14, qX15⟩ := X1.out
    obtain ⟨qG1, qG2, qG3, qG4, qG5⟩ := G.out
    go_wp2
    go_region_held3 (fun w' => w'.cell? ⟨w.heap.size, 0, none⟩ = some (.int .i64 s0) ∧ w'.cell? ⟨w.heap.size, 1, none⟩ = some (.slice a0 n0 cap0) ∧ w'.cell? ⟨w4.heap.size, 0, none⟩ = some (.int .i64 s0) ∧ w'.cell? ⟨w4.heap.size, 1, none⟩ = some (.slice aw4 nw4 cw4)) (first | exact ⟨qA02, qA03, qX02, qX03⟩ | exact ⟨rA02, rA03, rX02, rX03⟩)
      (first
        | (go_at_call 18; refine (toBraid_any _ _ _ _ xs0 _ R0.out.drew.reads hm0).mono ?_; rintro e w8 ⟨aw8, nw8, cw8, rfl, ho, hb⟩; obtain ⟨rA01, rA02, rA03, rA04, rA05⟩ := A0.out.drew.below hb; obtain ⟨rX01, rX02, rX03, rX04, rX05⟩ := X0.out.drew.below hb)
        | (go_at_call 21; refine (eqBraid_yes _ _ _ _ _ _ _ xs0 _ (O4.out.drew.below hb).reads ho.reads hnw4).mono ?_; rintro e w9 ⟨rfl, hb'⟩; obtain ⟨rA01, rA02, rA03, rA04, rA05⟩ := (A0.out.drew.below hb).below hb'; obtain ⟨rX01, rX02, rX03, rX04, rX05⟩ := (X0.out.drew.below hb).below hb'))
    clear rA01 rA02 rA03 rA04 rA05 rX01 rX02 rX03 rX04 rX05 ho
    clear qA01 qA02 qA03 qA04 qA05 qA11 qA12 qA13 qA14 qA15 qW1 qW2 qW3 qW4 qW5 qX01 qX02 qX03 qX04 qX05 qX11 qX12 qX13 qX14 qX15 qG1 qG2 qG3 qG4 qG5
    replace R0 := Lib.hid ((R0.out.drew.below hb).below hb')
    replace R1 := Lib.hid ((R1.out.drew.below hb).below hb')
    replace A0 := Lib.hid ((A0.out.drew.below hb).below hb')
    replace A1 := Lib.hid ((A1.out.drew.below hb).below hb')
    replace P3 := Lib.hid ((P3.out.drew.below hb).below hb')
    replace W := Lib.hid ((W.out.drew.below hb).below hb')
    replace O4 := Lib.hid ((O4.out.drew.below hb).below hb')
    replace X0 := Lib.hid ((X0.out.drew.below hb).below hb')
    replace O5 := Lib.hid ((O5.out.drew.below hb).below hb')
    replace X1 := Lib.hid ((X1.out.drew.below hb).below hb')
    replace P6 := Lib.hid ((P6.out.drew.below hb).below hb')
    replace G := Lib.hid ((G.out.drew.below hb).below hb')
    have z8 : w7.heap.size ≤ w8.heap.size := hb.size
    have z9 : w8.heap.size ≤ w9.heap.size := hb'.size
    replace BB := Lib.hid (below_go (below_go BB.out.drew hb (by show _ ≤ w7.heap.size; omega)) hb' (by omega))
    clear hb hb'
    obtain ⟨qA01, qA02, qA03, qA04, qA05⟩ := A0.out
    obtain ⟨qA11, qA12, qA13, qA14, qA15⟩ := A1.out
    obtain ⟨qW1, qW2, qW3, qW4, qW5⟩ := W.out
    obtain ⟨qX01, qX02, qX03, qX04, qX05⟩ := X0.out
    obtain ⟨qX11, qX12, qX13, qX14, qX15⟩ := X1.out
    obtain ⟨qG1, qG2, qG3, qG4, qG5⟩ := G.out
    go_wp2
    go_region_held3 (fun w' => w'.cell? ⟨w.heap.size + 1, 0, none⟩ = some (.int .i64 s1) ∧ w'.cell? ⟨w.heap.size + 1, 1, none⟩ = some (.slice a1 n1 cap1) ∧ w'.cell? ⟨w5.heap.size, 0, none⟩ = some (.int .i64 s1) ∧ w'.cell? ⟨w5.heap.size, 1, none⟩ = some (.slice aw5 nw5 cw5)) (first | exact ⟨qA12, qA13, qX12, qX13⟩ | exact ⟨rA12, rA13, rX12, rX13⟩)
      (first
        | (go_at_call 18; refine (toBraid_any _ _ _ _ xs1 _ R1.out.drew.reads hm1).mono ?_; rintro e w10 ⟨aw10, nw10, cw10, rfl, ho, hb⟩; obtain ⟨rA11, rA12, rA13, rA14, rA15⟩ := A1.out.drew.below hb; obtain ⟨rX11, rX12, rX13, rX14, rX15⟩ := X1.out.drew.below hb)
        | (go_at_call 21; refine (eqBraid_yes _ _ _ _ _ _ _ xs1 _ (O5.out.drew.below hb).reads ho.reads hnw5).mono ?_; rintro e w11 ⟨rfl, hb'⟩; obtain ⟨rA11, rA12, rA13, rA14, rA15⟩ := (A1.out.drew.below hb).below hb'; obtain ⟨rX11, rX12, rX13, rX14, rX15⟩ := (X1.out.drew.below hb).below hb'))
    clear rA11 rA12 rA13 rA14 rA15 rX11 rX12 rX13 rX14 rX15 ho
    clear qA01 qA02 qA03 qA04 qA05 qA11 qA12 qA13 qA14 qA15 qW1 qW2 qW3 qW4 qW5 qX01 qX02 qX03 qX04 qX05 qX11 qX12 qX13 qX14 qX15 qG1 qG2 qG3 qG4 qG5
    replace R0 := Lib.hid ((R0.out.drew.below hb).below hb')
    replace R1 := Lib.hid ((R1.out.drew.below hb).below hb')
    replace A0 := Lib.hid ((A0.out.drew.below hb).below hb')
    replace A1 := Lib.hid ((A1.out.drew.below hb).below hb')
    replace P3 := Lib.hid ((P3.out.drew.below hb).below hb')
    replace W := Lib.hid ((W.out.drew.below hb).below hb')
    replace O4 := Lib.hid ((O4.out.drew.below hb).below hb')
    replace X0 := Lib.hid ((X0.out.drew.below hb).below hb')
    replace O5 := Lib.hid ((O5.out.drew.below hb).below hb')
    replace X1 := Lib.hid ((X1.out.drew.below hb).below hb')
    replace P6 := Lib.hid ((P6.out.drew.below hb).below hb')
    replace G := Lib.hid ((G.out.drew.below hb).below hb')
    have z10 : w9.heap.size ≤ w10.heap.size := hb.size
    have z11 : w10.heap.size ≤ w11.heap.size := hb'.size
    replace BB := Lib.hid (below_go (below_go BB.out.drew hb (by show _ ≤ w9.heap.size; omega)) hb' (by omega))
    clear hb hb'
    obtain ⟨qA01, qA02, qA03, qA04, qA05⟩ := A0.out
    obtain ⟨qA11, qA12, qA13, qA14, qA15⟩ := A1.out
    obtain ⟨qW1, qW2, qW3, qW4, qW5⟩ := W.out
    obtain ⟨qX01, qX02, qX03, qX04, qX05⟩ := X0.out
    obtain ⟨qX11, qX12, qX13, qX14, qX15⟩ := X1.out
    obtain ⟨qG1, qG2, qG3, qG4, qG5⟩ := G.out
    go_wp2_with fail
    refine (markBraid_in _ _ _ _ _ _ xs0 _ _ O4.out hnw4 (by omega) (by omega)).mono ?_
    rintro e w12 ⟨rfl, ho, hb⟩
    clear qA01 qA02 qA03 qA04 qA05 qA11 qA12 qA13 qA14 qA15 qW1 qW2 qW3 qW4 qW5 qX01 qX02 qX03 qX04 qX05 qX11 qX12 qX13 qX14 qX15 qG1 qG2 qG3 qG4 qG5
    clear ho
    clear O4
    replace R0 := Lib.hid (R0.out.wrote hb (by omega))
    replace R1 := Lib.hid (R1.out.wrote hb (by omega))
    replace A0 := Lib.hid (A0.out.wrote hb (by omega))
    replace A1 := Lib.hid (A1.out.wrote hb (by omega))
    replace P3 := Lib.hid (P3.out.wrote hb (by omega))
    replace W := Lib.hid (W.out.wrote hb (by omega))
    replace X0 := Lib.hid (X0.out.wrote hb (by omega))
    replace O5 := Lib.hid (O5.out.wrote hb (by omega))
    replace X1 := Lib.hid (X1.out.wrote hb (by omega))
    replace P6 := Lib.hid (P6.out.wrote hb (by omega))
    replace G := Lib.hid (G.out.wrote hb (by omega))
    have z12 : w11.heap.size ≤ w12.heap.size := hb.size
    replace BB := Lib.hid (below_write BB.out hb (by omega) (by omega))
    clear hb
    obtain ⟨qA01, qA02, qA03, qA04, qA05⟩ := A0.out
    obtain ⟨qA11, qA12, qA13, qA14, qA15⟩ := A1.out
    obtain ⟨qW1, qW2, qW3, qW4, qW5⟩ := W.out
    obtain ⟨qX01, qX02, qX03, qX04, qX05⟩ := X0.out
    obtain ⟨qX11, qX12, qX13, qX14, qX15⟩ := X1.out
    obtain ⟨qG1, qG2, qG3, qG4, qG5⟩ := G.out
    go_wp2_with fail
    refine (markBraid_in _ _ _ _ _ _ xs1 _ _ O5.out hnw5 (by omega) (by omega)).mono ?_
    rintro e w13 ⟨rfl, ho, hb⟩
    clear qA01 qA02 qA03 qA04 qA05 qA11 qA12 qA13 qA14 qA15 qW1 qW2 qW3 qW4 qW5 qX01 qX02 qX03 qX04 qX05 qX11 qX12 qX13 qX14 qX15 qG1 qG2 qG3 qG4 qG5
    clear ho
    clear O5
    replace R0 := Lib.hid (R0.out.wrote hb (by omega))
    replace R1 := Lib.hid (R1.out.wrote hb (by omega))
    replace A0 := Lib.hid (A0.out.wrote hb (by omega))
    replace A1 := Lib.hid (A1.out.wrote hb (by omega))
    replace P3 := Lib.hid (P3.out.wrote hb (by omega))
    replace W := Lib.hid (W.out.wrote hb (by omega))
    replace X0 := Lib.hid (X0.out.wrote hb (by omega))
    replace X1 := Lib.hid (X1.out.wrote hb (by omega))
    replace P6 := Lib.hid (P6.out.wrote hb (by omega))
    replace G := Lib.hid (G.out.wrote hb (by omega))
    have z13 : w12.heap.size ≤ w13.heap.size := hb.size
    replace BB := Lib.hid (below_write BB.out hb (by omega) (by omega))
    clear hb
    obtain ⟨qA01, qA02, qA03, qA04, qA05⟩ := A0.out
    obtain ⟨qA11, qA12, qA13, qA14, qA15⟩ := A1.out
    obtain ⟨qW1, qW2, qW3, qW4, qW5⟩ := W.out
    obtain ⟨qX01, qX02, qX03, qX04, qX05⟩ := X0.out
    obtain ⟨qX11, qX12, qX13, qX14, qX15⟩ := X1.out
    obtain ⟨qG1, qG2, qG3, qG4, qG5⟩ := G.out
    go_wp2_with fail
    refine (eqBraid_yes _ _ _ _ _ _ _ fxs _ P6.out.reads P3.out.reads hl6).mono ?_
    rintro e w14 ⟨rfl, hb⟩
    clear qA01 qA02 qA03 qA04 qA05 qA11 qA12 qA13 qA14 qA15 qW1 qW2 qW3 qW4 qW5 qX01 qX02 qX03 qX04 qX05 qX11 qX12 qX13 qX14 qX15 qG1 qG2 qG3 qG4 qG5
    replace R0 := Lib.hid (R0.out.below hb)
    replace R1 := Lib.hid (R1.out.below hb)
    replace A0 := Lib.hid (A0.out.below hb)
    replace A1 := Lib.hid (A1.out.below hb)
    replace P3 := Lib.hid (P3.out.below hb)
    replace W := Lib.hid (W.out.below hb)
    replace X0 := Lib.hid (X0.out.below hb)
    replace X1 := Lib.hid (X1.out.below hb)
    replace P6 := Lib.hid (P6.out.below hb)
    replace G := Lib.hid (G.out.below hb)
    have z14 : w13.heap.size ≤ w14.heap.size := hb.size
    replace BB := Lib.hid (below_go BB.out hb (by omega))
    clear hb
    obtain ⟨qA01, qA02, qA03, qA04, qA05⟩ := A0.out
    obtain ⟨qA11, qA12, qA13, qA14, qA15⟩ := A1.out
    obtain ⟨qW1, qW2, qW3, qW4, qW5⟩ := W.out
    obtain ⟨qX01, qX02, qX03, qX04, qX05⟩ := X0.out
    obtain ⟨qX11, qX12, qX13, qX14, qX15⟩ := X1.out
    obtain ⟨qG1, qG2, qG3, qG4, qG5⟩ := G.out
    go_wp2_with fail
    refine (markBraid_in _ _ _ _ _ _ fxs _ _ P6.out hl6 (by omega) (by omega)).mono ?_
    rintro e w15 ⟨rfl, ho, hb⟩
    clear qA01 qA02 qA03 qA04 qA05 qA11 qA12 qA13 qA14 qA15 qW1 qW2 qW3 qW4 qW5 qX01 qX02 qX03 qX04 qX05 qX11 qX12 qX13 qX14 qX15 qG1 qG2 qG3 qG4 qG5
    replace R0 := Lib.hid (R0.out.wrote hb (by omega))
    replace R1 := Lib.hid (R1.out.wrote hb (by omega))
    replace A0 := Lib.hid (A0.out.wrote hb (by omega))
    replace A1 := Lib.hid (A1.out.wrote hb (by omega))
    replace P3 := Lib.hid (P3.out.wrote hb (by omega))
    replace W := Lib.hid (W.out.wrote hb (by omega))
    replace X0 := Lib.hid (X0.out.wrote hb (by omega))
    replace X1 := Lib.hid (X1.out.wrote hb (by omega))
    replace G := Lib.hid (G.out.wrote hb (by omega))
    have z15 : w14.heap.size ≤ w15.heap.size := hb.size
    replace BB := Lib.hid (below_write BB.out hb (by omega) (by omega))
    clear hb
    replace P6 := Lib.hid ho; clear ho
    obtain ⟨qA01, qA02, qA03, qA04, qA05⟩ := A0.out
    obtain ⟨qA11, qA12, qA13, qA14, qA15⟩ := A1.out
    obtain ⟨qW1, qW2, qW3, qW4, qW5⟩ := W.out
    obtain ⟨qX01, qX02, qX03, qX04, qX05⟩ := X0.out
    obtain ⟨qX11, qX12, qX13, qX14, qX15⟩ := X1.out
    obtain ⟨qG1, qG2, qG3, qG4, qG5⟩ := G.out
    have t3 : ((1 + (m6 : Int)) != (1 + (m6 : Int))) = false := by simp
    go_wp2_with fail
    refine (heldBraid_any _ _ _ _ _ _ P6.out.reads hl6 (by omega) (by omega)).mono ?_
    rintro e w16 ⟨rfl, hb⟩
    clear qA01 qA02 qA03 qA04 qA05 qA11 qA12 qA13 qA14 qA15 qW1 qW2 qW3 qW4 qW5 qX01 qX02 qX03 qX04 qX05 qX11 qX12 qX13 qX14 qX15 qG1 qG2 qG3 qG4 qG5
    replace R0 := Lib.hid (R0.out.below hb)
    replace R1 := Lib.hid (R1.out.below hb)
    replace A0 := Lib.hid (A0.out.below hb)
    replace A1 := Lib.hid (A1.out.below hb)
    replace P3 := Lib.hid (P3.out.below hb)
    replace W := Lib.hid (W.out.below hb)
    replace X0 := Lib.hid (X0.out.below hb)
    replace X1 := Lib.hid (X1.out.below hb)
    replace P6 := Lib.hid (P6.out.below hb)
    replace G := Lib.hid (G.out.below hb)
    have z16 : w15.heap.size ≤ w16.heap.size := hb.size
    replace BB := Lib.hid (below_go BB.out hb (by omega))
    clear hb
    obtain ⟨qA01, qA02, qA03, qA04, qA05⟩ := A0.out
    obtain ⟨qA11, qA12, qA13, qA14, qA15⟩ := A1.out
    obtain ⟨qW1, qW2, qW3, qW4, qW5⟩ := W.out
    obtain ⟨qX01, qX02, qX03, qX04, qX05⟩ := X0.out
    obtain ⟨qX11, qX12, qX13, qX14, qX15⟩ := X1.out
    obtain ⟨qG1, qG2, qG3, qG4, qG5⟩ := G.out
    go_upto_region 31 with fail
    go_cut [15, 16] (fun s6 s7 wx => s7 = .int .i64 fc ∧ Left2 w16 fs fxs s6 wx)
    case first =>
      go_region_held3 (fun w' => w'.cell? ⟨w.heap.size, 0, none⟩ = some (.int .i64 s0) ∧ w'.cell? ⟨w.heap.size, 1, none⟩ = some (.slice a0 n0 cap0) ∧ w'.cell? ⟨w.heap.size + 1, 0, none⟩ = some (.int .i64 s1) ∧ w'.cell? ⟨w.heap.size + 1, 1, none⟩ = some (.slice a1 n1 cap1) ∧ Below w16.heap.size w16 w') (first | exact hold2 A0.out A1.out hbK | exact hold2 A0.out A1.out (hbK.alloc hbK.size _) | exact hold2 A0.out A1.out ((Below.refl _ _).drew) | exact hold2 A0.out A1.out (‹_ ∧ _ ∧ _ ∧ _ ∧ Below _ _ _›.2.2.2.2.alloc (‹_ ∧ _ ∧ _ ∧ _ ∧ Below _ _ _›.2.2.2.2.size) _) | exact hold2 A0.out A1.out ((‹_ ∧ _ ∧ _ ∧ _ ∧ Below _ _ _›.2.2.2.2.setCell (by first | omega | (simp; done) | (simp; omega)) _).setCell (by first | omega | (simp; done) | (simp; omega)) _))
        (first
          | (go_at_call_of 18 (Value.agg #[.int .i64 s0, .slice a0 n0 cap0]); refine (toBraid_any _ _ _ _ xs0 _ (R0.out.reads.below ‹_ ∧ _ ∧ _ ∧ _ ∧ Below _ _ _›.2.2.2.2) hm0).mono ?_; rintro e wp ⟨ap, np, cp, rfl, ho1, hb1⟩; have hbK := below_go ‹_ ∧ _ ∧ _ ∧ _ ∧ Below _ _ _›.2.2.2.2 hb1 (‹_ ∧ _ ∧ _ ∧ _ ∧ Below _ _ _›.2.2.2.2.size); have zK1 := hbK.size)
          | (go_at_call_of 18 (Value.agg #[.int .i64 s1, .slice a1 n1 cap1]); refine (toBraid_any _ _ _ _ xs1 _ (R1.out.reads.below ‹_ ∧ _ ∧ _ ∧ _ ∧ Below _ _ _›.2.2.2.2) hm1).mono ?_; rintro e wq ⟨aq, nq2, cq, rfl, ho2, hb2⟩; have hx1 : Reads wq ap np xs0 := (by first | exact (ho1.below hb2).reads | exact ((ho1.alloc _).below hb2).reads); have hbK := below_go ‹_ ∧ _ ∧ _ ∧ _ ∧ Below _ _ _›.2.2.2.2 hb2 (‹_ ∧ _ ∧ _ ∧ _ ∧ Below _ _ _›.2.2.2.2.size); have zK2 := hbK.size; have zK3 := hb2.size)
          | (go_at_call 32; refine (implConj_any (by first | exact hx1 | exact hx1.alloc _) HF0.out (by have := ho1.len; have := R0.out.reads.len; omega) (by first | exact ho2.reads | exact (ho2.alloc _).reads) HF1.out (by have := ho2.len; have := R1.out.reads.len; omega) HM.out).mono ?_; rintro e wr3 ⟨br, mr, dr, rfl, hlr, ho3, hb3⟩; (first | have kW := (At2.new _ (.int .i64 0) (.slice none 0 0) 29).below hb3 | (have kW := ((At2.new _ (.int .i64 0) (.slice none 0 0) 29).below hb2).below hb3; have kY := ((At2.new _ (.int .i64 0) (.slice none 0 0) 29).below hb2).1) | (have kW := (((At2.new _ (.int .i64 0) (.slice none 0 0) 29).below hb1).below hb2).below hb3; have kY := ((At2.new _ (.int .i64 0) (.slice none 0 0) 29).below hb1).1) | (have kW := (((At2.new _ (.int .i64 0) (.slice none 0 0) 29).drew.below hb1).below hb2).below hb3; have kY := ((At2.new _ (.int .i64 0) (.slice none 0 0) 29).drew.below hb1).1) | skip); (try (have kV := kW; obtain ⟨y1, y2, y3, y4, y5⟩ := kV)); have hbK := below_go ‹_ ∧ _ ∧ _ ∧ _ ∧ Below _ _ _›.2.2.2.2 hb3 (‹_ ∧ _ ∧ _ ∧ _ ∧ Below _ _ _›.2.2.2.2.size); have zK4 := hbK.size))
      all_goals
        go_wp2_with fail
        go_meet
        first
          | exact ⟨rfl, wr3.heap.size, br, mr, dr, rfl, hlr, hbK.size, At2.new _ _ _ _, (Own.mono (ho3.alloc _) zK2).within, hbK.alloc hbK.size _⟩
          | exact ⟨rfl, _, br, mr, dr, rfl, hlr, (by first | omega | (simp; done) | (simp; omega) | (have e2 := hb2.size; omega) | (have e2 := hb2.size; simp at e2; simp; omega)), kW.fill _ _, (((ho3.setCell_below (by first | omega | (simp; done) | (simp; omega) | (have e2 := hb2.size; omega) | (have e2 := hb2.size; simp at e2; simp; omega)) _).setCell_below (by first | omega | (simp; done) | (simp; omega) | (have e2 := hb2.size; omega) | (have e2 := hb2.size; simp at e2; simp; omega)) _).mono (by first | omega | (simp; done) | (simp; omega) | (have e2 := hb2.size; omega) | (have e2 := hb2.size; simp at e2; simp; omega))).within, (hbK.setCell (by first | omega | (simp; done) | (simp; omega) | (have e2 := hb2.size; omega) | (have e2 := hb2.size; simp at e2; simp; omega)) _).setCell (by first | omega | (simp; done) | (simp; omega) | (have e2 := hb2.size; omega) | (have e2 := hb2.size; simp at e2; simp; omega)) _⟩
    case rest =>
      obtain ⟨wc17, hwc⟩ : ∃ x, x = wc := ⟨_, rfl⟩; subst hwc
      obtain ⟨rfl, g17, b17, m17, d17, rfl, hl17, hg17, hW, hP, hb⟩ := hcut
      clear qA01 qA02 qA03 qA04 qA05 qA11 qA12 qA13 qA14 qA15 qW1 qW2 qW3 qW4 qW5 qX01 qX02 qX03 qX04 qX05 qX11 qX12 qX13 qX14 qX15 qG1 qG2 qG3 qG4 qG5
      replace R0 := Lib.hid (R0.out.below hb)
      replace R1 := Lib.hid (R1.out.below hb)
      replace A0 := Lib.hid (A0.out.below hb)
      replace A1 := Lib.hid (A1.out.below hb)
      replace P3 := Lib.hid (P3.out.below hb)
      replace W := Lib.hid (W.out.below hb)
      replace X0 := Lib.hid (X0.out.below hb)
      replace X1 := Lib.hid (X1.out.below hb)
      replace P6 := Lib.hid (P6.out.below hb)
      replace G := Lib.hid (G.out.below hb)
      have z17 : w16.heap.size ≤ wc17.heap.size := hb.size
      have zz17 : g17 < wc17.heap.size := hW.1
      replace BB := Lib.hid (below_go BB.out hb (by omega))
      have H := Lib.hid hW; have P17 := Lib.hid hP; clear hW hP hb
      skip
      obtain ⟨qA01, qA02, qA03, qA04, qA05⟩ := A0.out
      obtain ⟨qA11, qA12, qA13, qA14, qA15⟩ := A1.out
      obtain ⟨qW1, qW2, qW3, qW4, qW5⟩ := W.out
      obtain ⟨qX01, qX02, qX03, qX04, qX05⟩ := X0.out
      obtain ⟨qX11, qX12, qX13, qX14, qX15⟩ := X1.out
      obtain ⟨qG1, qG2, qG3, qG4, qG5⟩ := G.out
      obtain ⟨qH1, qH2, qH3, qH4, qH5⟩ := H.out
      go_wp2_with fail
      refine (eqBraid_yes _ _ _ _ _ _ _ fxs _ P17.out.reads P3.out.reads hl17).mono ?_
      rintro e w18 ⟨rfl, hb⟩
      clear qA01 qA02 qA03 qA04 qA05 qA11 qA12 qA13 qA14 qA15 qW1 qW2 qW3 qW4 qW5 qX01 qX02 qX03 qX04 qX05 qX11 qX12 qX13 qX14 qX15 qG1 qG2 qG3 qG4 qG5 qH1 qH2 qH3 qH4 qH5
      replace R0 := Lib.hid (R0.out.below hb)
      replace R1 := Lib.hid (R1.out.below hb)
      replace A0 := Lib.hid (A0.out.below hb)
      replace A1 := Lib.hid (A1.out.below hb)
      replace P3 := Lib.hid (P3.out.below hb)
      replace W := Lib.hid (W.out.below hb)
      replace X0 := Lib.hid (X0.out.below hb)
      replace X1 := Lib.hid (X1.out.below hb)
      replace P6 := Lib.hid (P6.out.below hb)
      replace G := Lib.hid (G.out.below hb)
      replace P17 := Lib.hid (P17.out.below hb)
      replace H := Lib.hid (H.out.below hb)
      have z18 : wc17.heap.size ≤ w18.heap.size := hb.size
      replace BB := Lib.hid (below_go BB.out hb (by omega))
      clear hb
      obtain ⟨qA01, qA02, qA03, qA04, qA05⟩ := A0.out
      obtain ⟨qA11, qA12, qA13, qA14, qA15⟩ := A1.out
      obtain ⟨qW1, qW2, qW3, qW4, qW5⟩ := W.out
      obtain ⟨qX01, qX02, qX03, qX04, qX05⟩ := X0.out
      obtain ⟨qX11, qX12, qX13, qX14, qX15⟩ := X1.out
      obtain ⟨qG1, qG2, qG3, qG4, qG5⟩ := G.out
      obtain ⟨qH1, qH2, qH3, qH4, qH5⟩ := H.out
      go_wp2_with fail
      refine (heldBraid_any _ _ _ _ _ _ P6.out.reads hl6 (by omega) (by omega)).mono ?_
      rintro e w19 ⟨rfl, hb⟩
      clear qA01 qA02 qA03 qA04 qA05 qA11 qA12 qA13 qA14 qA15 qW1 qW2 qW3 qW4 qW5 qX01 qX02 qX03 qX04 qX05 qX11 qX12 qX13 qX14 qX15 qG1 qG2 qG3 qG4 qG5 qH1 qH2 qH3 qH4 qH5
      replace R0 := Lib.hid (R0.out.below hb)
      replace R1 := Lib.hid (R1.out.below hb)
      replace A0 := Lib.hid (A0.out.below hb)
      replace A1 := Lib.hid (A1.out.below hb)
      replace P3 := Lib.hid (P3.out.below hb)
      replace W := Lib.hid (W.out.below hb)
      replace X0 := Lib.hid (X0.out.below hb)
      replace X1 := Lib.hid (X1.out.below hb)
      replace P6 := Lib.hid (P6.out.below hb)
      replace G := Lib.hid (G.out.below hb)
      replace P17 := Lib.hid (P17.out.below hb)
      replace H := Lib.hid (H.out.below hb)
      have z19 : w18.heap.size ≤ w19.heap.size := hb.size
      replace BB := Lib.hid (below_go BB.out hb (by omega))
      clear hb
      go_wp2
      go_ret
      exact ⟨rfl, BB.out⟩

end Go.Proofs.Ytehcbamfendbaaa
