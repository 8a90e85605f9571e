/- The walk of the law of impl.RemoveStrand: the model's answer and the program's are compared, marks are written into what came back and looked for. -/
import Derived.Test.YtehcbamfendbaaaRemS
import Derived.Deep.RegionHeld3
namespace Go.Proofs.Ytehcbamfendbaaa
open Go.RowKit Go.ChangeShapes

set_option maxRecDepth 100000 in
set_option maxHeartbeats 4000000 in
theorem fnExactRemoveStrand_walk {s0 : Int} {a0 : Option Addr} {n0 cap0 : Nat} {xs0 : List Int} {w : World} (hr0 : Reads w a0 n0 xs0) (hf0 : Fits xs0) (hn0 : n0 ≤ maxLen) (hs0 : (Lit.int .i64 s0).wf = true) :
    Calls Try.prog 9 #[.agg #[.int .i64 s0, .slice a0 n0 cap0]] w fun e w' => e = .returned (.bool true) ∧ Below w.heap.size w w' := by
  have R0 := Lib.hid hr0.old; clear hr0
  have HF0 := Lib.hid hf0; clear hf0
  have HS0 := Lib.hid hs0; clear hs0
  by_cases hk0 : n0 ≤ 1048576
  rotate_left
  · go_enter Try.func9, Try.ntmps9
    replace R0 := Lib.hid (R0.out.alloc (.cells #[.int .i64 s0, .slice a0 n0 cap0] 24))
    have A0 := Lib.hid (At2.new w (.int .i64 s0) (.slice a0 n0 cap0) 24)
    have BB := Lib.hid (below1 w (.cells #[.int .i64 s0, .slice a0 n0 cap0] 24))
    go_wp2_with fail
    refine (szBraid_big _ _ _ _ _ _ (by omega) (by omega) hn0).mono ?_
    rintro e w1 ⟨rfl, hb⟩
    replace R0 := Lib.hid (R0.out.below hb)
    replace A0 := Lib.hid (A0.out.below hb)
    have z1 : w.heap.size + 1 ≤ w1.heap.size := by have := hb.size; simp at this; omega
    replace BB := Lib.hid (below_go BB.out hb (by first | omega | (simp; done) | (simp; omega)))
    clear hb
    go_wp2
    go_ret
    exact ⟨rfl, BB.out⟩
  have hm0 : n0 ≤ 1048576 := by omega
  obtain ⟨fs, fxs, fc, hM⟩ : ∃ fs fxs fc, mRem s0 xs0 = (fs, fxs, fc) := ⟨_, _, _, rfl⟩
  have HM := Lib.hid hM; clear hM
  have t1 : (fc != fc) = false := by simp
  go_enter Try.func9, Try.ntmps9
  replace R0 := Lib.hid (R0.out.alloc (.cells #[.int .i64 s0, .slice a0 n0 cap0] 24))
  have A0 := Lib.hid (At2.new w (.int .i64 s0) (.slice a0 n0 cap0) 24)
  have BB := Lib.hid (below1 w (.cells #[.int .i64 s0, .slice a0 n0 cap0] 24))
  go_wp2_with fail
  refine (szBraid_fit _ _ _ _ _ _ (by omega) (by omega)).mono ?_
  rintro e w1 ⟨rfl, hb⟩
  replace R0 := Lib.hid (R0.out.below hb)
  replace A0 := Lib.hid (A0.out.below hb)
  have z1 : w.heap.size + 1 ≤ w1.heap.size := by have := hb.size; simp at this; omega
  replace BB := Lib.hid (below_go BB.out hb (by first | omega | (simp; done) | (simp; omega)))
  clear hb
  obtain ⟨qA01, qA02, qA03, qA04, qA05⟩ := A0.out
  go_wp2_with fail
  refine (toBraid_any _ _ _ _ xs0 _ R0.out.reads hm0).mono ?_
  rintro e w2 ⟨aw2, nw2, cw2, rfl, ho, hb⟩
  clear qA01 qA02 qA03 qA04 qA05
  have O2 : Hid (OwnIn (w1.heap.size) w2.heap.size w2 aw2 nw2 cw2 xs0) := Lib.hid (by simpa using ho.within); clear ho
  have hnw2 : nw2 ≤ 1048576 := by have := O2.out.len; have := R0.out.reads.len; omega
  replace R0 := Lib.hid (R0.out.below hb)
  replace A0 := Lib.hid (A0.out.below hb)
  have z2 : w1.heap.size ≤ w2.heap.size := hb.size
  replace BB := Lib.hid (below_go BB.out hb (by omega))
  clear hb
  obtain ⟨qA01, qA02, qA03, qA04, qA05⟩ := A0.out
  go_wp2_with fail
  refine (specRemoveStrand_any O2.out.reads HF0.out hnw2 (O2.out.1.cap_ge) HM.out).mono ?_
  rintro e w3 ⟨b3, m3, d3, rfl, hl3, ho, hb⟩
  clear qA01 qA02 qA03 qA04 qA05
  have P3 : Hid (OwnIn (w2.heap.size) w3.heap.size w3 b3 m3 d3 fxs) := Lib.hid (by simpa using ho.within); clear ho
  replace R0 := Lib.hid (R0.out.below hb)
  replace A0 := Lib.hid (A0.out.below hb)
  replace O2 := Lib.hid (O2.out.below hb)
  have z3 : w2.heap.size ≤ w3.heap.size := hb.size
  replace BB := Lib.hid (below_go BB.out hb (by omega))
  clear hb
  obtain ⟨qA01, qA02, qA03, qA04, qA05⟩ := A0.out
  clear O2
  replace R0 := Lib.hid (R0.out.alloc (.cells #[.int .i64 fs, .slice b3 m3 d3] 29))
  replace A0 := Lib.hid (A0.out.alloc (.cells #[.int .i64 fs, .slice b3 m3 d3] 29))
  replace P3 := Lib.hid (P3.out.alloc (.cells #[.int .i64 fs, .slice b3 m3 d3] 29))
  have W := Lib.hid (At2.new w3 (.int .i64 fs) (.slice b3 m3 d3) 29)
  replace BB := Lib.hid (BB.out.alloc (by first | omega | (simp; done) | (simp; omega)) (.cells #[.int .i64 fs, .slice b3 m3 d3] 29))
  go_wp2_with fail
  refine (toBraid_any _ _ _ _ xs0 _ R0.out.reads hm0).mono ?_
  rintro e w4 ⟨aw4, nw4, cw4, rfl, ho, hb⟩
  clear qA01 qA02 qA03 qA04 qA05
  have O4 : Hid (OwnIn (w3.heap.size + 1) w4.heap.size w4 aw4 nw4 cw4 xs0) := Lib.hid (by simpa using ho.within); clear ho
  have hnw4 : nw4 ≤ 1048576 := by have := O4.out.len; have := R0.out.reads.len; omega
  replace R0 := Lib.hid (R0.out.below hb)
  replace A0 := Lib.hid (A0.out.below hb)
  replace P3 := Lib.hid (P3.out.below hb)
  replace W := Lib.hid (W.out.below hb)
  have z4 : w3.heap.size + 1 ≤ w4.heap.size := by have := hb.size; simp at this; omega
  replace BB := Lib.hid (below_go BB.out hb (by first | omega | (simp; done) | (simp; omega)))
  clear hb
  obtain ⟨qA01, qA02, qA03, qA04, qA05⟩ := A0.out
  obtain ⟨qW1, qW2, qW3, qW4, qW5⟩ := W.out
  replace R0 := Lib.hid (R0.out.alloc (.cells #[.int .i64 s0, .slice aw4 nw4 cw4] 29))
  replace A0 := Lib.hid (A0.out.alloc (.cells #[.int .i64 s0, .slice aw4 nw4 cw4] 29))
  replace P3 := Lib.hid (P3.out.alloc (.cells #[.int .i64 s0, .slice aw4 nw4 cw4] 29))
  replace W := Lib.hid (W.out.alloc (.cells #[.int .i64 s0, .slice aw4 nw4 cw4] 29))
  replace O4 := Lib.hid (O4.out.alloc (.cells #[.int .i64 s0, .slice aw4 nw4 cw4] 29))
  have X0 := Lib.hid (At2.new w4 (.int .i64 s0) (.slice aw4 nw4 cw4) 29)
  replace BB := Lib.hid (BB.out.alloc (by first | omega | (simp; done) | (simp; omega)) (.cells #[.int .i64 s0, .slice aw4 nw4 cw4] 29))
  go_wp2_with fail
  refine (implRemoveStrand_any O4.out.reads HF0.out hnw4 (O4.out.1.cap_ge) HM.out).mono ?_
  rintro e w5 ⟨b5, m5, d5, rfl, hl5, ho, hb⟩
  clear qA01 qA02 qA03 qA04 qA05 qW1 qW2 qW3 qW4 qW5
  have P5 : Hid (OwnIn (w4.heap.size + 1) w5.heap.size w5 b5 m5 d5 fxs) := Lib.hid (by simpa using ho.within); clear ho
  replace R0 := Lib.hid (R0.out.below hb)
  replace A0 := Lib.hid (A0.out.below hb)
  replace P3 := Lib.hid (P3.out.below hb)
  replace W := Lib.hid (W.out.below hb)
  replace O4 := Lib.hid (O4.out.below hb)
  replace X0 := Lib.hid (X0.out.below hb)
  have z5 : w4.heap.size + 1 ≤ w5.heap.size := by have := hb.size; simp at this; omega
  replace BB := Lib.hid (below_go BB.out hb (by first | omega | (simp; done) | (simp; omega)))
  clear hb
  obtain ⟨qA01, qA02, qA03, qA04, qA05⟩ := A0.out
  obtain ⟨qW1, qW2, qW3, qW4, qW5⟩ := W.out
  obtain ⟨qX01, qX02, qX03, qX04, qX05⟩ := X0.out
  replace R0 := Lib.hid (R0.out.alloc (.cells #[.int .i64 fs, .slice b5 m5 d5] 29))
  replace A0 := Lib.hid (A0.out.alloc (.cells #[.int .i64 fs, .slice b5 m5 d5] 29))
  replace P3 := Lib.hid (P3.out.alloc (.cells #[.int .i64 fs, .slice b5 m5 d5] 29))
  replace W := Lib.hid (W.out.alloc (.cells #[.int .i64 fs, .slice b5 m5 d5] 29))
  replace O4 := Lib.hid (O4.out.alloc (.cells #[.int .i64 fs, .slice b5 m5 d5] 29))
  replace X0 := Lib.hid (X0.out.alloc (.cells #[.int .i64 fs, .slice b5 m5 d5] 29))
  replace P5 := Lib.hid (P5.out.alloc (.cells #[.int .i64 fs, .slice b5 m5 d5] 29))
  have G := Lib.hid (At2.new w5 (.int .i64 fs) (.slice b5 m5 d5) 29)
  replace BB := Lib.hid (BB.out.alloc (by first | omega | (simp; done) | (simp; omega)) (.cells #[.int .i64 fs, .slice b5 m5 d5] 29))
  go_wp2_with fail
  refine (eqBraid_yes _ _ _ _ _ _ _ fxs _ P5.out.reads P3.out.reads hl5).mono ?_
  rintro e w6 ⟨rfl, hb⟩
  clear qA01 qA02 qA03 qA04 qA05 qW1 qW2 qW3 qW4 qW5 qX01 qX02 qX03 qX04 qX05
  replace R0 := Lib.hid (R0.out.below hb)
  replace A0 := Lib.hid (A0.out.below hb)
  replace P3 := Lib.hid (P3.out.below hb)
  replace W := Lib.hid (W.out.below hb)
  replace O4 := Lib.hid (O4.out.below hb)
  replace X0 := Lib.hid (X0.out.below hb)
  replace P5 := Lib.hid (P5.out.below hb)
  replace G := Lib.hid (G.out.below hb)
  have z6 : w5.heap.size + 1 ≤ w6.heap.size := by have := hb.size; simp at this; omega
  replace BB := Lib.hid (below_go BB.out hb (by first | omega | (simp; done) | (simp; omega)))
  clear hb
  obtain ⟨qA01, qA02, qA03, qA04, qA05⟩ := A0.out
  obtain ⟨qW1, qW2, qW3, qW4, qW5⟩ := W.out
  obtain ⟨qX01, qX02, qX03, qX04, qX05⟩ := X0.out
  obtain ⟨qG1, qG2, qG3, qG4, qG5⟩ := G.out
  go_wp2
  go_region_held3 (fun w' => w'.cell? ⟨w.heap.size, 0, none⟩ = some (.int .i64 s0) ∧ w'.cell? ⟨w.heap.size, 1, none⟩ = some (.slice a0 n0 cap0) ∧ w'.cell? ⟨w4.heap.size, 0, none⟩ = some (.int .i64 s0) ∧ w'.cell? ⟨w4.heap.size, 1, none⟩ = some (.slice aw4 nw4 cw4)) (first | exact ⟨qA02, qA03, qX02, qX03⟩ | exact ⟨rA02, rA03, rX02, rX03⟩)
    (first
      | (go_at_call 18; refine (toBraid_any _ _ _ _ xs0 _ R0.out.drew.reads hm0).mono ?_; rintro e w7 ⟨aw7, nw7, cw7, rfl, ho, hb⟩; obtain ⟨rA01, rA02, rA03, rA04, rA05⟩ := A0.out.drew.below hb; obtain ⟨rX01, rX02, rX03, rX04, rX05⟩ := X0.out.drew.below hb)
      | (go_at_call 21; refine (eqBraid_yes _ _ _ _ _ _ _ xs0 _ (O4.out.drew.below hb).reads ho.reads hnw4).mono ?_; rintro e w8 ⟨rfl, hb'⟩; obtain ⟨rA01, rA02, rA03, rA04, rA05⟩ := (A0.out.drew.below hb).below hb'; obtain ⟨rX01, rX02, rX03, rX04, rX05⟩ := (X0.out.drew.below hb).below hb'))
  clear rA01 rA02 rA03 rA04 rA05 rX01 rX02 rX03 rX04 rX05 ho
  clear qA01 qA02 qA03 qA04 qA05 qW1 qW2 qW3 qW4 qW5 qX01 qX02 qX03 qX04 qX05 qG1 qG2 qG3 qG4 qG5
  replace R0 := Lib.hid ((R0.out.drew.below hb).below hb')
  replace A0 := Lib.hid ((A0.out.drew.below hb).below hb')
  replace P3 := Lib.hid ((P3.out.drew.below hb).below hb')
  replace W := Lib.hid ((W.out.drew.below hb).below hb')
  replace O4 := Lib.hid ((O4.out.drew.below hb).below hb')
  replace X0 := Lib.hid ((X0.out.drew.below hb).below hb')
  replace P5 := Lib.hid ((P5.out.drew.below hb).below hb')
  replace G := Lib.hid ((G.out.drew.below hb).below hb')
  have z7 : w6.heap.size ≤ w7.heap.size := hb.size
  have z8 : w7.heap.size ≤ w8.heap.size := hb'.size
  replace BB := Lib.hid (below_go (below_go BB.out.drew hb (by show _ ≤ w6.heap.size; omega)) hb' (by omega))
  clear hb hb'
  obtain ⟨qA01, qA02, qA03, qA04, qA05⟩ := A0.out
  obtain ⟨qW1, qW2, qW3, qW4, qW5⟩ := W.out
  obtain ⟨qX01, qX02, qX03, qX04, qX05⟩ := X0.out
  obtain ⟨qG1, qG2, qG3, qG4, qG5⟩ := G.out
  go_wp2_with fail
  refine (markBraid_in _ _ _ _ _ _ xs0 _ _ O4.out hnw4 (by omega) (by omega)).mono ?_
  rintro e w9 ⟨rfl, ho, hb⟩
  clear qA01 qA02 qA03 qA04 qA05 qW1 qW2 qW3 qW4 qW5 qX01 qX02 qX03 qX04 qX05 qG1 qG2 qG3 qG4 qG5
  clear ho
  clear O4
  replace R0 := Lib.hid (R0.out.wrote hb (by omega))
  replace A0 := Lib.hid (A0.out.wrote hb (by omega))
  replace P3 := Lib.hid (P3.out.wrote hb (by omega))
  replace W := Lib.hid (W.out.wrote hb (by omega))
  replace X0 := Lib.hid (X0.out.wrote hb (by omega))
  replace P5 := Lib.hid (P5.out.wrote hb (by omega))
  replace G := Lib.hid (G.out.wrote hb (by omega))
  have z9 : w8.heap.size ≤ w9.heap.size := hb.size
  replace BB := Lib.hid (below_write BB.out hb (by omega) (by omega))
  clear hb
  obtain ⟨qA01, qA02, qA03, qA04, qA05⟩ := A0.out
  obtain ⟨qW1, qW2, qW3, qW4, qW5⟩ := W.out
  obtain ⟨qX01, qX02, qX03, qX04, qX05⟩ := X0.out
  obtain ⟨qG1, qG2, qG3, qG4, qG5⟩ := G.out
  go_wp2_with fail
  refine (eqBraid_yes _ _ _ _ _ _ _ fxs _ P5.out.reads P3.out.reads hl5).mono ?_
  rintro e w10 ⟨rfl, hb⟩
  clear qA01 qA02 qA03 qA04 qA05 qW1 qW2 qW3 qW4 qW5 qX01 qX02 qX03 qX04 qX05 qG1 qG2 qG3 qG4 qG5
  replace R0 := Lib.hid (R0.out.below hb)
  replace A0 := Lib.hid (A0.out.below hb)
  replace P3 := Lib.hid (P3.out.below hb)
  replace W := Lib.hid (W.out.below hb)
  replace X0 := Lib.hid (X0.out.below hb)
  replace P5 := Lib.hid (P5.out.below hb)
  replace G := Lib.hid (G.out.below hb)
  have z10 : w9.heap.size ≤ w10.heap.size := hb.size
  replace BB := Lib.hid (below_go BB.out hb (by omega))
  clear hb
  obtain ⟨qA01, qA02, qA03, qA04, qA05⟩ := A0.out
  obtain ⟨qW1, qW2, qW3, qW4, qW5⟩ := W.out
  obtain ⟨qX01, qX02, qX03, qX04, qX05⟩ := X0.out
  obtain ⟨qG1, qG2, qG3, qG4, qG5⟩ := G.out
  go_wp2_with fail
  refine (markBraid_in _ _ _ _ _ _ fxs _ _ P5.out hl5 (by omega) (by omega)).mono ?_
  rintro e w11 ⟨rfl, ho, hb⟩
  clear qA01 qA02 qA03 qA04 qA05 qW1 qW2 qW3 qW4 qW5 qX01 qX02 qX03 qX04 qX05 qG1 qG2 qG3 qG4 qG5
  replace R0 := Lib.hid (R0.out.wrote hb (by omega))
  replace A0 := Lib.hid (A0.out.wrote hb (by omega))
  replace P3 := Lib.hid (P3.out.wrote hb (by omega))
  replace W := Lib.hid (W.out.wrote hb (by omega))
  replace X0 := Lib.hid (X0.out.wrote hb (by omega))
  replace G := Lib.hid (G.out.wrote hb (by omega))
  have z11 : w10.heap.size ≤ w11.heap.size := hb.size
  replace BB := Lib.hid (below_write BB.out hb (by omega) (by omega))
  clear hb
  replace P5 := Lib.hid ho; clear ho
  obtain ⟨qA01, qA02, qA03, qA04, qA05⟩ := A0.out
  obtain ⟨qW1, qW2, qW3, qW4, qW5⟩ := W.out
  obtain ⟨qX01, qX02, qX03, qX04, qX05⟩ := X0.out
  obtain ⟨qG1, qG2, qG3, qG4, qG5⟩ := G.out
  have t3 : ((1 + (m5 : Int)) != (1 + (m5 : Int))) = false := by simp
  go_wp2_with fail
  refine (heldBraid_any _ _ _ _ _ _ P5.out.reads hl5 (by omega) (by omega)).mono ?_
  rintro e w12 ⟨rfl, hb⟩
  clear qA01 qA02 qA03 qA04 qA05 qW1 qW2 qW3 qW4 qW5 qX01 qX02 qX03 qX04 qX05 qG1 qG2 qG3 qG4 qG5
  replace R0 := Lib.hid (R0.out.below hb)
  replace A0 := Lib.hid (A0.out.below hb)
  replace P3 := Lib.hid (P3.out.below hb)
  replace W := Lib.hid (W.out.below hb)
  replace X0 := Lib.hid (X0.out.below hb)
  replace P5 := Lib.hid (P5.out.below hb)
  replace G := Lib.hid (G.out.below hb)
  have z12 : w11.heap.size ≤ w12.heap.size := hb.size
  replace BB := Lib.hid (below_go BB.out hb (by omega))
  clear hb
  obtain ⟨qA01, qA02, qA03, qA04, qA05⟩ := A0.out
  obtain ⟨qW1, qW2, qW3, qW4, qW5⟩ := W.out
  obtain ⟨qX01, qX02, qX03, qX04, qX05⟩ := X0.out
  obtain ⟨qG1, qG2, qG3, qG4, qG5⟩ := G.out
  go_wp2_with fail
  refine (toBraid_any _ _ _ _ xs0 _ R0.out.reads hm0).mono ?_
  rintro e w13 ⟨aw13, nw13, cw13, rfl, ho, hb⟩
  clear qA01 qA02 qA03 qA04 qA05 qW1 qW2 qW3 qW4 qW5 qX01 qX02 qX03 qX04 qX05 qG1 qG2 qG3 qG4 qG5
  have O13 : Hid (OwnIn (w12.heap.size) w13.heap.size w13 aw13 nw13 cw13 xs0) := Lib.hid (by simpa using ho.within); clear ho
  have hnw13 : nw13 ≤ 1048576 := by have := O13.out.len; have := R0.out.reads.len; omega
  replace R0 := Lib.hid (R0.out.below hb)
  replace A0 := Lib.hid (A0.out.below hb)
  replace P3 := Lib.hid (P3.out.below hb)
  replace W := Lib.hid (W.out.below hb)
  replace X0 := Lib.hid (X0.out.below hb)
  replace P5 := Lib.hid (P5.out.below hb)
  replace G := Lib.hid (G.out.below hb)
  have z13 : w12.heap.size ≤ w13.heap.size := hb.size
  replace BB := Lib.hid (below_go BB.out hb (by omega))
  clear hb
  obtain ⟨qA01, qA02, qA03, qA04, qA05⟩ := A0.out
  obtain ⟨qW1, qW2, qW3, qW4, qW5⟩ := W.out
  obtain ⟨qX01, qX02, qX03, qX04, qX05⟩ := X0.out
  obtain ⟨qG1, qG2, qG3, qG4, qG5⟩ := G.out
  go_wp2_with fail
  refine (implRemoveStrand_any O13.out.reads HF0.out hnw13 (O13.out.1.cap_ge) HM.out).mono ?_
  rintro e w14 ⟨b14, m14, d14, rfl, hl14, ho, hb⟩
  clear qA01 qA02 qA03 qA04 qA05 qW1 qW2 qW3 qW4 qW5 qX01 qX02 qX03 qX04 qX05 qG1 qG2 qG3 qG4 qG5
  have P14 : Hid (OwnIn (w13.heap.size) w14.heap.size w14 b14 m14 d14 fxs) := Lib.hid (by simpa using ho.within); clear ho
  replace R0 := Lib.hid (R0.out.below hb)
  replace A0 := Lib.hid (A0.out.below hb)
  replace P3 := Lib.hid (P3.out.below hb)
  replace W := Lib.hid (W.out.below hb)
  replace X0 := Lib.hid (X0.out.below hb)
  replace P5 := Lib.hid (P5.out.below hb)
  replace G := Lib.hid (G.out.below hb)
  replace O13 := Lib.hid (O13.out.below hb)
  have z14 : w13.heap.size ≤ w14.heap.size := hb.size
  replace BB := Lib.hid (below_go BB.out hb (by omega))
  clear hb
  obtain ⟨qA01, qA02, qA03, qA04, qA05⟩ := A0.out
  obtain ⟨qW1, qW2, qW3, qW4, qW5⟩ := W.out
  obtain ⟨qX01, qX02, qX03, qX04, qX05⟩ := X0.out
  obtain ⟨qG1, qG2, qG3, qG4, qG5⟩ := G.out
  replace R0 := Lib.hid (R0.out.alloc (.cells #[.int .i64 fs, .slice b14 m14 d14] 29))
  replace A0 := Lib.hid (A0.out.alloc (.cells #[.int .i64 fs, .slice b14 m14 d14] 29))
  replace P3 := Lib.hid (P3.out.alloc (.cells #[.int .i64 fs, .slice b14 m14 d14] 29))
  replace W := Lib.hid (W.out.alloc (.cells #[.int .i64 fs, .slice b14 m14 d14] 29))
  replace X0 := Lib.hid (X0.out.alloc (.cells #[.int .i64 fs, .slice b14 m14 d14] 29))
  replace P5 := Lib.hid (P5.out.alloc (.cells #[.int .i64 fs, .slice b14 m14 d14] 29))
  replace G := Lib.hid (G.out.alloc (.cells #[.int .i64 fs, .slice b14 m14 d14] 29))
  replace O13 := Lib.hid (O13.out.alloc (.cells #[.int .i64 fs, .slice b14 m14 d14] 29))
  replace P14 := Lib.hid (P14.out.alloc (.cells #[.int .i64 fs, .slice b14 m14 d14] 29))
  have H := Lib.hid (At2.new w14 (.int .i64 fs) (.slice b14 m14 d14) 29)
  replace BB := Lib.hid (BB.out.alloc (by first | omega | (simp; done) | (simp; omega)) (.cells #[.int .i64 fs, .slice b14 m14 d14] 29))
  go_wp2_with fail
  refine (eqBraid_yes _ _ _ _ _ _ _ fxs _ P14.out.reads P3.out.reads hl14).mono ?_
  rintro e w15 ⟨rfl, hb⟩
  clear qA01 qA02 qA03 qA04 qA05 qW1 qW2 qW3 qW4 qW5 qX01 qX02 qX03 qX04 qX05 qG1 qG2 qG3 qG4 qG5
  replace R0 := Lib.hid (R0.out.below hb)
  replace A0 := Lib.hid (A0.out.below hb)
  replace P3 := Lib.hid (P3.out.below hb)
  replace W := Lib.hid (W.out.below hb)
  replace X0 := Lib.hid (X0.out.below hb)
  replace P5 := Lib.hid (P5.out.below hb)
  replace G := Lib.hid (G.out.below hb)
  replace O13 := Lib.hid (O13.out.below hb)
  replace P14 := Lib.hid (P14.out.below hb)
  replace H := Lib.hid (H.out.below hb)
  have z15 : w14.heap.size + 1 ≤ w15.heap.size := by have := hb.size; simp at this; omega
  replace BB := Lib.hid (below_go BB.out hb (by first | omega | (simp; done) | (simp; omega)))
  clear hb
  obtain ⟨qA01, qA02, qA03, qA04, qA05⟩ := A0.out
  obtain ⟨qW1, qW2, qW3, qW4, qW5⟩ := W.out
  obtain ⟨qX01, qX02, qX03, qX04, qX05⟩ := X0.out
  obtain ⟨qG1, qG2, qG3, qG4, qG5⟩ := G.out
  obtain ⟨qH1, qH2, qH3, qH4, qH5⟩ := H.out
  go_wp2_with fail
  refine (heldBraid_any _ _ _ _ _ _ P5.out.reads hl5 (by omega) (by omega)).mono ?_
  rintro e w16 ⟨rfl, hb⟩
  clear qA01 qA02 qA03 qA04 qA05 qW1 qW2 qW3 qW4 qW5 qX01 qX02 qX03 qX04 qX05 qG1 qG2 qG3 qG4 qG5 qH1 qH2 qH3 qH4 qH5
  replace R0 := Lib.hid (R0.out.below hb)
  replace A0 := Lib.hid (A0.out.below hb)
  replace P3 := Lib.hid (P3.out.below hb)
  replace W := Lib.hid (W.out.below hb)
  replace X0 := Lib.hid (X0.out.below hb)
  replace P5 := Lib.hid (P5.out.below hb)
  replace G := Lib.hid (G.out.below hb)
  replace O13 := Lib.hid (O13.out.below hb)
  replace P14 := Lib.hid (P14.out.below hb)
  replace H := Lib.hid (H.out.below hb)
  have z16 : w15.heap.size ≤ w16.heap.size := hb.size
  replace BB := Lib.hid (below_go BB.out hb (by omega))
  clear hb
  go_wp2
  go_ret
  exact ⟨rfl, BB.out⟩

end Go.Proofs.Ytehcbamfendbaaa
