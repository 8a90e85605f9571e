/- The walk of the law of impl.ActOnFree: the model's answer and the program's are compared, marks are written into what came back and looked for. -/
import Derived.Test.YtmlejlediflaaaaSAoF
import Derived.Test.YtmlejlediflaaaaQA
import Derived.Deep.RegionHeld3
namespace Go.Proofs.Ytmlejlediflaaaa
open Go.RowKit Go.ChangeShapes

set_option maxRecDepth 100000 in
set_option maxHeartbeats 4000000 in
theorem fnExactActOnFree_walk {s0 : Int} {a0 : Option Addr} {n0 cap0 : Nat} {xs0 : List Int} {a1 : Option Addr} {n1 cap1 : Nat} {xs1 : List Int} {w : World} (hr0 : Reads w a0 n0 xs0) (hf0 : Fits xs0) (hn0 : n0 ≤ maxLen) (hs0 : (Lit.int .i64 s0).wf = true) (hr1 : Reads w a1 n1 xs1) (hn1 : n1 ≤ maxLen) :
    Calls Try.prog 13 #[.agg #[.int .i64 s0, .slice a0 n0 cap0], .slice a1 n1 cap1] w fun e w' => e = .returned (.bool true) ∧ Below w.heap.size w w' := by
  have R0 := Lib.hid hr0.old; clear hr0
  have HF0 := Lib.hid hf0; clear hf0
  have HS0 := Lib.hid hs0; clear hs0
  have R1 := Lib.hid hr1.old; clear hr1
  by_cases hm1 : n1 ≤ 1048576
  rotate_left
  · go_enter Try.func13, Try.ntmps13
    replace R0 := Lib.hid (R0.out.alloc (.cells #[.int .i64 s0, .slice a0 n0 cap0] 35))
    replace R1 := Lib.hid (R1.out.alloc (.cells #[.int .i64 s0, .slice a0 n0 cap0] 35))
    have A0 := Lib.hid (At2.new w (.int .i64 s0) (.slice a0 n0 cap0) 35)
    have BB := Lib.hid (below1 w (.cells #[.int .i64 s0, .slice a0 n0 cap0] 35))
    unfold maxLen at hn1
    go_wp2
    go_ret
    exact ⟨rfl, BB.out⟩
  by_cases hk0 : n0 ≤ 1048576
  rotate_left
  · go_enter Try.func13, Try.ntmps13
    replace R0 := Lib.hid (R0.out.alloc (.cells #[.int .i64 s0, .slice a0 n0 cap0] 35))
    replace R1 := Lib.hid (R1.out.alloc (.cells #[.int .i64 s0, .slice a0 n0 cap0] 35))
    have A0 := Lib.hid (At2.new w (.int .i64 s0) (.slice a0 n0 cap0) 35)
    have BB := Lib.hid (below1 w (.cells #[.int .i64 s0, .slice a0 n0 cap0] 35))
    go_wp2_with fail
    refine (szBraid_big _ _ _ _ _ _ (by omega) (by omega) hn0).mono ?_
    rintro e w1 ⟨rfl, hb⟩
    replace R0 := Lib.hid (R0.out.below hb)
    replace R1 := Lib.hid (R1.out.below hb)
    replace A0 := Lib.hid (A0.out.below hb)
    have z1 : w.heap.size + 1 ≤ w1.heap.size := by have := hb.size; simp at this; omega
    replace BB := Lib.hid (below_go BB.out hb (by first | omega | (simp; done) | (simp; omega)))
    clear hb
    go_wp2
    go_ret
    exact ⟨rfl, BB.out⟩
  have hm0 : n0 ≤ 1048576 := by omega
  obtain ⟨fxs, fc, hM⟩ : ∃ fxs fc, mActFree s0 xs0 xs1 = (fxs, fc) := ⟨_, _, rfl⟩
  have HM := Lib.hid hM; clear hM
  have t1 : (fc != fc) = false := by simp
  go_enter Try.func13, Try.ntmps13
  replace R0 := Lib.hid (R0.out.alloc (.cells #[.int .i64 s0, .slice a0 n0 cap0] 35))
  replace R1 := Lib.hid (R1.out.alloc (.cells #[.int .i64 s0, .slice a0 n0 cap0] 35))
  have A0 := Lib.hid (At2.new w (.int .i64 s0) (.slice a0 n0 cap0) 35)
  have BB := Lib.hid (below1 w (.cells #[.int .i64 s0, .slice a0 n0 cap0] 35))
  go_wp2_with fail
  refine (szBraid_fit _ _ _ _ _ _ (by omega) (by omega)).mono ?_
  rintro e w1 ⟨rfl, hb⟩
  replace R0 := Lib.hid (R0.out.below hb)
  replace R1 := Lib.hid (R1.out.below hb)
  replace A0 := Lib.hid (A0.out.below hb)
  have z1 : w.heap.size + 1 ≤ w1.heap.size := by have := hb.size; simp at this; omega
  replace BB := Lib.hid (below_go BB.out hb (by first | omega | (simp; done) | (simp; omega)))
  clear hb
  obtain ⟨qA01, qA02, qA03, qA04, qA05⟩ := A0.out
  go_wp2_with fail
  refine (toBraid_any _ _ _ _ xs0 _ R0.out.reads hm0).mono ?_
  rintro e w2 ⟨aw2, nw2, cw2, rfl, ho, hb⟩
  clear qA01 qA02 qA03 qA04 qA05
  have O2 : Hid (OwnIn (w1.heap.size) w2.heap.size w2 aw2 nw2 cw2 xs0) := Lib.hid (by simpa using ho.within); clear ho
  have hnw2 : nw2 ≤ 1048576 := by have := O2.out.len; have := R0.out.reads.len; omega
  replace R0 := Lib.hid (R0.out.below hb)
  replace R1 := Lib.hid (R1.out.below hb)
  replace A0 := Lib.hid (A0.out.below hb)
  have z2 : w1.heap.size ≤ w2.heap.size := hb.size
  replace BB := Lib.hid (below_go BB.out hb (by omega))
  clear hb
  obtain ⟨qA01, qA02, qA03, qA04, qA05⟩ := A0.out
  go_wp2_with fail
  refine (toInt64S_any _ _ _ xs1 _ R1.out.reads hm1).mono ?_
  rintro e w3 ⟨aw3, cw3, rfl, ho, hb⟩
  clear qA01 qA02 qA03 qA04 qA05
  have O3 : Hid (OwnIn (w2.heap.size) w3.heap.size w3 aw3 n1 cw3 xs1) := Lib.hid (by simpa using ho.within); clear ho
  replace R0 := Lib.hid (R0.out.below hb)
  replace R1 := Lib.hid (R1.out.below hb)
  replace A0 := Lib.hid (A0.out.below hb)
  replace O2 := Lib.hid (O2.out.below hb)
  have z3 : w2.heap.size ≤ w3.heap.size := hb.size
  replace BB := Lib.hid (below_go BB.out hb (by omega))
  clear hb
  obtain ⟨qA01, qA02, qA03, qA04, qA05⟩ := A0.out
  go_wp2_with fail
  refine (specActOnFree_any O2.out.reads HF0.out hnw2 HS0.out O3.out.reads hm1 HM.out).mono ?_
  rintro e w4 ⟨b4, m4, d4, rfl, hl4, ho, hb⟩
  clear qA01 qA02 qA03 qA04 qA05
  have P4 : Hid (OwnIn (w3.heap.size) w4.heap.size w4 b4 m4 d4 fxs) := Lib.hid (by simpa using ho.within); clear ho
  replace R0 := Lib.hid (R0.out.below hb)
  replace R1 := Lib.hid (R1.out.below hb)
  replace A0 := Lib.hid (A0.out.below hb)
  replace O2 := Lib.hid (O2.out.below hb)
  replace O3 := Lib.hid (O3.out.below hb)
  have z4 : w3.heap.size ≤ w4.heap.size := hb.size
  replace BB := Lib.hid (below_go BB.out hb (by omega))
  clear hb
  obtain ⟨qA01, qA02, qA03, qA04, qA05⟩ := A0.out
  clear O2
  clear O3
  go_wp2_with fail
  refine (toBraid_any _ _ _ _ xs0 _ R0.out.reads hm0).mono ?_
  rintro e w5 ⟨aw5, nw5, cw5, rfl, ho, hb⟩
  clear qA01 qA02 qA03 qA04 qA05
  have O5 : Hid (OwnIn (w4.heap.size) w5.heap.size w5 aw5 nw5 cw5 xs0) := Lib.hid (by simpa using ho.within); clear ho
  have hnw5 : nw5 ≤ 1048576 := by have := O5.out.len; have := R0.out.reads.len; omega
  replace R0 := Lib.hid (R0.out.below hb)
  replace R1 := Lib.hid (R1.out.below hb)
  replace A0 := Lib.hid (A0.out.below hb)
  replace P4 := Lib.hid (P4.out.below hb)
  have z5 : w4.heap.size ≤ w5.heap.size := hb.size
  replace BB := Lib.hid (below_go BB.out hb (by omega))
  clear hb
  obtain ⟨qA01, qA02, qA03, qA04, qA05⟩ := A0.out
  replace R0 := Lib.hid (R0.out.alloc (.cells #[.int .i64 s0, .slice aw5 nw5 cw5] 24))
  replace R1 := Lib.hid (R1.out.alloc (.cells #[.int .i64 s0, .slice aw5 nw5 cw5] 24))
  replace A0 := Lib.hid (A0.out.alloc (.cells #[.int .i64 s0, .slice aw5 nw5 cw5] 24))
  replace P4 := Lib.hid (P4.out.alloc (.cells #[.int .i64 s0, .slice aw5 nw5 cw5] 24))
  replace O5 := Lib.hid (O5.out.alloc (.cells #[.int .i64 s0, .slice aw5 nw5 cw5] 24))
  have X0 := Lib.hid (At2.new w5 (.int .i64 s0) (.slice aw5 nw5 cw5) 24)
  replace BB := Lib.hid (BB.out.alloc (by first | omega | (simp; done) | (simp; omega)) (.cells #[.int .i64 s0, .slice aw5 nw5 cw5] 24))
  go_wp2_with fail
  refine (toInt64S_any _ _ _ xs1 _ R1.out.reads hm1).mono ?_
  rintro e w6 ⟨aw6, cw6, rfl, ho, hb⟩
  clear qA01 qA02 qA03 qA04 qA05
  have O6 : Hid (OwnIn (w5.heap.size + 1) w6.heap.size w6 aw6 n1 cw6 xs1) := Lib.hid (by simpa using ho.within); clear ho
  replace R0 := Lib.hid (R0.out.below hb)
  replace R1 := Lib.hid (R1.out.below hb)
  replace A0 := Lib.hid (A0.out.below hb)
  replace P4 := Lib.hid (P4.out.below hb)
  replace O5 := Lib.hid (O5.out.below hb)
  replace X0 := Lib.hid (X0.out.below hb)
  have z6 : w5.heap.size + 1 ≤ w6.heap.size := by have := hb.size; simp at this; omega
  replace BB := Lib.hid (below_go BB.out hb (by first | omega | (simp; done) | (simp; omega)))
  clear hb
  obtain ⟨qA01, qA02, qA03, qA04, qA05⟩ := A0.out
  obtain ⟨qX01, qX02, qX03, qX04, qX05⟩ := X0.out
  go_wp2_with fail
  refine (implActOnFree_s O5.out.reads HF0.out hnw5 HS0.out O6.out.reads hm1 HM.out).mono ?_
  rintro e w7 ⟨b7, m7, d7, rfl, hl7, ho, hb⟩
  clear qA01 qA02 qA03 qA04 qA05 qX01 qX02 qX03 qX04 qX05
  have P7 : Hid (OwnIn (w6.heap.size) w7.heap.size w7 b7 m7 d7 fxs) := Lib.hid (by simpa using ho.within); clear ho
  replace R0 := Lib.hid (R0.out.below hb)
  replace R1 := Lib.hid (R1.out.below hb)
  replace A0 := Lib.hid (A0.out.below hb)
  replace P4 := Lib.hid (P4.out.below hb)
  replace O5 := Lib.hid (O5.out.below hb)
  replace X0 := Lib.hid (X0.out.below hb)
  replace O6 := Lib.hid (O6.out.below hb)
  have z7 : w6.heap.size ≤ w7.heap.size := hb.size
  replace BB := Lib.hid (below_go BB.out hb (by omega))
  clear hb
  obtain ⟨qA01, qA02, qA03, qA04, qA05⟩ := A0.out
  obtain ⟨qX01, qX02, qX03, qX04, qX05⟩ := X0.out
  go_wp2_with fail
  refine (eqInt64S_yes _ _ _ _ _ _ fxs _ P7.out.reads P4.out.reads hl7).mono ?_
  rintro e w8 ⟨rfl, hb⟩
  clear qA01 qA02 qA03 qA04 qA05 qX01 qX02 qX03 qX04 qX05
  replace R0 := Lib.hid (R0.out.below hb)
  replace R1 := Lib.hid (R1.out.below hb)
  replace A0 := Lib.hid (A0.out.below hb)
  replace P4 := Lib.hid (P4.out.below hb)
  replace O5 := Lib.hid (O5.out.below hb)
  replace X0 := Lib.hid (X0.out.below hb)
  replace O6 := Lib.hid (O6.out.below hb)
  replace P7 := Lib.hid (P7.out.below hb)
  have z8 : w7.heap.size ≤ w8.heap.size := hb.size
  replace BB := Lib.hid (below_go BB.out hb (by omega))
  clear hb
  obtain ⟨qA01, qA02, qA03, qA04, qA05⟩ := A0.out
  obtain ⟨qX01, qX02, qX03, qX04, qX05⟩ := X0.out
  go_wp2
  go_region_held3 (fun w' => w'.cell? ⟨w.heap.size, 0, none⟩ = some (.int .i64 s0) ∧ w'.cell? ⟨w.heap.size, 1, none⟩ = some (.slice a0 n0 cap0) ∧ w'.cell? ⟨w5.heap.size, 0, none⟩ = some (.int .i64 s0) ∧ w'.cell? ⟨w5.heap.size, 1, none⟩ = some (.slice aw5 nw5 cw5)) (first | exact ⟨qA02, qA03, qX02, qX03⟩ | exact ⟨rA02, rA03, rX02, rX03⟩)
    (first
      | (go_at_call 29; refine (toBraid_any _ _ _ _ xs0 _ R0.out.drew.reads hm0).mono ?_; rintro e w9 ⟨aw9, nw9, cw9, rfl, ho, hb⟩; obtain ⟨rA01, rA02, rA03, rA04, rA05⟩ := A0.out.drew.below hb; obtain ⟨rX01, rX02, rX03, rX04, rX05⟩ := X0.out.drew.below hb)
      | (go_at_call 19; refine (eqBraid_yes _ _ _ _ _ _ _ xs0 _ (O5.out.drew.below hb).reads ho.reads hnw5).mono ?_; rintro e w10 ⟨rfl, hb'⟩; obtain ⟨rA01, rA02, rA03, rA04, rA05⟩ := (A0.out.drew.below hb).below hb'; obtain ⟨rX01, rX02, rX03, rX04, rX05⟩ := (X0.out.drew.below hb).below hb'))
  clear rA01 rA02 rA03 rA04 rA05 rX01 rX02 rX03 rX04 rX05 ho
  clear qA01 qA02 qA03 qA04 qA05 qX01 qX02 qX03 qX04 qX05
  replace R0 := Lib.hid ((R0.out.drew.below hb).below hb')
  replace R1 := Lib.hid ((R1.out.drew.below hb).below hb')
  replace A0 := Lib.hid ((A0.out.drew.below hb).below hb')
  replace P4 := Lib.hid ((P4.out.drew.below hb).below hb')
  replace O5 := Lib.hid ((O5.out.drew.below hb).below hb')
  replace X0 := Lib.hid ((X0.out.drew.below hb).below hb')
  replace O6 := Lib.hid ((O6.out.drew.below hb).below hb')
  replace P7 := Lib.hid ((P7.out.drew.below hb).below hb')
  have z9 : w8.heap.size ≤ w9.heap.size := hb.size
  have z10 : w9.heap.size ≤ w10.heap.size := hb'.size
  replace BB := Lib.hid (below_go (below_go BB.out.drew hb (by show _ ≤ w8.heap.size; omega)) hb' (by omega))
  clear hb hb'
  obtain ⟨qA01, qA02, qA03, qA04, qA05⟩ := A0.out
  obtain ⟨qX01, qX02, qX03, qX04, qX05⟩ := X0.out
  go_wp2_with fail
  refine (toInt64S_any _ _ _ xs1 _ R1.out.reads hm1).mono ?_
  rintro e w11 ⟨aw11, cw11, rfl, ho, hb⟩
  clear qA01 qA02 qA03 qA04 qA05 qX01 qX02 qX03 qX04 qX05
  have O11 : Hid (OwnIn (w10.heap.size) w11.heap.size w11 aw11 n1 cw11 xs1) := Lib.hid (by simpa using ho.within); clear ho
  replace R0 := Lib.hid (R0.out.below hb)
  replace R1 := Lib.hid (R1.out.below hb)
  replace A0 := Lib.hid (A0.out.below hb)
  replace P4 := Lib.hid (P4.out.below hb)
  replace O5 := Lib.hid (O5.out.below hb)
  replace X0 := Lib.hid (X0.out.below hb)
  replace O6 := Lib.hid (O6.out.below hb)
  replace P7 := Lib.hid (P7.out.below hb)
  have z11 : w10.heap.size ≤ w11.heap.size := hb.size
  replace BB := Lib.hid (below_go BB.out hb (by omega))
  clear hb
  obtain ⟨qA01, qA02, qA03, qA04, qA05⟩ := A0.out
  obtain ⟨qX01, qX02, qX03, qX04, qX05⟩ := X0.out
  go_wp2_with fail
  refine (eqInt64S_yes _ _ _ _ _ _ xs1 _ O6.out.reads O11.out.reads hm1).mono ?_
  rintro e w12 ⟨rfl, hb⟩
  clear qA01 qA02 qA03 qA04 qA05 qX01 qX02 qX03 qX04 qX05
  replace R0 := Lib.hid (R0.out.below hb)
  replace R1 := Lib.hid (R1.out.below hb)
  replace A0 := Lib.hid (A0.out.below hb)
  replace P4 := Lib.hid (P4.out.below hb)
  replace O5 := Lib.hid (O5.out.below hb)
  replace X0 := Lib.hid (X0.out.below hb)
  replace O6 := Lib.hid (O6.out.below hb)
  replace P7 := Lib.hid (P7.out.below hb)
  replace O11 := Lib.hid (O11.out.below hb)
  have z12 : w11.heap.size ≤ w12.heap.size := hb.size
  replace BB := Lib.hid (below_go BB.out hb (by omega))
  clear hb
  obtain ⟨qA01, qA02, qA03, qA04, qA05⟩ := A0.out
  obtain ⟨qX01, qX02, qX03, qX04, qX05⟩ := X0.out
  clear O11
  go_wp2_with fail
  refine (markBraid_in _ _ _ _ _ _ xs0 _ _ O5.out hnw5 (by omega) (by omega)).mono ?_
  rintro e w13 ⟨rfl, ho, hb⟩
  clear qA01 qA02 qA03 qA04 qA05 qX01 qX02 qX03 qX04 qX05
  clear ho
  clear O5
  replace R0 := Lib.hid (R0.out.wrote hb (by omega))
  replace R1 := Lib.hid (R1.out.wrote hb (by omega))
  replace A0 := Lib.hid (A0.out.wrote hb (by omega))
  replace P4 := Lib.hid (P4.out.wrote hb (by omega))
  replace X0 := Lib.hid (X0.out.wrote hb (by omega))
  replace O6 := Lib.hid (O6.out.wrote hb (by omega))
  replace P7 := Lib.hid (P7.out.wrote hb (by omega))
  have z13 : w12.heap.size ≤ w13.heap.size := hb.size
  replace BB := Lib.hid (below_write BB.out hb (by omega) (by omega))
  clear hb
  obtain ⟨qA01, qA02, qA03, qA04, qA05⟩ := A0.out
  obtain ⟨qX01, qX02, qX03, qX04, qX05⟩ := X0.out
  go_wp2_with fail
  refine (markInt64S_in _ _ _ _ _ xs1 _ _ O6.out hm1 (by omega) (by omega)).mono ?_
  rintro e w14 ⟨rfl, ho, hb⟩
  clear qA01 qA02 qA03 qA04 qA05 qX01 qX02 qX03 qX04 qX05
  clear ho
  clear O6
  replace R0 := Lib.hid (R0.out.wrote hb (by omega))
  replace R1 := Lib.hid (R1.out.wrote hb (by omega))
  replace A0 := Lib.hid (A0.out.wrote hb (by omega))
  replace P4 := Lib.hid (P4.out.wrote hb (by omega))
  replace X0 := Lib.hid (X0.out.wrote hb (by omega))
  replace P7 := Lib.hid (P7.out.wrote hb (by omega))
  have z14 : w13.heap.size ≤ w14.heap.size := hb.size
  replace BB := Lib.hid (below_write BB.out hb (by omega) (by omega))
  clear hb
  obtain ⟨qA01, qA02, qA03, qA04, qA05⟩ := A0.out
  obtain ⟨qX01, qX02, qX03, qX04, qX05⟩ := X0.out
  go_wp2_with fail
  refine (eqInt64S_yes _ _ _ _ _ _ fxs _ P7.out.reads P4.out.reads hl7).mono ?_
  rintro e w15 ⟨rfl, hb⟩
  clear qA01 qA02 qA03 qA04 qA05 qX01 qX02 qX03 qX04 qX05
  replace R0 := Lib.hid (R0.out.below hb)
  replace R1 := Lib.hid (R1.out.below hb)
  replace A0 := Lib.hid (A0.out.below hb)
  replace P4 := Lib.hid (P4.out.below hb)
  replace X0 := Lib.hid (X0.out.below hb)
  replace P7 := Lib.hid (P7.out.below hb)
  have z15 : w14.heap.size ≤ w15.heap.size := hb.size
  replace BB := Lib.hid (below_go BB.out hb (by omega))
  clear hb
  obtain ⟨qA01, qA02, qA03, qA04, qA05⟩ := A0.out
  obtain ⟨qX01, qX02, qX03, qX04, qX05⟩ := X0.out
  go_wp2_with fail
  refine (markInt64S_in _ _ _ _ _ fxs _ _ P7.out hl7 (by omega) (by omega)).mono ?_
  rintro e w16 ⟨rfl, ho, hb⟩
  clear qA01 qA02 qA03 qA04 qA05 qX01 qX02 qX03 qX04 qX05
  replace R0 := Lib.hid (R0.out.wrote hb (by omega))
  replace R1 := Lib.hid (R1.out.wrote hb (by omega))
  replace A0 := Lib.hid (A0.out.wrote hb (by omega))
  replace P4 := Lib.hid (P4.out.wrote hb (by omega))
  replace X0 := Lib.hid (X0.out.wrote hb (by omega))
  have z16 : w15.heap.size ≤ w16.heap.size := hb.size
  replace BB := Lib.hid (below_write BB.out hb (by omega) (by omega))
  clear hb
  replace P7 := Lib.hid ho; clear ho
  obtain ⟨qA01, qA02, qA03, qA04, qA05⟩ := A0.out
  obtain ⟨qX01, qX02, qX03, qX04, qX05⟩ := X0.out
  have t3 : ((1 + (m7 : Int)) != (1 + (m7 : Int))) = false := by simp
  go_wp2_with fail
  refine (heldInt64S_be _ _ _ _ _ P7.out.reads hl7 (by omega) (by omega)).mono ?_
  rintro e w17 ⟨rfl, hb⟩
  clear qA01 qA02 qA03 qA04 qA05 qX01 qX02 qX03 qX04 qX05
  replace R0 := Lib.hid (R0.out.below hb)
  replace R1 := Lib.hid (R1.out.below hb)
  replace A0 := Lib.hid (A0.out.below hb)
  replace P4 := Lib.hid (P4.out.below hb)
  replace X0 := Lib.hid (X0.out.below hb)
  replace P7 := Lib.hid (P7.out.below hb)
  have z17 : w16.heap.size ≤ w17.heap.size := hb.size
  replace BB := Lib.hid (below_go BB.out hb (by omega))
  clear hb
  obtain ⟨qA01, qA02, qA03, qA04, qA05⟩ := A0.out
  obtain ⟨qX01, qX02, qX03, qX04, qX05⟩ := X0.out
  go_wp2_with fail
  refine (toBraid_any _ _ _ _ xs0 _ R0.out.reads hm0).mono ?_
  rintro e w18 ⟨aw18, nw18, cw18, rfl, ho, hb⟩
  clear qA01 qA02 qA03 qA04 qA05 qX01 qX02 qX03 qX04 qX05
  have O18 : Hid (OwnIn (w17.heap.size) w18.heap.size w18 aw18 nw18 cw18 xs0) := Lib.hid (by simpa using ho.within); clear ho
  have hnw18 : nw18 ≤ 1048576 := by have := O18.out.len; have := R0.out.reads.len; omega
  replace R0 := Lib.hid (R0.out.below hb)
  replace R1 := Lib.hid (R1.out.below hb)
  replace A0 := Lib.hid (A0.out.below hb)
  replace P4 := Lib.hid (P4.out.below hb)
  replace X0 := Lib.hid (X0.out.below hb)
  replace P7 := Lib.hid (P7.out.below hb)
  have z18 : w17.heap.size ≤ w18.heap.size := hb.size
  replace BB := Lib.hid (below_go BB.out hb (by omega))
  clear hb
  obtain ⟨qA01, qA02, qA03, qA04, qA05⟩ := A0.out
  obtain ⟨qX01, qX02, qX03, qX04, qX05⟩ := X0.out
  go_wp2_with fail
  refine (toInt64S_any _ _ _ xs1 _ R1.out.reads hm1).mono ?_
  rintro e w19 ⟨aw19, cw19, rfl, ho, hb⟩
  clear qA01 qA02 qA03 qA04 qA05 qX01 qX02 qX03 qX04 qX05
  have O19 : Hid (OwnIn (w18.heap.size) w19.heap.size w19 aw19 n1 cw19 xs1) := Lib.hid (by simpa using ho.within); clear ho
  replace R0 := Lib.hid (R0.out.below hb)
  replace R1 := Lib.hid (R1.out.below hb)
  replace A0 := Lib.hid (A0.out.below hb)
  replace P4 := Lib.hid (P4.out.below hb)
  replace X0 := Lib.hid (X0.out.below hb)
  replace P7 := Lib.hid (P7.out.below hb)
  replace O18 := Lib.hid (O18.out.below hb)
  have z19 : w18.heap.size ≤ w19.heap.size := hb.size
  replace BB := Lib.hid (below_go BB.out hb (by omega))
  clear hb
  obtain ⟨qA01, qA02, qA03, qA04, qA05⟩ := A0.out
  obtain ⟨qX01, qX02, qX03, qX04, qX05⟩ := X0.out
  go_wp2_with fail
  refine (implActOnFree_s O18.out.reads HF0.out hnw18 HS0.out O19.out.reads hm1 HM.out).mono ?_
  rintro e w20 ⟨b20, m20, d20, rfl, hl20, ho, hb⟩
  clear qA01 qA02 qA03 qA04 qA05 qX01 qX02 qX03 qX04 qX05
  have P20 : Hid (OwnIn (w19.heap.size) w20.heap.size w20 b20 m20 d20 fxs) := Lib.hid (by simpa using ho.within); clear ho
  replace R0 := Lib.hid (R0.out.below hb)
  replace R1 := Lib.hid (R1.out.below hb)
  replace A0 := Lib.hid (A0.out.below hb)
  replace P4 := Lib.hid (P4.out.below hb)
  replace X0 := Lib.hid (X0.out.below hb)
  replace P7 := Lib.hid (P7.out.below hb)
  replace O18 := Lib.hid (O18.out.below hb)
  replace O19 := Lib.hid (O19.out.below hb)
  have z20 : w19.heap.size ≤ w20.heap.size := hb.size
  replace BB := Lib.hid (below_go BB.out hb (by omega))
  clear hb
  obtain ⟨qA01, qA02, qA03, qA04, qA05⟩ := A0.out
  obtain ⟨qX01, qX02, qX03, qX04, qX05⟩ := X0.out
  go_wp2_with fail
  refine (eqInt64S_yes _ _ _ _ _ _ fxs _ P20.out.reads P4.out.reads hl20).mono ?_
  rintro e w21 ⟨rfl, hb⟩
  clear qA01 qA02 qA03 qA04 qA05 qX01 qX02 qX03 qX04 qX05
  replace R0 := Lib.hid (R0.out.below hb)
  replace R1 := Lib.hid (R1.out.below hb)
  replace A0 := Lib.hid (A0.out.below hb)
  replace P4 := Lib.hid (P4.out.below hb)
  replace X0 := Lib.hid (X0.out.below hb)
  replace P7 := Lib.hid (P7.out.below hb)
  replace O18 := Lib.hid (O18.out.below hb)
  replace O19 := Lib.hid (O19.out.below hb)
  replace P20 := Lib.hid (P20.out.below hb)
  have z21 : w20.heap.size ≤ w21.heap.size := hb.size
  replace BB := Lib.hid (below_go BB.out hb (by omega))
  clear hb
  obtain ⟨qA01, qA02, qA03, qA04, qA05⟩ := A0.out
  obtain ⟨qX01, qX02, qX03, qX04, qX05⟩ := X0.out
  go_wp2_with fail
  refine (heldInt64S_be _ _ _ _ _ P7.out.reads hl7 (by omega) (by omega)).mono ?_
  rintro e w22 ⟨rfl, hb⟩
  clear qA01 qA02 qA03 qA04 qA05 qX01 qX02 qX03 qX04 qX05
  replace R0 := Lib.hid (R0.out.below hb)
  replace R1 := Lib.hid (R1.out.below hb)
  replace A0 := Lib.hid (A0.out.below hb)
  replace P4 := Lib.hid (P4.out.below hb)
  replace X0 := Lib.hid (X0.out.below hb)
  replace P7 := Lib.hid (P7.out.below hb)
  replace O18 := Lib.hid (O18.out.below hb)
  replace O19 := Lib.hid (O19.out.below hb)
  replace P20 := Lib.hid (P20.out.below hb)
  have z22 : w21.heap.size ≤ w22.heap.size := hb.size
  replace BB := Lib.hid (below_go BB.out hb (by omega))
  clear hb
  go_wp2
  go_ret
  exact ⟨rfl, BB.out⟩

end Go.Proofs.Ytmlejlediflaaaa
