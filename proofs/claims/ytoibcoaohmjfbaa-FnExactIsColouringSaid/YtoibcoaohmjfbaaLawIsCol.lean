/- The walk of the law of impl.IsColouring: the model's answer and the program's are compared, marks are written into what came back and looked for. -/
import Derived.Test.YtoibcoaohmjfbaaEColS
import Derived.Test.YtoibcoaohmjfbaaQA
import Derived.Deep.RegionHeld3
namespace Go.Proofs.Ytoibcoaohmjfbaa
open Go.RowKit Go.ChangeShapes

set_option maxRecDepth 100000 in
set_option maxHeartbeats 4000000 in
theorem fnExactIsColouring_walk {s0 : Int} {a0 : Option Addr} {n0 cap0 : Nat} {xs0 : List Int} {s1 : Int} {a2 : Option Addr} {n2 cap2 : Nat} {xs2 : List Int} {w : World} (hr0 : Reads w a0 n0 xs0) (hf0 : Fits xs0) (hn0 : n0 ≤ maxLen) (hs0 : (Lit.int .i64 s0).wf = true) (hs1 : (Lit.int .i64 s1).wf = true) (hr2 : Reads w a2 n2 xs2) (hn2 : n2 ≤ maxLen) :
    Calls Try.prog 11 #[.agg #[.int .i64 s0, .slice a0 n0 cap0], .int .i64 s1, .slice a2 n2 cap2] w fun e w' => e = .returned (.bool true) ∧ Below w.heap.size w w' := by
  have R0 := Lib.hid hr0.old; clear hr0
  have HF0 := Lib.hid hf0; clear hf0
  have HS0 := Lib.hid hs0; clear hs0
  have HS1 := Lib.hid hs1; clear hs1
  have R2 := Lib.hid hr2.old; clear hr2
  by_cases hm2 : n2 ≤ 1048576
  rotate_left
  · go_enter Try.func11, Try.ntmps11
    replace R0 := Lib.hid (R0.out.alloc (.cells #[.int .i64 s0, .slice a0 n0 cap0] 32))
    replace R2 := Lib.hid (R2.out.alloc (.cells #[.int .i64 s0, .slice a0 n0 cap0] 32))
    have A0 := Lib.hid (At2.new w (.int .i64 s0) (.slice a0 n0 cap0) 32)
    have BB := Lib.hid (below1 w (.cells #[.int .i64 s0, .slice a0 n0 cap0] 32))
    unfold maxLen at hn2
    go_wp2
    go_ret
    exact ⟨rfl, BB.out⟩
  by_cases hk0 : n0 ≤ 1048576
  rotate_left
  · go_enter Try.func11, Try.ntmps11
    replace R0 := Lib.hid (R0.out.alloc (.cells #[.int .i64 s0, .slice a0 n0 cap0] 32))
    replace R2 := Lib.hid (R2.out.alloc (.cells #[.int .i64 s0, .slice a0 n0 cap0] 32))
    have A0 := Lib.hid (At2.new w (.int .i64 s0) (.slice a0 n0 cap0) 32)
    have BB := Lib.hid (below1 w (.cells #[.int .i64 s0, .slice a0 n0 cap0] 32))
    go_wp2_with fail
    refine (szBraid_big _ _ _ _ _ _ (by omega) (by omega) hn0).mono ?_
    rintro e w1 ⟨rfl, hb⟩
    replace R0 := Lib.hid (R0.out.below hb)
    replace R2 := Lib.hid (R2.out.below hb)
    replace A0 := Lib.hid (A0.out.below hb)
    have z1 : w.heap.size + 1 ≤ w1.heap.size := by have := hb.size; simp at this; omega
    replace BB := Lib.hid (below_go BB.out hb (by first | omega | (simp; done) | (simp; omega)))
    clear hb
    go_wp2
    go_ret
    exact ⟨rfl, BB.out⟩
  have hm0 : n0 ≤ 1048576 := by omega
  obtain ⟨fb, fc, hM⟩ : ∃ fb fc, mIsCol s0 xs0 s1 xs2 = (fb, fc) := ⟨_, _, rfl⟩
  have HM := Lib.hid hM; clear hM
  have t1 : (fc != fc) = false := by simp
  have t2 : (fb != fb) = false := by simp
  go_enter Try.func11, Try.ntmps11
  replace R0 := Lib.hid (R0.out.alloc (.cells #[.int .i64 s0, .slice a0 n0 cap0] 32))
  replace R2 := Lib.hid (R2.out.alloc (.cells #[.int .i64 s0, .slice a0 n0 cap0] 32))
  have A0 := Lib.hid (At2.new w (.int .i64 s0) (.slice a0 n0 cap0) 32)
  have BB := Lib.hid (below1 w (.cells #[.int .i64 s0, .slice a0 n0 cap0] 32))
  go_wp2_with fail
  refine (szBraid_fit _ _ _ _ _ _ (by omega) (by omega)).mono ?_
  rintro e w1 ⟨rfl, hb⟩
  replace R0 := Lib.hid (R0.out.below hb)
  replace R2 := Lib.hid (R2.out.below hb)
  replace A0 := Lib.hid (A0.out.below hb)
  have z1 : w.heap.size + 1 ≤ w1.heap.size := by have := hb.size; simp at this; omega
  replace BB := Lib.hid (below_go BB.out hb (by first | omega | (simp; done) | (simp; omega)))
  clear hb
  obtain ⟨qA01, qA02, qA03, qA04, qA05⟩ := A0.out
  go_wp2_with fail
  refine (toBraid_any _ _ _ _ xs0 _ R0.out.reads hm0).mono ?_
  rintro e w2 ⟨aw2, nw2, cw2, rfl, ho, hb⟩
  clear qA01 qA02 qA03 qA04 qA05
  have O2 : Hid (OwnIn (w1.heap.size) w2.heap.size w2 aw2 nw2 cw2 xs0) := Lib.hid (by simpa using ho.within); clear ho
  have hnw2 : nw2 ≤ 1048576 := by have := O2.out.len; have := R0.out.reads.len; omega
  replace R0 := Lib.hid (R0.out.below hb)
  replace R2 := Lib.hid (R2.out.below hb)
  replace A0 := Lib.hid (A0.out.below hb)
  have z2 : w1.heap.size ≤ w2.heap.size := hb.size
  replace BB := Lib.hid (below_go BB.out hb (by omega))
  clear hb
  obtain ⟨qA01, qA02, qA03, qA04, qA05⟩ := A0.out
  go_wp2_with fail
  refine (toInt64S_any _ _ _ xs2 _ R2.out.reads hm2).mono ?_
  rintro e w3 ⟨aw3, cw3, rfl, ho, hb⟩
  clear qA01 qA02 qA03 qA04 qA05
  have O3 : Hid (OwnIn (w2.heap.size) w3.heap.size w3 aw3 n2 cw3 xs2) := Lib.hid (by simpa using ho.within); clear ho
  replace R0 := Lib.hid (R0.out.below hb)
  replace R2 := Lib.hid (R2.out.below hb)
  replace A0 := Lib.hid (A0.out.below hb)
  replace O2 := Lib.hid (O2.out.below hb)
  have z3 : w2.heap.size ≤ w3.heap.size := hb.size
  replace BB := Lib.hid (below_go BB.out hb (by omega))
  clear hb
  obtain ⟨qA01, qA02, qA03, qA04, qA05⟩ := A0.out
  go_wp2_with fail
  refine (specIsColouring_any O2.out.reads HF0.out hnw2 HS1.out O3.out.reads hm2 HM.out).mono ?_
  rintro e w4 ⟨rfl, hb⟩
  clear qA01 qA02 qA03 qA04 qA05
  replace R0 := Lib.hid (R0.out.below hb)
  replace R2 := Lib.hid (R2.out.below hb)
  replace A0 := Lib.hid (A0.out.below hb)
  replace O2 := Lib.hid (O2.out.below hb)
  replace O3 := Lib.hid (O3.out.below hb)
  have z4 : w3.heap.size ≤ w4.heap.size := hb.size
  replace BB := Lib.hid (below_go BB.out hb (by omega))
  clear hb
  obtain ⟨qA01, qA02, qA03, qA04, qA05⟩ := A0.out
  clear O2
  clear O3
  go_wp2_with fail
  refine (toBraid_any _ _ _ _ xs0 _ R0.out.reads hm0).mono ?_
  rintro e w5 ⟨aw5, nw5, cw5, rfl, ho, hb⟩
  clear qA01 qA02 qA03 qA04 qA05
  have O5 : Hid (OwnIn (w4.heap.size) w5.heap.size w5 aw5 nw5 cw5 xs0) := Lib.hid (by simpa using ho.within); clear ho
  have hnw5 : nw5 ≤ 1048576 := by have := O5.out.len; have := R0.out.reads.len; omega
  replace R0 := Lib.hid (R0.out.below hb)
  replace R2 := Lib.hid (R2.out.below hb)
  replace A0 := Lib.hid (A0.out.below hb)
  have z5 : w4.heap.size ≤ w5.heap.size := hb.size
  replace BB := Lib.hid (below_go BB.out hb (by omega))
  clear hb
  obtain ⟨qA01, qA02, qA03, qA04, qA05⟩ := A0.out
  replace R0 := Lib.hid (R0.out.alloc (.cells #[.int .i64 s0, .slice aw5 nw5 cw5] 35))
  replace R2 := Lib.hid (R2.out.alloc (.cells #[.int .i64 s0, .slice aw5 nw5 cw5] 35))
  replace A0 := Lib.hid (A0.out.alloc (.cells #[.int .i64 s0, .slice aw5 nw5 cw5] 35))
  replace O5 := Lib.hid (O5.out.alloc (.cells #[.int .i64 s0, .slice aw5 nw5 cw5] 35))
  have X0 := Lib.hid (At2.new w5 (.int .i64 s0) (.slice aw5 nw5 cw5) 35)
  replace BB := Lib.hid (BB.out.alloc (by first | omega | (simp; done) | (simp; omega)) (.cells #[.int .i64 s0, .slice aw5 nw5 cw5] 35))
  go_wp2_with fail
  refine (toInt64S_any _ _ _ xs2 _ R2.out.reads hm2).mono ?_
  rintro e w6 ⟨aw6, cw6, rfl, ho, hb⟩
  clear qA01 qA02 qA03 qA04 qA05
  have O6 : Hid (OwnIn (w5.heap.size + 1) w6.heap.size w6 aw6 n2 cw6 xs2) := Lib.hid (by simpa using ho.within); clear ho
  replace R0 := Lib.hid (R0.out.below hb)
  replace R2 := Lib.hid (R2.out.below hb)
  replace A0 := Lib.hid (A0.out.below hb)
  replace O5 := Lib.hid (O5.out.below hb)
  replace X0 := Lib.hid (X0.out.below hb)
  have z6 : w5.heap.size + 1 ≤ w6.heap.size := by have := hb.size; simp at this; omega
  replace BB := Lib.hid (below_go BB.out hb (by first | omega | (simp; done) | (simp; omega)))
  clear hb
  obtain ⟨qA01, qA02, qA03, qA04, qA05⟩ := A0.out
  obtain ⟨qX01, qX02, qX03, qX04, qX05⟩ := X0.out
  go_wp2_with fail
  refine (implIsColouring_any O5.out.reads HF0.out hnw5 HS1.out O6.out.reads hm2 HM.out).mono ?_
  rintro e w7 ⟨rfl, hb⟩
  clear qA01 qA02 qA03 qA04 qA05 qX01 qX02 qX03 qX04 qX05
  replace R0 := Lib.hid (R0.out.below hb)
  replace R2 := Lib.hid (R2.out.below hb)
  replace A0 := Lib.hid (A0.out.below hb)
  replace O5 := Lib.hid (O5.out.below hb)
  replace X0 := Lib.hid (X0.out.below hb)
  replace O6 := Lib.hid (O6.out.below hb)
  have z7 : w6.heap.size ≤ w7.heap.size := hb.size
  replace BB := Lib.hid (below_go BB.out hb (by omega))
  clear hb
  obtain ⟨qA01, qA02, qA03, qA04, qA05⟩ := A0.out
  obtain ⟨qX01, qX02, qX03, qX04, qX05⟩ := X0.out
  go_wp2
  go_region_held3 (fun w' => w'.cell? ⟨w.heap.size, 0, none⟩ = some (.int .i64 s0) ∧ w'.cell? ⟨w.heap.size, 1, none⟩ = some (.slice a0 n0 cap0) ∧ w'.cell? ⟨w5.heap.size, 0, none⟩ = some (.int .i64 s0) ∧ w'.cell? ⟨w5.heap.size, 1, none⟩ = some (.slice aw5 nw5 cw5)) (first | exact ⟨qA02, qA03, qX02, qX03⟩ | exact ⟨rA02, rA03, rX02, rX03⟩)
    (first
      | (go_at_call 26; refine (toBraid_any _ _ _ _ xs0 _ R0.out.drew.reads hm0).mono ?_; rintro e w8 ⟨aw8, nw8, cw8, rfl, ho, hb⟩; obtain ⟨rA01, rA02, rA03, rA04, rA05⟩ := A0.out.drew.below hb; obtain ⟨rX01, rX02, rX03, rX04, rX05⟩ := X0.out.drew.below hb)
      | (go_at_call 28; refine (eqBraid_yes _ _ _ _ _ _ _ xs0 _ (O5.out.drew.below hb).reads ho.reads hnw5).mono ?_; rintro e w9 ⟨rfl, hb'⟩; obtain ⟨rA01, rA02, rA03, rA04, rA05⟩ := (A0.out.drew.below hb).below hb'; obtain ⟨rX01, rX02, rX03, rX04, rX05⟩ := (X0.out.drew.below hb).below hb'))
  clear rA01 rA02 rA03 rA04 rA05 rX01 rX02 rX03 rX04 rX05 ho
  clear qA01 qA02 qA03 qA04 qA05 qX01 qX02 qX03 qX04 qX05
  replace R0 := Lib.hid ((R0.out.drew.below hb).below hb')
  replace R2 := Lib.hid ((R2.out.drew.below hb).below hb')
  replace A0 := Lib.hid ((A0.out.drew.below hb).below hb')
  replace O5 := Lib.hid ((O5.out.drew.below hb).below hb')
  replace X0 := Lib.hid ((X0.out.drew.below hb).below hb')
  replace O6 := Lib.hid ((O6.out.drew.below hb).below hb')
  have z8 : w7.heap.size ≤ w8.heap.size := hb.size
  have z9 : w8.heap.size ≤ w9.heap.size := hb'.size
  replace BB := Lib.hid (below_go (below_go BB.out.drew hb (by show _ ≤ w7.heap.size; omega)) hb' (by omega))
  clear hb hb'
  obtain ⟨qA01, qA02, qA03, qA04, qA05⟩ := A0.out
  obtain ⟨qX01, qX02, qX03, qX04, qX05⟩ := X0.out
  go_wp2_with fail
  refine (toInt64S_any _ _ _ xs2 _ R2.out.reads hm2).mono ?_
  rintro e w10 ⟨aw10, cw10, rfl, ho, hb⟩
  clear qA01 qA02 qA03 qA04 qA05 qX01 qX02 qX03 qX04 qX05
  have O10 : Hid (OwnIn (w9.heap.size) w10.heap.size w10 aw10 n2 cw10 xs2) := Lib.hid (by simpa using ho.within); clear ho
  replace R0 := Lib.hid (R0.out.below hb)
  replace R2 := Lib.hid (R2.out.below hb)
  replace A0 := Lib.hid (A0.out.below hb)
  replace O5 := Lib.hid (O5.out.below hb)
  replace X0 := Lib.hid (X0.out.below hb)
  replace O6 := Lib.hid (O6.out.below hb)
  have z10 : w9.heap.size ≤ w10.heap.size := hb.size
  replace BB := Lib.hid (below_go BB.out hb (by omega))
  clear hb
  obtain ⟨qA01, qA02, qA03, qA04, qA05⟩ := A0.out
  obtain ⟨qX01, qX02, qX03, qX04, qX05⟩ := X0.out
  go_wp2_with fail
  refine (eqInt64S_yes _ _ _ _ _ _ xs2 _ O6.out.reads O10.out.reads hm2).mono ?_
  rintro e w11 ⟨rfl, hb⟩
  clear qA01 qA02 qA03 qA04 qA05 qX01 qX02 qX03 qX04 qX05
  replace R0 := Lib.hid (R0.out.below hb)
  replace R2 := Lib.hid (R2.out.below hb)
  replace A0 := Lib.hid (A0.out.below hb)
  replace O5 := Lib.hid (O5.out.below hb)
  replace X0 := Lib.hid (X0.out.below hb)
  replace O6 := Lib.hid (O6.out.below hb)
  replace O10 := Lib.hid (O10.out.below hb)
  have z11 : w10.heap.size ≤ w11.heap.size := hb.size
  replace BB := Lib.hid (below_go BB.out hb (by omega))
  clear hb
  obtain ⟨qA01, qA02, qA03, qA04, qA05⟩ := A0.out
  obtain ⟨qX01, qX02, qX03, qX04, qX05⟩ := X0.out
  clear O10
  go_wp2
  go_ret
  exact ⟨rfl, BB.out⟩

end Go.Proofs.Ytoibcoaohmjfbaa
