/- The walk of the law of impl.SeifertGenus: the model's answer and the program's are compared, marks are written into what came back and looked for. -/
import Derived.Test.YtehcbamfendbaaaSeG
import Derived.Deep.RegionHeld3
namespace Go.Proofs.Ytehcbamfendbaaa
open Go.RowKit Go.ChangeShapes

set_option maxRecDepth 100000 in
set_option maxHeartbeats 4000000 in
theorem fnExactSeifertGenus_walk {s0 : Int} {a0 : Option Addr} {n0 cap0 : Nat} {xs0 : List Int} {w : World} (hr0 : Reads w a0 n0 xs0) (hf0 : Fits xs0) (hn0 : n0 ≤ maxLen) (hs0 : (Lit.int .i64 s0).wf = true) :
    Calls Try.prog 6 #[.agg #[.int .i64 s0, .slice a0 n0 cap0]] w fun e w' => e = .returned (.bool true) ∧ Below w.heap.size w w' := by
  have R0 := Lib.hid hr0.old; clear hr0
  have HF0 := Lib.hid hf0; clear hf0
  have HS0 := Lib.hid hs0; clear hs0
  by_cases hk0 : n0 ≤ 1048576
  rotate_left
  · go_enter Try.func6, Try.ntmps6
    replace R0 := Lib.hid (R0.out.alloc (.cells #[.int .i64 s0, .slice a0 n0 cap0] 24))
    have A0 := Lib.hid (At2.new w (.int .i64 s0) (.slice a0 n0 cap0) 24)
    have BB := Lib.hid (below1 w (.cells #[.int .i64 s0, .slice a0 n0 cap0] 24))
    go_wp2_with fail
    refine (szBraid_big _ _ _ _ _ _ (by omega) (by omega) hn0).mono ?_
    rintro e w1 ⟨rfl, hb⟩
    replace R0 := Lib.hid (R0.out.below hb)
    replace A0 := Lib.hid (A0.out.below hb)
    have z1 : w.heap.size + 1 ≤ w1.heap.size := by have := hb.size; simp at this; omega
    replace BB := Lib.hid (below_go BB.out hb (by first | omega | (simp; done) | (simp; omega)))
    clear hb
    go_wp2
    go_ret
    exact ⟨rfl, BB.out⟩
  have hm0 : n0 ≤ 1048576 := by omega
  obtain ⟨fv, fc, hM⟩ : ∃ fv fc, mGen s0 xs0 = (fv, fc) := ⟨_, _, rfl⟩
  have HM := Lib.hid hM; clear hM
  have t1 : (fc != fc) = false := by simp
  have t2 : (fv != fv) = false := by simp
  go_enter Try.func6, Try.ntmps6
  replace R0 := Lib.hid (R0.out.alloc (.cells #[.int .i64 s0, .slice a0 n0 cap0] 24))
  have A0 := Lib.hid (At2.new w (.int .i64 s0) (.slice a0 n0 cap0) 24)
  have BB := Lib.hid (below1 w (.cells #[.int .i64 s0, .slice a0 n0 cap0] 24))
  go_wp2_with fail
  refine (szBraid_fit _ _ _ _ _ _ (by omega) (by omega)).mono ?_
  rintro e w1 ⟨rfl, hb⟩
  replace R0 := Lib.hid (R0.out.below hb)
  replace A0 := Lib.hid (A0.out.below hb)
  have z1 : w.heap.size + 1 ≤ w1.heap.size := by have := hb.size; simp at this; omega
  replace BB := Lib.hid (below_go BB.out hb (by first | omega | (simp; done) | (simp; omega)))
  clear hb
  obtain ⟨qA01, qA02, qA03, qA04, qA05⟩ := A0.out
  go_wp2_with fail
  refine (toBraid_any _ _ _ _ xs0 _ R0.out.reads hm0).mono ?_
  rintro e w2 ⟨aw2, nw2, cw2, rfl, ho, hb⟩
  clear qA01 qA02 qA03 qA04 qA05
  have O2 : Hid (OwnIn (w1.heap.size) w2.heap.size w2 aw2 nw2 cw2 xs0) := Lib.hid (by simpa using ho.within); clear ho
  have hnw2 : nw2 ≤ 1048576 := by have := O2.out.len; have := R0.out.reads.len; omega
  replace R0 := Lib.hid (R0.out.below hb)
  replace A0 := Lib.hid (A0.out.below hb)
  have z2 : w1.heap.size ≤ w2.heap.size := hb.size
  replace BB := Lib.hid (below_go BB.out hb (by omega))
  clear hb
  obtain ⟨qA01, qA02, qA03, qA04, qA05⟩ := A0.out
  go_wp2_with fail
  refine (specGen_any O2.out.reads HF0.out hnw2 HM.out).mono ?_
  rintro e w3 ⟨rfl, hb⟩
  clear qA01 qA02 qA03 qA04 qA05
  replace R0 := Lib.hid (R0.out.below hb)
  replace A0 := Lib.hid (A0.out.below hb)
  replace O2 := Lib.hid (O2.out.below hb)
  have z3 : w2.heap.size ≤ w3.heap.size := hb.size
  replace BB := Lib.hid (below_go BB.out hb (by omega))
  clear hb
  obtain ⟨qA01, qA02, qA03, qA04, qA05⟩ := A0.out
  clear O2
  go_wp2_with fail
  refine (toBraid_any _ _ _ _ xs0 _ R0.out.reads hm0).mono ?_
  rintro e w4 ⟨aw4, nw4, cw4, rfl, ho, hb⟩
  clear qA01 qA02 qA03 qA04 qA05
  have O4 : Hid (OwnIn (w3.heap.size) w4.heap.size w4 aw4 nw4 cw4 xs0) := Lib.hid (by simpa using ho.within); clear ho
  have hnw4 : nw4 ≤ 1048576 := by have := O4.out.len; have := R0.out.reads.len; omega
  replace R0 := Lib.hid (R0.out.below hb)
  replace A0 := Lib.hid (A0.out.below hb)
  have z4 : w3.heap.size ≤ w4.heap.size := hb.size
  replace BB := Lib.hid (below_go BB.out hb (by omega))
  clear hb
  obtain ⟨qA01, qA02, qA03, qA04, qA05⟩ := A0.out
  replace R0 := Lib.hid (R0.out.alloc (.cells #[.int .i64 s0, .slice aw4 nw4 cw4] 29))
  replace A0 := Lib.hid (A0.out.alloc (.cells #[.int .i64 s0, .slice aw4 nw4 cw4] 29))
  replace O4 := Lib.hid (O4.out.alloc (.cells #[.int .i64 s0, .slice aw4 nw4 cw4] 29))
  have X0 := Lib.hid (At2.new w4 (.int .i64 s0) (.slice aw4 nw4 cw4) 29)
  replace BB := Lib.hid (BB.out.alloc (by first | omega | (simp; done) | (simp; omega)) (.cells #[.int .i64 s0, .slice aw4 nw4 cw4] 29))
  go_wp2_with fail
  refine (implGen_any O4.out.reads HF0.out hnw4 HM.out).mono ?_
  rintro e w5 ⟨rfl, hb⟩
  clear qA01 qA02 qA03 qA04 qA05
  replace R0 := Lib.hid (R0.out.below hb)
  replace A0 := Lib.hid (A0.out.below hb)
  replace O4 := Lib.hid (O4.out.below hb)
  replace X0 := Lib.hid (X0.out.below hb)
  have z5 : w4.heap.size + 1 ≤ w5.heap.size := by have := hb.size; simp at this; omega
  replace BB := Lib.hid (below_go BB.out hb (by first | omega | (simp; done) | (simp; omega)))
  clear hb
  obtain ⟨qA01, qA02, qA03, qA04, qA05⟩ := A0.out
  obtain ⟨qX01, qX02, qX03, qX04, qX05⟩ := X0.out
  go_wp2
  go_region_held3 (fun w' => w'.cell? ⟨w.heap.size, 0, none⟩ = some (.int .i64 s0) ∧ w'.cell? ⟨w.heap.size, 1, none⟩ = some (.slice a0 n0 cap0) ∧ w'.cell? ⟨w4.heap.size, 0, none⟩ = some (.int .i64 s0) ∧ w'.cell? ⟨w4.heap.size, 1, none⟩ = some (.slice aw4 nw4 cw4)) (first | exact ⟨qA02, qA03, qX02, qX03⟩ | exact ⟨rA02, rA03, rX02, rX03⟩)
    (first
      | (go_at_call 18; refine (toBraid_any _ _ _ _ xs0 _ R0.out.drew.reads hm0).mono ?_; rintro e w6 ⟨aw6, nw6, cw6, rfl, ho, hb⟩; obtain ⟨rA01, rA02, rA03, rA04, rA05⟩ := A0.out.drew.below hb; obtain ⟨rX01, rX02, rX03, rX04, rX05⟩ := X0.out.drew.below hb)
      | (go_at_call 21; refine (eqBraid_yes _ _ _ _ _ _ _ xs0 _ (O4.out.drew.below hb).reads ho.reads hnw4).mono ?_; rintro e w7 ⟨rfl, hb'⟩; obtain ⟨rA01, rA02, rA03, rA04, rA05⟩ := (A0.out.drew.below hb).below hb'; obtain ⟨rX01, rX02, rX03, rX04, rX05⟩ := (X0.out.drew.below hb).below hb'))
  clear rA01 rA02 rA03 rA04 rA05 rX01 rX02 rX03 rX04 rX05 ho
  clear qA01 qA02 qA03 qA04 qA05 qX01 qX02 qX03 qX04 qX05
  replace R0 := Lib.hid ((R0.out.drew.below hb).below hb')
  replace A0 := Lib.hid ((A0.out.drew.below hb).below hb')
  replace O4 := Lib.hid ((O4.out.drew.below hb).below hb')
  replace X0 := Lib.hid ((X0.out.drew.below hb).below hb')
  have z6 : w5.heap.size ≤ w6.heap.size := hb.size
  have z7 : w6.heap.size ≤ w7.heap.size := hb'.size
  replace BB := Lib.hid (below_go (below_go BB.out.drew hb (by show _ ≤ w5.heap.size; omega)) hb' (by omega))
  clear hb hb'
  obtain ⟨qA01, qA02, qA03, qA04, qA05⟩ := A0.out
  obtain ⟨qX01, qX02, qX03, qX04, qX05⟩ := X0.out
  go_wp2
  go_ret
  exact ⟨rfl, BB.out⟩

end Go.Proofs.Ytehcbamfendbaaa
