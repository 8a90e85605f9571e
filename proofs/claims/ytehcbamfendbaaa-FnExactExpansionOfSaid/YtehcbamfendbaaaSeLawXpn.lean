/- The walk of the law of impl.ExpansionOf: the model's answer and the program's are compared, marks are written into what came back and looked for. -/
import Derived.Test.YtehcbamfendbaaaSeXpnE
import Derived.Deep.RegionHeld3
namespace Go.Proofs.Ytehcbamfendbaaa
open Go.RowKit Go.ChangeShapes

set_option maxRecDepth 100000 in
set_option maxHeartbeats 4000000 in
theorem fnExactExpansionOf_walk {s0 : Int} {a0 : Option Addr} {n0 cap0 : Nat} {xs0 : List Int} {s1 : Int} {w : World} (hr0 : Reads w a0 n0 xs0) (hf0 : Fits xs0) (hn0 : n0 ≤ maxLen) (hs0 : (Lit.int .i64 s0).wf = true) (hs1 : (Lit.int .i64 s1).wf = true) :
  Calls Try.prog 14 #[.agg #[.int .i64 s0, .slice a0 n0 cap0], .int .i64 s1] w fun e w' => e = .returned (.bool true) ∧ Below w.heap.size w w' := by
 have R0 := Lib.hid hr0.old; clear hr0
 have HF0 := Lib.hid hf0; clear hf0
 have HS0 := Lib.hid hs0; clear hs0
 have HS1 := Lib.hid hs1; clear hs1
 by_cases hk0 : n0 ≤ 1048576
 rotate_left
 ·go_enter Try.func14, Try.ntmps14
  replace R0 := Lib.hid (R0.out.alloc (.cells #[.int .i64 s0, .slice a0 n0 cap0] 24))
  have A0 := Lib.hid (At2.new w (.int .i64 s0) (.slice a0 n0 cap0) 24)
  have BB := Lib.hid (below1 w (.cells #[.int .i64 s0, .slice a0 n0 cap0] 24))
  go_wp2_with fail
  refine (szBraid_big _ _ _ _ _ _ (by omega) (by omega) hn0).mono ?_
  rintro e w1 ⟨rfl, hb⟩
  replace R0 := Lib.hid (R0.out.below hb)
  replace A0 := Lib.hid (A0.out.below hb)
  have z1 : w.heap.size + 1 ≤ w1.heap.size := by have := hb.size; simp at this; omega
  replace BB := Lib.hid (below_go BB.out hb (by first | omega | (simp; done) | (simp; omega)))
  clear hb
  go_wp2
  go_ret
  exact ⟨rfl, BB.out⟩
 have hm0 : n0 ≤ 1048576 := by omega
 obtain ⟨fxs, fc, hM⟩ : ∃ fxs fc, mExp s0 xs0 s1 = (fxs, fc) := ⟨_, _, rfl⟩
 have hl8 : fxs.length ≤ 8 := by have := mExp_len2 s0 xs0 s1; rw [hM] at this; exact this
 obtain ⟨mm, hmm⟩ : ∃ q, q = fxs.length := ⟨_, rfl⟩
 rw [← hmm] at hl8
 have HMM := Lib.hid hmm; clear hmm
 have HM := Lib.hid hM; clear hM
 have t1 : (fc != fc) = false := by simp
 go_enter Try.func14, Try.ntmps14
 replace R0 := Lib.hid (R0.out.alloc (.cells #[.int .i64 s0, .slice a0 n0 cap0] 24))
 have A0 := Lib.hid (At2.new w (.int .i64 s0) (.slice a0 n0 cap0) 24)
 have BB := Lib.hid (below1 w (.cells #[.int .i64 s0, .slice a0 n0 cap0] 24))
 go_wp2_with fail
 refine (szBraid_fit _ _ _ _ _ _ (by omega) (by omega)).mono ?_
 rintro e w1 ⟨rfl, hb⟩
 replace R0 := Lib.hid (R0.out.below hb)
 replace A0 := Lib.hid (A0.out.below hb)
 have z1 : w.heap.size + 1 ≤ w1.heap.size := by have := hb.size; simp at this; omega
 replace BB := Lib.hid (below_go BB.out hb (by first | omega | (simp; done) | (simp; omega)))
 clear hb
 obtain ⟨qA01, qA02, qA03, qA04, qA05⟩ := A0.out
 go_wp2_with fail
 refine (toBraid_any _ _ _ _ xs0 _ R0.out.reads hm0).mono ?_
 rintro e w2 ⟨aw2, nw2, cw2, rfl, ho, hb⟩
 clear qA01 qA02 qA03 qA04 qA05
 have O2 : Hid (OwnIn (w1.heap.size) w2.heap.size w2 aw2 nw2 cw2 xs0) := Lib.hid (by simpa using ho.within); clear ho
 have hnw2 : nw2 ≤ 1048576 := by have := O2.out.len; have := R0.out.reads.len; omega
 replace R0 := Lib.hid (R0.out.below hb)
 replace A0 := Lib.hid (A0.out.below hb)
 have z2 : w1.heap.size ≤ w2.heap.size := hb.size
 replace BB := Lib.hid (below_go BB.out hb (by omega))
 clear hb
 obtain ⟨qA01, qA02, qA03, qA04, qA05⟩ := A0.out
 go_wp2_with fail
 refine (specExp_any O2.out.reads HF0.out hnw2 HS1.out HM.out).mono ?_
 rintro e w3 ⟨b3, d3, r3, rfl, hr3, ho, hb⟩
 clear qA01 qA02 qA03 qA04 qA05
 have hl3 : r3.length = mm := by rw [HMM.out, ← hr3, List.length_map]
 have N3 : Hid (∀ x ∈ r3, x.n ≤ 1048576) := Lib.hid (fun x hx => (ho.row x hx).2.1)
 have P3 : Hid (OwnSS (w2.heap.size) w3.heap.size w3 b3 r3.length r3) := Lib.hid (by simpa using ho.ownSS)
 rw [hl3] at P3 ⊢
 have HR3 := Lib.hid hr3; have HL3 := Lib.hid hl3
 clear ho hr3 hl3
 replace R0 := Lib.hid (R0.out.below hb)
 replace A0 := Lib.hid (A0.out.below hb)
 replace O2 := Lib.hid (O2.out.below hb)
 have z3 : w2.heap.size ≤ w3.heap.size := hb.size
 replace BB := Lib.hid (below_go BB.out hb (by omega))
 clear hb
 obtain ⟨qA01, qA02, qA03, qA04, qA05⟩ := A0.out
 clear O2
 go_wp2_with fail
 refine (toBraid_any _ _ _ _ xs0 _ R0.out.reads hm0).mono ?_
 rintro e w4 ⟨aw4, nw4, cw4, rfl, ho, hb⟩
 clear qA01 qA02 qA03 qA04 qA05
 have O4 : Hid (OwnIn (w3.heap.size) w4.heap.size w4 aw4 nw4 cw4 xs0) := Lib.hid (by simpa using ho.within); clear ho
 have hnw4 : nw4 ≤ 1048576 := by have := O4.out.len; have := R0.out.reads.len; omega
 replace R0 := Lib.hid (R0.out.below hb)
 replace A0 := Lib.hid (A0.out.below hb)
 replace P3 := Lib.hid (P3.out.below hb)
 have z4 : w3.heap.size ≤ w4.heap.size := hb.size
 replace BB := Lib.hid (below_go BB.out hb (by omega))
 clear hb
 obtain ⟨qA01, qA02, qA03, qA04, qA05⟩ := A0.out
 replace R0 := Lib.hid (R0.out.alloc (.cells #[.int .i64 s0, .slice aw4 nw4 cw4] 29))
 replace A0 := Lib.hid (A0.out.alloc (.cells #[.int .i64 s0, .slice aw4 nw4 cw4] 29))
 replace P3 := Lib.hid (P3.out.alloc (.cells #[.int .i64 s0, .slice aw4 nw4 cw4] 29))
 replace O4 := Lib.hid (O4.out.alloc (.cells #[.int .i64 s0, .slice aw4 nw4 cw4] 29))
 have X0 := Lib.hid (At2.new w4 (.int .i64 s0) (.slice aw4 nw4 cw4) 29)
 replace BB := Lib.hid (BB.out.alloc (by first | omega | (simp; done) | (simp; omega)) (.cells #[.int .i64 s0, .slice aw4 nw4 cw4] 29))
 go_wp2_with fail
 refine (implExp_any O4.out.reads HF0.out hnw4 HS1.out HM.out).mono ?_
 rintro e w5 ⟨b5, d5, r5, rfl, hr5, ho, hb⟩
 clear qA01 qA02 qA03 qA04 qA05
 have hl5 : r5.length = mm := by rw [HMM.out, ← hr5, List.length_map]
 have N5 : Hid (∀ x ∈ r5, x.n ≤ 1048576) := Lib.hid (fun x hx => (ho.row x hx).2.1)
 have P5 : Hid (OwnSS (w4.heap.size + 1) w5.heap.size w5 b5 r5.length r5) := Lib.hid (by simpa using ho.ownSS)
 rw [hl5] at P5 ⊢
 have HR5 := Lib.hid hr5; have HL5 := Lib.hid hl5
 clear ho hr5 hl5
 replace R0 := Lib.hid (R0.out.below hb)
 replace A0 := Lib.hid (A0.out.below hb)
 replace P3 := Lib.hid (P3.out.below hb)
 replace O4 := Lib.hid (O4.out.below hb)
 replace X0 := Lib.hid (X0.out.below hb)
 have z5 : w4.heap.size + 1 ≤ w5.heap.size := by have := hb.size; simp at this; omega
 replace BB := Lib.hid (below_go BB.out hb (by first | omega | (simp; done) | (simp; omega)))
 clear hb
 obtain ⟨qA01, qA02, qA03, qA04, qA05⟩ := A0.out
 obtain ⟨qX01, qX02, qX03, qX04, qX05⟩ := X0.out
 go_wp2_with fail
 refine (eqInt64SS_yes _ _ mm _ _ r5 r3 _ P5.out.reads P3.out.reads (by rw [HR5.out, HR3.out]) (by omega)).mono ?_
 rintro e w6 ⟨rfl, hb⟩
 clear qA01 qA02 qA03 qA04 qA05 qX01 qX02 qX03 qX04 qX05
 replace R0 := Lib.hid (R0.out.below hb)
 replace A0 := Lib.hid (A0.out.below hb)
 replace P3 := Lib.hid (P3.out.below hb)
 replace O4 := Lib.hid (O4.out.below hb)
 replace X0 := Lib.hid (X0.out.below hb)
 replace P5 := Lib.hid (P5.out.below hb)
 have z6 : w5.heap.size ≤ w6.heap.size := hb.size
 replace BB := Lib.hid (below_go BB.out hb (by omega))
 clear hb
 obtain ⟨qA01, qA02, qA03, qA04, qA05⟩ := A0.out
 obtain ⟨qX01, qX02, qX03, qX04, qX05⟩ := X0.out
 go_wp2
 go_region_held3 (fun w' => w'.cell? ⟨w.heap.size, 0, none⟩ = some (.int .i64 s0) ∧ w'.cell? ⟨w.heap.size, 1, none⟩ = some (.slice a0 n0 cap0) ∧ w'.cell? ⟨w4.heap.size, 0, none⟩ = some (.int .i64 s0) ∧ w'.cell? ⟨w4.heap.size, 1, none⟩ = some (.slice aw4 nw4 cw4)) (first | exact ⟨qA02, qA03, qX02, qX03⟩ | exact ⟨rA02, rA03, rX02, rX03⟩)
  (first
   | (go_at_call 18; refine (toBraid_any _ _ _ _ xs0 _ R0.out.drew.reads hm0).mono ?_; rintro e w7 ⟨aw7, nw7, cw7, rfl, ho, hb⟩; obtain ⟨rA01, rA02, rA03, rA04, rA05⟩ := A0.out.drew.below hb; obtain ⟨rX01, rX02, rX03, rX04, rX05⟩ := X0.out.drew.below hb)
   | (go_at_call 21; refine (eqBraid_yes _ _ _ _ _ _ _ xs0 _ (O4.out.drew.below hb).reads ho.reads hnw4).mono ?_; rintro e w8 ⟨rfl, hb'⟩; obtain ⟨rA01, rA02, rA03, rA04, rA05⟩ := (A0.out.drew.below hb).below hb'; obtain ⟨rX01, rX02, rX03, rX04, rX05⟩ := (X0.out.drew.below hb).below hb'))
 clear rA01 rA02 rA03 rA04 rA05 rX01 rX02 rX03 rX04 rX05 ho
 clear qA01 qA02 qA03 qA04 qA05 qX01 qX02 qX03 qX04 qX05
 replace R0 := Lib.hid ((R0.out.drew.below hb).below hb')
 replace A0 := Lib.hid ((A0.out.drew.below hb).below hb')
 replace P3 := Lib.hid ((P3.out.drew.below hb).below hb')
 replace O4 := Lib.hid ((O4.out.drew.below hb).below hb')
 replace X0 := Lib.hid ((X0.out.drew.below hb).below hb')
 replace P5 := Lib.hid ((P5.out.drew.below hb).below hb')
 have z7 : w6.heap.size ≤ w7.heap.size := hb.size
 have z8 : w7.heap.size ≤ w8.heap.size := hb'.size
 replace BB := Lib.hid (below_go (below_go BB.out.drew hb (by show _ ≤ w6.heap.size; omega)) hb' (by omega))
 clear hb hb'
 obtain ⟨qA01, qA02, qA03, qA04, qA05⟩ := A0.out
 obtain ⟨qX01, qX02, qX03, qX04, qX05⟩ := X0.out
 go_wp2_with fail
 refine (markBraid_in _ _ _ _ _ _ xs0 _ _ O4.out hnw4 (by omega) (by omega)).mono ?_
 rintro e w9 ⟨rfl, ho, hb⟩
 clear qA01 qA02 qA03 qA04 qA05 qX01 qX02 qX03 qX04 qX05
 clear ho
 clear O4
 replace R0 := Lib.hid (R0.out.wrote hb (by omega))
 replace A0 := Lib.hid (A0.out.wrote hb (by omega))
 replace P3 := Lib.hid (P3.out.wrote hb (by omega))
 replace X0 := Lib.hid (X0.out.wrote hb (by omega))
 replace P5 := Lib.hid (P5.out.wrote hb (by omega))
 have z9 : w8.heap.size ≤ w9.heap.size := hb.size
 replace BB := Lib.hid (below_write BB.out hb (by omega) (by omega))
 clear hb
 obtain ⟨qA01, qA02, qA03, qA04, qA05⟩ := A0.out
 obtain ⟨qX01, qX02, qX03, qX04, qX05⟩ := X0.out
 go_wp2_with fail
 refine (eqInt64SS_yes _ _ mm _ _ r5 r3 _ P5.out.reads P3.out.reads (by rw [HR5.out, HR3.out]) (by omega)).mono ?_
 rintro e w10 ⟨rfl, hb⟩
 clear qA01 qA02 qA03 qA04 qA05 qX01 qX02 qX03 qX04 qX05
 replace R0 := Lib.hid (R0.out.below hb)
 replace A0 := Lib.hid (A0.out.below hb)
 replace P3 := Lib.hid (P3.out.below hb)
 replace X0 := Lib.hid (X0.out.below hb)
 replace P5 := Lib.hid (P5.out.below hb)
 have z10 : w9.heap.size ≤ w10.heap.size := hb.size
 replace BB := Lib.hid (below_go BB.out hb (by omega))
 clear hb
 obtain ⟨qA01, qA02, qA03, qA04, qA05⟩ := A0.out
 obtain ⟨qX01, qX02, qX03, qX04, qX05⟩ := X0.out
 have htot := totS_bd r5 N5.out
 rw [HL5.out] at htot
 go_wp2_with fail
 refine (markInt64SS_any _ _ _ mm _ r5 1 _ P5.out (by omega) (by omega) (by omega)).mono ?_
 rintro e w11 ⟨rfl, ho, hb⟩
 clear qA01 qA02 qA03 qA04 qA05 qX01 qX02 qX03 qX04 qX05
 replace R0 := Lib.hid (R0.out.wrote hb (by omega))
 replace A0 := Lib.hid (A0.out.wrote hb (by omega))
 replace P3 := Lib.hid (P3.out.wrote hb (by omega))
 replace X0 := Lib.hid (X0.out.wrote hb (by omega))
 have z11 : w10.heap.size ≤ w11.heap.size := hb.size
 replace BB := Lib.hid (below_write BB.out hb (by omega) (by omega))
 clear hb
 replace P5 := Lib.hid ho; clear ho
 obtain ⟨mk, hmk⟩ : ∃ m : Int, m = 1 + (totS r5 : Int) := ⟨_, rfl⟩
 have HMK := Lib.hid hmk
 rw [← hmk]
 clear hmk
 have t2 : (mk != mk) = false := by simp
 have t3 : decide (mk < 0) = false := decide_eq_false (by have := HMK.out; omega)
 obtain ⟨qA01, qA02, qA03, qA04, qA05⟩ := A0.out
 obtain ⟨qX01, qX02, qX03, qX04, qX05⟩ := X0.out
 go_wp2_with fail
 refine (heldInt64SS_any _ mm _ r5 1 _ P5.out.reads (by omega) (by omega) (by omega)).mono ?_
 rw [← HMK.out]
 rintro e w12 ⟨rfl, h12⟩
 subst h12
 go_wp2_with fail
 refine (toBraid_any _ _ _ _ xs0 _ R0.out.reads hm0).mono ?_
 rintro e w12 ⟨aw12, nw12, cw12, rfl, ho, hb⟩
 clear qA01 qA02 qA03 qA04 qA05 qX01 qX02 qX03 qX04 qX05
 have O12 : Hid (OwnIn (w11.heap.size) w12.heap.size w12 aw12 nw12 cw12 xs0) := Lib.hid (by simpa using ho.within); clear ho
 have hnw12 : nw12 ≤ 1048576 := by have := O12.out.len; have := R0.out.reads.len; omega
 replace R0 := Lib.hid (R0.out.below hb)
 replace A0 := Lib.hid (A0.out.below hb)
 replace P3 := Lib.hid (P3.out.below hb)
 replace X0 := Lib.hid (X0.out.below hb)
 replace P5 := Lib.hid (P5.out.below hb)
 have z12 : w11.heap.size ≤ w12.heap.size := hb.size
 replace BB := Lib.hid (below_go BB.out hb (by omega))
 clear hb
 obtain ⟨qA01, qA02, qA03, qA04, qA05⟩ := A0.out
 obtain ⟨qX01, qX02, qX03, qX04, qX05⟩ := X0.out
 go_wp2_with fail
 refine (implExp_any O12.out.reads HF0.out hnw12 HS1.out HM.out).mono ?_
 rintro e w13 ⟨b13, d13, r13, rfl, hr13, ho, hb⟩
 clear qA01 qA02 qA03 qA04 qA05 qX01 qX02 qX03 qX04 qX05
 have hl13 : r13.length = mm := by rw [HMM.out, ← hr13, List.length_map]
 have N13 : Hid (∀ x ∈ r13, x.n ≤ 1048576) := Lib.hid (fun x hx => (ho.row x hx).2.1)
 have P13 : Hid (OwnSS (w12.heap.size) w13.heap.size w13 b13 r13.length r13) := Lib.hid (by simpa using ho.ownSS)
 rw [hl13] at P13 ⊢
 have HR13 := Lib.hid hr13; have HL13 := Lib.hid hl13
 clear ho hr13 hl13
 replace R0 := Lib.hid (R0.out.below hb)
 replace A0 := Lib.hid (A0.out.below hb)
 replace P3 := Lib.hid (P3.out.below hb)
 replace X0 := Lib.hid (X0.out.below hb)
 replace P5 := Lib.hid (P5.out.below hb)
 replace O12 := Lib.hid (O12.out.below hb)
 have z13 : w12.heap.size ≤ w13.heap.size := hb.size
 replace BB := Lib.hid (below_go BB.out hb (by omega))
 clear hb
 obtain ⟨qA01, qA02, qA03, qA04, qA05⟩ := A0.out
 obtain ⟨qX01, qX02, qX03, qX04, qX05⟩ := X0.out
 go_wp2_with fail
 refine (eqInt64SS_yes _ _ mm _ _ r13 r3 _ P13.out.reads P3.out.reads (by rw [HR13.out, HR3.out]) (by omega)).mono ?_
 rintro e w14 ⟨rfl, hb⟩
 clear qA01 qA02 qA03 qA04 qA05 qX01 qX02 qX03 qX04 qX05
 replace R0 := Lib.hid (R0.out.below hb)
 replace A0 := Lib.hid (A0.out.below hb)
 replace P3 := Lib.hid (P3.out.below hb)
 replace X0 := Lib.hid (X0.out.below hb)
 replace P5 := Lib.hid (P5.out.below hb)
 replace O12 := Lib.hid (O12.out.below hb)
 replace P13 := Lib.hid (P13.out.below hb)
 have z14 : w13.heap.size ≤ w14.heap.size := hb.size
 replace BB := Lib.hid (below_go BB.out hb (by omega))
 clear hb
 obtain ⟨qA01, qA02, qA03, qA04, qA05⟩ := A0.out
 obtain ⟨qX01, qX02, qX03, qX04, qX05⟩ := X0.out
 go_wp2_with fail
 refine (heldInt64SS_any _ mm _ r5 1 _ P5.out.reads (by omega) (by omega) (by omega)).mono ?_
 rw [← HMK.out]
 rintro e w15 ⟨rfl, h15⟩
 subst h15
 go_wp2
 go_ret
 exact ⟨rfl, BB.out⟩

end Go.Proofs.Ytehcbamfendbaaa

