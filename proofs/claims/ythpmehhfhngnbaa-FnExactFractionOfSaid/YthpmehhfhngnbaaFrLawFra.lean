/- The walk of the law of impl.FractionOf: the model's answer and the program's are compared, marks are written into what came back and looked for. -/
import Derived.Test.YthpmehhfhngnbaaFrPFra
import Derived.Test.YthpmehhfhngnbaaFrMC
import Derived.Test.YthpmehhfhngnbaaFrMA
import Derived.Deep.RegionHeld3
namespace Go.Proofs.Ythpmehhfhngnbaa
open Go.RowKit Go.ChangeShapes

set_option maxRecDepth 100000 in
set_option maxHeartbeats 8000000 in
theorem fnExactFractionOf_walk {s0 p0 : Int} {a0 : Option Addr} {n0 cap0 : Nat} {rs0 : List (List Int)} {w : World} (hr0 : ReadsA w a0 n0 rs0) (hy0 : BytesA rs0) (hn0 : n0 ≤ maxLen) :
  Calls Try.prog 8 #[.agg #[.int .i64 s0, .int .i64 p0, .slice a0 n0 cap0]] w fun e w' => e = .returned (.bool true) ∧ Below w.heap.size w w' := by
 have R0 := Lib.hid hr0.old; clear hr0
 have HY0 := Lib.hid hy0; clear hy0
 by_cases h20 : n0 ≤ 1048576
 ·skip
  obtain ⟨F, hM⟩ : ∃ F, mFra s0 p0 rs0 = F := ⟨_, rfl⟩
  obtain ⟨⟨fs, fp, frs⟩, ⟨gs, gp, grs⟩, fc⟩ := F
  have HM := Lib.hid hM; clear hM
  have t1 : (fc != fc) = false := by simp
  have h20 : n0 ≤ 1048576 := by omega
  go_enter Try.func8, Try.ntmps8
  have A0 := Lib.hid (At3.place w (.int .i64 s0) (.int .i64 p0) (.slice a0 n0 cap0) 43 (w.heap.size) (by simp))
  replace R0 := Lib.hid (R0.out.alloc (.cells #[.int .i64 s0, .int .i64 p0, .slice a0 n0 cap0] 43))
  have B := Lib.hid (below1 w (.cells #[.int .i64 s0, .int .i64 p0, .slice a0 n0 cap0] 43))
  obtain ⟨qA01, qA02, qA03⟩ := A0.out.cells
  go_wp2_with fail
  refine (szNormal_fit _ _ _ _ _ (1048576) _ (by omega) (by omega)).mono ?_
  rintro e v1 ⟨rfl, hb⟩
  clear qA01 qA02 qA03
  replace R0 := Lib.hid (R0.out.below hb)
  replace A0 := Lib.hid (A0.out.below hb)
  replace B := Lib.hid (below_go B.out hb B.out.size)
  have z1 : w.heap.size + 1 ≤ v1.heap.size := by have := hb.size; (try simp at this); omega
  clear hb
  obtain ⟨qA01, qA02, qA03⟩ := A0.out.cells
  go_wp2_with fail
  refine (toNormal_any _ _ _ _ _ rs0 _ R0.out.1 h20).mono ?_
  rintro e v2 ⟨a102, n102, c102, rfl, ho, hb⟩
  clear qA01 qA02 qA03
  have hn102 : n102 ≤ 1048576 := by have := ho.len; have := R0.out.1.len; omega
  have O102 : Hid (OwnAIn (v1.heap.size) v2.heap.size v2 a102 n102 c102 rs0) := Lib.hid (by have := ho.within; simpa using this); clear ho
  replace R0 := Lib.hid (R0.out.below hb)
  replace A0 := Lib.hid (A0.out.below hb)
  replace B := Lib.hid (below_go B.out hb B.out.size)
  have z2 : v1.heap.size + 0 ≤ v2.heap.size := by have := hb.size; (try simp at this); omega
  clear hb
  obtain ⟨qA01, qA02, qA03⟩ := A0.out.cells
  go_wp2_with fail
  refine (specFraction_any s0 p0 _ _ _ rs0 _ O102.out.reads HY0.out hn102).mono ?_
  rw [HM.out]
  rintro e v3 ⟨b3, m3, d3, bb3, mm3, dd3, rfl, hl3, hk3, ho, ho2, hb⟩
  clear qA01 qA02 qA03
  have P3 : Hid (OwnSIn (v2.heap.size) v3.heap.size v3 b3 m3 frs) := Lib.hid (by have := ho.within; simpa using this)
  have Q3 : Hid (OwnSIn (v2.heap.size) v3.heap.size v3 bb3 mm3 grs) := Lib.hid (by have := ho2.within; simpa using this)
  clear ho ho2
  replace R0 := Lib.hid (R0.out.below hb)
  replace A0 := Lib.hid (A0.out.below hb)
  replace O102 := Lib.hid (O102.out.below hb)
  replace B := Lib.hid (below_go B.out hb B.out.size)
  have z3 : v2.heap.size + 0 ≤ v3.heap.size := by have := hb.size; (try simp at this); omega
  clear hb
  replace R0 := Lib.hid ((R0.out.alloc (.cells #[.int .i64 fs, .int .i64 fp, .slice b3 m3 d3] 28)).alloc (.cells #[.int .i64 gs, .int .i64 gp, .slice bb3 mm3 dd3] 28))
  replace A0 := Lib.hid ((A0.out.alloc (.cells #[.int .i64 fs, .int .i64 fp, .slice b3 m3 d3] 28)).alloc (.cells #[.int .i64 gs, .int .i64 gp, .slice bb3 mm3 dd3] 28))
  replace O102 := Lib.hid ((O102.out.alloc (.cells #[.int .i64 fs, .int .i64 fp, .slice b3 m3 d3] 28)).alloc (.cells #[.int .i64 gs, .int .i64 gp, .slice bb3 mm3 dd3] 28))
  replace P3 := Lib.hid ((P3.out.alloc (.cells #[.int .i64 fs, .int .i64 fp, .slice b3 m3 d3] 28)).alloc (.cells #[.int .i64 gs, .int .i64 gp, .slice bb3 mm3 dd3] 28))
  replace Q3 := Lib.hid ((Q3.out.alloc (.cells #[.int .i64 fs, .int .i64 fp, .slice b3 m3 d3] 28)).alloc (.cells #[.int .i64 gs, .int .i64 gp, .slice bb3 mm3 dd3] 28))
  have W1 := Lib.hid ((At3.place v3 (.int .i64 fs) (.int .i64 fp) (.slice b3 m3 d3) 28 v3.heap.size rfl).alloc (.cells #[.int .i64 gs, .int .i64 gp, .slice bb3 mm3 dd3] 28))
  have W2 := Lib.hid (At3.place (v3.alloc (.cells #[.int .i64 fs, .int .i64 fp, .slice b3 m3 d3] 28)) (.int .i64 gs) (.int .i64 gp) (.slice bb3 mm3 dd3) 28 (v3.heap.size + 1) (by simp))
  replace B := Lib.hid ((B.out.alloc B.out.size (.cells #[.int .i64 fs, .int .i64 fp, .slice b3 m3 d3] 28)).alloc (by have := B.out.size; simp; omega) (.cells #[.int .i64 gs, .int .i64 gp, .slice bb3 mm3 dd3] 28))
  obtain ⟨qA01, qA02, qA03⟩ := A0.out.cells
  obtain ⟨qW11, qW12, qW13⟩ := W1.out.cells
  obtain ⟨qW21, qW22, qW23⟩ := W2.out.cells
  go_wp2_with fail
  refine (toNormal_any _ _ _ _ _ rs0 _ R0.out.1 h20).mono ?_
  rintro e v4 ⟨a104, n104, c104, rfl, ho, hb⟩
  clear qA01 qA02 qA03 qW11 qW12 qW13 qW21 qW22 qW23
  have hn104 : n104 ≤ 1048576 := by have := ho.len; have := R0.out.1.len; omega
  have O104 : Hid (OwnAIn (v3.heap.size + 1 + 1) v4.heap.size v4 a104 n104 c104 rs0) := Lib.hid (by have := ho.within; simpa using this); clear ho
  replace R0 := Lib.hid (R0.out.below hb)
  replace A0 := Lib.hid (A0.out.below hb)
  replace O102 := Lib.hid (O102.out.below hb)
  replace P3 := Lib.hid (P3.out.below hb)
  replace Q3 := Lib.hid (Q3.out.below hb)
  replace W1 := Lib.hid (W1.out.below hb)
  replace W2 := Lib.hid (W2.out.below hb)
  replace B := Lib.hid (below_go B.out hb B.out.size)
  have z4 : v3.heap.size + 2 ≤ v4.heap.size := by have := hb.size; (try simp at this); omega
  clear hb
  replace R0 := Lib.hid (R0.out.alloc (.cells #[.int .i64 s0, .int .i64 p0, .slice a104 n104 c104] 28))
  replace A0 := Lib.hid (A0.out.alloc (.cells #[.int .i64 s0, .int .i64 p0, .slice a104 n104 c104] 28))
  replace O102 := Lib.hid (O102.out.alloc (.cells #[.int .i64 s0, .int .i64 p0, .slice a104 n104 c104] 28))
  replace P3 := Lib.hid (P3.out.alloc (.cells #[.int .i64 s0, .int .i64 p0, .slice a104 n104 c104] 28))
  replace Q3 := Lib.hid (Q3.out.alloc (.cells #[.int .i64 s0, .int .i64 p0, .slice a104 n104 c104] 28))
  replace W1 := Lib.hid (W1.out.alloc (.cells #[.int .i64 s0, .int .i64 p0, .slice a104 n104 c104] 28))
  replace W2 := Lib.hid (W2.out.alloc (.cells #[.int .i64 s0, .int .i64 p0, .slice a104 n104 c104] 28))
  replace O104 := Lib.hid (O104.out.alloc (.cells #[.int .i64 s0, .int .i64 p0, .slice a104 n104 c104] 28))
  have X0 := Lib.hid (At3.place v4 (.int .i64 s0) (.int .i64 p0) (.slice a104 n104 c104) 28 v4.heap.size rfl)
  replace B := Lib.hid (B.out.alloc B.out.size (.cells #[.int .i64 s0, .int .i64 p0, .slice a104 n104 c104] 28))
  obtain ⟨qA01, qA02, qA03⟩ := A0.out.cells
  obtain ⟨qW11, qW12, qW13⟩ := W1.out.cells
  obtain ⟨qW21, qW22, qW23⟩ := W2.out.cells
  obtain ⟨qX01, qX02, qX03⟩ := X0.out.cells
  go_wp2_with fail
  refine (implFraction_any s0 p0 _ _ _ rs0 _ O104.out.reads hn104 O104.out.1.shape O104.out.1.cap_le).mono ?_
  rw [HM.out]
  rintro e v5 ⟨b5, m5, d5, bb5, mm5, dd5, h5, rfl, hl5, hk5, zh5, zi5, ho, ho2, hb⟩
  clear qA01 qA02 qA03 qW11 qW12 qW13 qW21 qW22 qW23 qX01 qX02 qX03
  have P5 : Hid (OwnSIn h5 v5.heap.size v5 b5 m5 frs) := Lib.hid (by have := ho.within; simpa using this)
  have Q5 : Hid (OwnSIn (v4.heap.size + 1) h5 v5 bb5 mm5 grs) := Lib.hid (by simpa using ho2)
  have zj5 : v4.heap.size + 1 ≤ h5 := by (try simp at zh5); omega
  clear zh5
  clear ho ho2
  replace R0 := Lib.hid (R0.out.below hb)
  replace A0 := Lib.hid (A0.out.below hb)
  replace O102 := Lib.hid (O102.out.below hb)
  replace P3 := Lib.hid (P3.out.below hb)
  replace Q3 := Lib.hid (Q3.out.below hb)
  replace W1 := Lib.hid (W1.out.below hb)
  replace W2 := Lib.hid (W2.out.below hb)
  replace O104 := Lib.hid (O104.out.below hb)
  replace X0 := Lib.hid (X0.out.below hb)
  replace B := Lib.hid (below_go B.out hb B.out.size)
  have z5 : v4.heap.size + 1 ≤ v5.heap.size := by have := hb.size; (try simp at this); omega
  clear hb
  replace R0 := Lib.hid ((R0.out.alloc (.cells #[.int .i64 fs, .int .i64 fp, .slice b5 m5 d5] 28)).alloc (.cells #[.int .i64 gs, .int .i64 gp, .slice bb5 mm5 dd5] 28))
  replace A0 := Lib.hid ((A0.out.alloc (.cells #[.int .i64 fs, .int .i64 fp, .slice b5 m5 d5] 28)).alloc (.cells #[.int .i64 gs, .int .i64 gp, .slice bb5 mm5 dd5] 28))
  replace O102 := Lib.hid ((O102.out.alloc (.cells #[.int .i64 fs, .int .i64 fp, .slice b5 m5 d5] 28)).alloc (.cells #[.int .i64 gs, .int .i64 gp, .slice bb5 mm5 dd5] 28))
  replace P3 := Lib.hid ((P3.out.alloc (.cells #[.int .i64 fs, .int .i64 fp, .slice b5 m5 d5] 28)).alloc (.cells #[.int .i64 gs, .int .i64 gp, .slice bb5 mm5 dd5] 28))
  replace Q3 := Lib.hid ((Q3.out.alloc (.cells #[.int .i64 fs, .int .i64 fp, .slice b5 m5 d5] 28)).alloc (.cells #[.int .i64 gs, .int .i64 gp, .slice bb5 mm5 dd5] 28))
  replace W1 := Lib.hid ((W1.out.alloc (.cells #[.int .i64 fs, .int .i64 fp, .slice b5 m5 d5] 28)).alloc (.cells #[.int .i64 gs, .int .i64 gp, .slice bb5 mm5 dd5] 28))
  replace W2 := Lib.hid ((W2.out.alloc (.cells #[.int .i64 fs, .int .i64 fp, .slice b5 m5 d5] 28)).alloc (.cells #[.int .i64 gs, .int .i64 gp, .slice bb5 mm5 dd5] 28))
  replace O104 := Lib.hid ((O104.out.alloc (.cells #[.int .i64 fs, .int .i64 fp, .slice b5 m5 d5] 28)).alloc (.cells #[.int .i64 gs, .int .i64 gp, .slice bb5 mm5 dd5] 28))
  replace X0 := Lib.hid ((X0.out.alloc (.cells #[.int .i64 fs, .int .i64 fp, .slice b5 m5 d5] 28)).alloc (.cells #[.int .i64 gs, .int .i64 gp, .slice bb5 mm5 dd5] 28))
  replace P5 := Lib.hid ((P5.out.alloc (.cells #[.int .i64 fs, .int .i64 fp, .slice b5 m5 d5] 28)).alloc (.cells #[.int .i64 gs, .int .i64 gp, .slice bb5 mm5 dd5] 28))
  replace Q5 := Lib.hid ((Q5.out.alloc (.cells #[.int .i64 fs, .int .i64 fp, .slice b5 m5 d5] 28)).alloc (.cells #[.int .i64 gs, .int .i64 gp, .slice bb5 mm5 dd5] 28))
  have G1 := Lib.hid ((At3.place v5 (.int .i64 fs) (.int .i64 fp) (.slice b5 m5 d5) 28 v5.heap.size rfl).alloc (.cells #[.int .i64 gs, .int .i64 gp, .slice bb5 mm5 dd5] 28))
  have G2 := Lib.hid (At3.place (v5.alloc (.cells #[.int .i64 fs, .int .i64 fp, .slice b5 m5 d5] 28)) (.int .i64 gs) (.int .i64 gp) (.slice bb5 mm5 dd5) 28 (v5.heap.size + 1) (by simp))
  replace B := Lib.hid ((B.out.alloc B.out.size (.cells #[.int .i64 fs, .int .i64 fp, .slice b5 m5 d5] 28)).alloc (by have := B.out.size; simp; omega) (.cells #[.int .i64 gs, .int .i64 gp, .slice bb5 mm5 dd5] 28))
  obtain ⟨qA01, qA02, qA03⟩ := A0.out.cells
  obtain ⟨qW11, qW12, qW13⟩ := W1.out.cells
  obtain ⟨qW21, qW22, qW23⟩ := W2.out.cells
  obtain ⟨qX01, qX02, qX03⟩ := X0.out.cells
  obtain ⟨qG11, qG12, qG13⟩ := G1.out.cells
  obtain ⟨qG21, qG22, qG23⟩ := G2.out.cells
  go_wp2_with fail
  refine (eqNormal_yesn _ _ _ _ _ _ _ _ frs _ P5.out.reads P3.out.reads hl5).mono ?_
  rintro e v6 ⟨rfl, hb⟩
  clear qA01 qA02 qA03 qW11 qW12 qW13 qW21 qW22 qW23 qX01 qX02 qX03 qG11 qG12 qG13 qG21 qG22 qG23
  replace R0 := Lib.hid (R0.out.below hb)
  replace A0 := Lib.hid (A0.out.below hb)
  replace O102 := Lib.hid (O102.out.below hb)
  replace P3 := Lib.hid (P3.out.below hb)
  replace Q3 := Lib.hid (Q3.out.below hb)
  replace W1 := Lib.hid (W1.out.below hb)
  replace W2 := Lib.hid (W2.out.below hb)
  replace O104 := Lib.hid (O104.out.below hb)
  replace X0 := Lib.hid (X0.out.below hb)
  replace P5 := Lib.hid (P5.out.below hb)
  replace Q5 := Lib.hid (Q5.out.below hb)
  replace G1 := Lib.hid (G1.out.below hb)
  replace G2 := Lib.hid (G2.out.below hb)
  replace B := Lib.hid (below_go B.out hb B.out.size)
  have z6 : v5.heap.size + 2 ≤ v6.heap.size := by have := hb.size; (try simp at this); omega
  clear hb
  obtain ⟨qA01, qA02, qA03⟩ := A0.out.cells
  obtain ⟨qW11, qW12, qW13⟩ := W1.out.cells
  obtain ⟨qW21, qW22, qW23⟩ := W2.out.cells
  obtain ⟨qX01, qX02, qX03⟩ := X0.out.cells
  obtain ⟨qG11, qG12, qG13⟩ := G1.out.cells
  obtain ⟨qG21, qG22, qG23⟩ := G2.out.cells
  go_wp2_with fail
  refine (eqNormal_yesn _ _ _ _ _ _ _ _ grs _ Q5.out.reads Q3.out.reads hk5).mono ?_
  rintro e v7 ⟨rfl, hb⟩
  clear qA01 qA02 qA03 qW11 qW12 qW13 qW21 qW22 qW23 qX01 qX02 qX03 qG11 qG12 qG13 qG21 qG22 qG23
  replace R0 := Lib.hid (R0.out.below hb)
  replace A0 := Lib.hid (A0.out.below hb)
  replace O102 := Lib.hid (O102.out.below hb)
  replace P3 := Lib.hid (P3.out.below hb)
  replace Q3 := Lib.hid (Q3.out.below hb)
  replace W1 := Lib.hid (W1.out.below hb)
  replace W2 := Lib.hid (W2.out.below hb)
  replace O104 := Lib.hid (O104.out.below hb)
  replace X0 := Lib.hid (X0.out.below hb)
  replace P5 := Lib.hid (P5.out.below hb)
  replace Q5 := Lib.hid (Q5.out.below hb)
  replace G1 := Lib.hid (G1.out.below hb)
  replace G2 := Lib.hid (G2.out.below hb)
  replace B := Lib.hid (below_go B.out hb B.out.size)
  have z7 : v6.heap.size + 0 ≤ v7.heap.size := by have := hb.size; (try simp at this); omega
  clear hb
  go_wp2
  replace R0 := Lib.hid R0.out.drew
  replace A0 := Lib.hid A0.out.drew
  replace O102 := Lib.hid O102.out.drew
  replace P3 := Lib.hid P3.out.drew
  replace Q3 := Lib.hid Q3.out.drew
  replace W1 := Lib.hid W1.out.drew
  replace W2 := Lib.hid W2.out.drew
  replace O104 := Lib.hid O104.out.drew
  replace X0 := Lib.hid X0.out.drew
  replace P5 := Lib.hid P5.out.drew
  replace Q5 := Lib.hid Q5.out.drew
  replace G1 := Lib.hid G1.out.drew
  replace G2 := Lib.hid G2.out.drew
  replace B := Lib.hid B.out.drew
  go_region_held3 (fun w' => (w'.cell? ⟨w.heap.size, 0, none⟩ = some (.int .i64 s0) ∧ w'.cell? ⟨w.heap.size, 1, none⟩ = some (.int .i64 p0) ∧ w'.cell? ⟨w.heap.size, 2, none⟩ = some (.slice a0 n0 cap0)) ∧ (w'.cell? ⟨v4.heap.size, 0, none⟩ = some (.int .i64 s0) ∧ w'.cell? ⟨v4.heap.size, 1, none⟩ = some (.int .i64 p0) ∧ w'.cell? ⟨v4.heap.size, 2, none⟩ = some (.slice a104 n104 c104))) (first | with_reducible exact ⟨A0.out.cells, X0.out.cells⟩)
   (first
    | (go_at_call 29; refine (toNormal_any _ _ _ _ _ rs0 _ R0.out.1 h20).mono ?_; rintro e y1 ⟨ax, nx, cx, rfl, ho6, hb⟩; have OX := Lib.hid ho6.reads; have zx1 := hb.size; replace R0 := Lib.hid (R0.out.below hb); replace A0 := Lib.hid (A0.out.below hb); replace O102 := Lib.hid (O102.out.below hb); replace P3 := Lib.hid (P3.out.below hb); replace Q3 := Lib.hid (Q3.out.below hb); replace W1 := Lib.hid (W1.out.below hb); replace W2 := Lib.hid (W2.out.below hb); replace O104 := Lib.hid (O104.out.below hb); replace X0 := Lib.hid (X0.out.below hb); replace P5 := Lib.hid (P5.out.below hb); replace Q5 := Lib.hid (Q5.out.below hb); replace G1 := Lib.hid (G1.out.below hb); replace G2 := Lib.hid (G2.out.below hb); replace B := Lib.hid (below_go B.out hb B.out.size))
    | (go_at_call 18; refine (eqNormal_yesn _ _ _ _ _ _ _ _ rs0 _ O104.out.reads OX.out hn104).mono ?_; rintro e y2 ⟨rfl, hb⟩; have zx2 := hb.size; replace R0 := Lib.hid (R0.out.below hb); replace A0 := Lib.hid (A0.out.below hb); replace O102 := Lib.hid (O102.out.below hb); replace P3 := Lib.hid (P3.out.below hb); replace Q3 := Lib.hid (Q3.out.below hb); replace W1 := Lib.hid (W1.out.below hb); replace W2 := Lib.hid (W2.out.below hb); replace O104 := Lib.hid (O104.out.below hb); replace X0 := Lib.hid (X0.out.below hb); replace P5 := Lib.hid (P5.out.below hb); replace Q5 := Lib.hid (Q5.out.below hb); replace G1 := Lib.hid (G1.out.below hb); replace G2 := Lib.hid (G2.out.below hb); replace B := Lib.hid (below_go B.out hb B.out.size)))
  have zx10 : v7.heap.size + 0 ≤ y2.heap.size := by (try simp at zx1 zx2); omega
  clear zx1 zx2 OX
  obtain ⟨qA01, qA02, qA03⟩ := A0.out.cells
  obtain ⟨qW11, qW12, qW13⟩ := W1.out.cells
  obtain ⟨qW21, qW22, qW23⟩ := W2.out.cells
  obtain ⟨qX01, qX02, qX03⟩ := X0.out.cells
  obtain ⟨qG11, qG12, qG13⟩ := G1.out.cells
  obtain ⟨qG21, qG22, qG23⟩ := G2.out.cells
  go_wp2_with fail
  refine (markNormal_in _ _ _ _ _ _ _ rs0 _ _ O104.out hn104 (by omega) (by omega)).mono ?_
  rintro e v8 ⟨rfl, ho, hb⟩
  clear qA01 qA02 qA03 qW11 qW12 qW13 qW21 qW22 qW23 qX01 qX02 qX03 qG11 qG12 qG13 qG21 qG22 qG23
  replace R0 := Lib.hid (R0.out.wrote hb (by omega))
  replace A0 := Lib.hid (A0.out.wrote hb (by omega))
  replace O102 := Lib.hid (O102.out.wrote hb (by omega))
  replace P3 := Lib.hid (P3.out.wrote hb (by omega))
  replace Q3 := Lib.hid (Q3.out.wrote hb (by omega))
  replace W1 := Lib.hid (W1.out.wrote hb (by omega))
  replace W2 := Lib.hid (W2.out.wrote hb (by omega))
  replace X0 := Lib.hid (X0.out.wrote hb (by omega))
  replace P5 := Lib.hid (P5.out.wrote hb (by omega))
  replace Q5 := Lib.hid (Q5.out.wrote hb (by omega))
  replace G1 := Lib.hid (G1.out.wrote hb (by omega))
  replace G2 := Lib.hid (G2.out.wrote hb (by omega))
  replace B := Lib.hid (below_write B.out hb (by omega) B.out.size)
  have z8 : y2.heap.size + 0 ≤ v8.heap.size := by have := hb.size; (try simp at this); omega
  replace O104 := Lib.hid ho; clear ho hb
  obtain ⟨qA01, qA02, qA03⟩ := A0.out.cells
  obtain ⟨qW11, qW12, qW13⟩ := W1.out.cells
  obtain ⟨qW21, qW22, qW23⟩ := W2.out.cells
  obtain ⟨qX01, qX02, qX03⟩ := X0.out.cells
  obtain ⟨qG11, qG12, qG13⟩ := G1.out.cells
  obtain ⟨qG21, qG22, qG23⟩ := G2.out.cells
  go_wp2_with fail
  refine (eqNormal_yesn _ _ _ _ _ _ _ _ frs _ P5.out.reads P3.out.reads hl5).mono ?_
  rintro e v9 ⟨rfl, hb⟩
  clear qA01 qA02 qA03 qW11 qW12 qW13 qW21 qW22 qW23 qX01 qX02 qX03 qG11 qG12 qG13 qG21 qG22 qG23
  replace R0 := Lib.hid (R0.out.below hb)
  replace A0 := Lib.hid (A0.out.below hb)
  replace O102 := Lib.hid (O102.out.below hb)
  replace P3 := Lib.hid (P3.out.below hb)
  replace Q3 := Lib.hid (Q3.out.below hb)
  replace W1 := Lib.hid (W1.out.below hb)
  replace W2 := Lib.hid (W2.out.below hb)
  replace X0 := Lib.hid (X0.out.below hb)
  replace P5 := Lib.hid (P5.out.below hb)
  replace Q5 := Lib.hid (Q5.out.below hb)
  replace G1 := Lib.hid (G1.out.below hb)
  replace G2 := Lib.hid (G2.out.below hb)
  replace B := Lib.hid (below_go B.out hb B.out.size)
  have z9 : v8.heap.size + 0 ≤ v9.heap.size := by have := hb.size; (try simp at this); omega
  clear hb
  obtain ⟨qA01, qA02, qA03⟩ := A0.out.cells
  obtain ⟨qW11, qW12, qW13⟩ := W1.out.cells
  obtain ⟨qW21, qW22, qW23⟩ := W2.out.cells
  obtain ⟨qX01, qX02, qX03⟩ := X0.out.cells
  obtain ⟨qG11, qG12, qG13⟩ := G1.out.cells
  obtain ⟨qG21, qG22, qG23⟩ := G2.out.cells
  go_wp2_with fail
  refine (eqNormal_yesn _ _ _ _ _ _ _ _ grs _ Q5.out.reads Q3.out.reads hk5).mono ?_
  rintro e v10 ⟨rfl, hb⟩
  clear qA01 qA02 qA03 qW11 qW12 qW13 qW21 qW22 qW23 qX01 qX02 qX03 qG11 qG12 qG13 qG21 qG22 qG23
  replace R0 := Lib.hid (R0.out.below hb)
  replace A0 := Lib.hid (A0.out.below hb)
  replace O102 := Lib.hid (O102.out.below hb)
  replace P3 := Lib.hid (P3.out.below hb)
  replace Q3 := Lib.hid (Q3.out.below hb)
  replace W1 := Lib.hid (W1.out.below hb)
  replace W2 := Lib.hid (W2.out.below hb)
  replace X0 := Lib.hid (X0.out.below hb)
  replace P5 := Lib.hid (P5.out.below hb)
  replace Q5 := Lib.hid (Q5.out.below hb)
  replace G1 := Lib.hid (G1.out.below hb)
  replace G2 := Lib.hid (G2.out.below hb)
  replace B := Lib.hid (below_go B.out hb B.out.size)
  have z10 : v9.heap.size + 0 ≤ v10.heap.size := by have := hb.size; (try simp at this); omega
  clear hb
  obtain ⟨qA01, qA02, qA03⟩ := A0.out.cells
  obtain ⟨qW11, qW12, qW13⟩ := W1.out.cells
  obtain ⟨qW21, qW22, qW23⟩ := W2.out.cells
  obtain ⟨qX01, qX02, qX03⟩ := X0.out.cells
  obtain ⟨qG11, qG12, qG13⟩ := G1.out.cells
  obtain ⟨qG21, qG22, qG23⟩ := G2.out.cells
  go_wp2_with fail
  refine (markNormal_inS _ _ _ _ _ _ _ frs _ _ P5.out hl5 (by omega) (by omega)).mono ?_
  rintro e v11 ⟨rfl, ho, hb⟩
  clear qA01 qA02 qA03 qW11 qW12 qW13 qW21 qW22 qW23 qX01 qX02 qX03 qG11 qG12 qG13 qG21 qG22 qG23
  replace R0 := Lib.hid (R0.out.wrote hb (by omega))
  replace A0 := Lib.hid (A0.out.wrote hb (by omega))
  replace O102 := Lib.hid (O102.out.wrote hb (by omega))
  replace P3 := Lib.hid (P3.out.wrote hb (by omega))
  replace Q3 := Lib.hid (Q3.out.wrote hb (by omega))
  replace W1 := Lib.hid (W1.out.wrote hb (by omega))
  replace W2 := Lib.hid (W2.out.wrote hb (by omega))
  replace X0 := Lib.hid (X0.out.wrote hb (by omega))
  replace Q5 := Lib.hid (Q5.out.wrote hb (by omega))
  replace G1 := Lib.hid (G1.out.wrote hb (by omega))
  replace G2 := Lib.hid (G2.out.wrote hb (by omega))
  replace B := Lib.hid (below_write B.out hb (by omega) B.out.size)
  have z11 : v10.heap.size + 0 ≤ v11.heap.size := by have := hb.size; (try simp at this); omega
  replace P5 := Lib.hid ho; clear ho hb
  obtain ⟨qA01, qA02, qA03⟩ := A0.out.cells
  obtain ⟨qW11, qW12, qW13⟩ := W1.out.cells
  obtain ⟨qW21, qW22, qW23⟩ := W2.out.cells
  obtain ⟨qX01, qX02, qX03⟩ := X0.out.cells
  obtain ⟨qG11, qG12, qG13⟩ := G1.out.cells
  obtain ⟨qG21, qG22, qG23⟩ := G2.out.cells
  go_wp2_with fail
  refine (markNormal_inS _ _ _ _ _ _ _ grs _ _ Q5.out hk5 (by omega) (by omega)).mono ?_
  rintro e v12 ⟨rfl, ho, hb⟩
  clear qA01 qA02 qA03 qW11 qW12 qW13 qW21 qW22 qW23 qX01 qX02 qX03 qG11 qG12 qG13 qG21 qG22 qG23
  replace R0 := Lib.hid (R0.out.wrote hb (by omega))
  replace A0 := Lib.hid (A0.out.wrote hb (by omega))
  replace O102 := Lib.hid (O102.out.wrote hb (by omega))
  replace P3 := Lib.hid (P3.out.wrote hb (by omega))
  replace Q3 := Lib.hid (Q3.out.wrote hb (by omega))
  replace W1 := Lib.hid (W1.out.wrote hb (by omega))
  replace W2 := Lib.hid (W2.out.wrote hb (by omega))
  replace X0 := Lib.hid (X0.out.wrote hb (by omega))
  replace P5 := Lib.hid (P5.out.wrote hb (by omega))
  replace G1 := Lib.hid (G1.out.wrote hb (by omega))
  replace G2 := Lib.hid (G2.out.wrote hb (by omega))
  replace B := Lib.hid (below_write B.out hb (by omega) B.out.size)
  have z12 : v11.heap.size + 0 ≤ v12.heap.size := by have := hb.size; (try simp at this); omega
  replace Q5 := Lib.hid ho; clear ho hb
  have t3 : ((1 + ((8 * m5 : Nat) : Int) + ((8 * mm5 : Nat) : Int)) != (1 + ((8 * m5 : Nat) : Int) + ((8 * mm5 : Nat) : Int))) = false := by simp
  obtain ⟨qA01, qA02, qA03⟩ := A0.out.cells
  obtain ⟨qW11, qW12, qW13⟩ := W1.out.cells
  obtain ⟨qW21, qW22, qW23⟩ := W2.out.cells
  obtain ⟨qX01, qX02, qX03⟩ := X0.out.cells
  obtain ⟨qG11, qG12, qG13⟩ := G1.out.cells
  obtain ⟨qG21, qG22, qG23⟩ := G2.out.cells
  go_wp2_with fail
  refine (heldNormal_any _ _ _ _ _ _ _ P5.out.reads hl5 (by omega) (by omega)).mono ?_
  rintro e v13 ⟨rfl, hb⟩
  clear qA01 qA02 qA03 qW11 qW12 qW13 qW21 qW22 qW23 qX01 qX02 qX03 qG11 qG12 qG13 qG21 qG22 qG23
  replace R0 := Lib.hid (R0.out.below hb)
  replace A0 := Lib.hid (A0.out.below hb)
  replace O102 := Lib.hid (O102.out.below hb)
  replace P3 := Lib.hid (P3.out.below hb)
  replace Q3 := Lib.hid (Q3.out.below hb)
  replace W1 := Lib.hid (W1.out.below hb)
  replace W2 := Lib.hid (W2.out.below hb)
  replace X0 := Lib.hid (X0.out.below hb)
  replace P5 := Lib.hid (P5.out.below hb)
  replace Q5 := Lib.hid (Q5.out.below hb)
  replace G1 := Lib.hid (G1.out.below hb)
  replace G2 := Lib.hid (G2.out.below hb)
  replace B := Lib.hid (below_go B.out hb B.out.size)
  have z13 : v12.heap.size + 0 ≤ v13.heap.size := by have := hb.size; (try simp at this); omega
  clear hb
  obtain ⟨qA01, qA02, qA03⟩ := A0.out.cells
  obtain ⟨qW11, qW12, qW13⟩ := W1.out.cells
  obtain ⟨qW21, qW22, qW23⟩ := W2.out.cells
  obtain ⟨qX01, qX02, qX03⟩ := X0.out.cells
  obtain ⟨qG11, qG12, qG13⟩ := G1.out.cells
  obtain ⟨qG21, qG22, qG23⟩ := G2.out.cells
  go_wp2_with fail
  refine (heldNormal_any _ _ _ _ _ _ _ Q5.out.reads hk5 (by omega) (by omega)).mono ?_
  rintro e v14 ⟨rfl, hb⟩
  clear qA01 qA02 qA03 qW11 qW12 qW13 qW21 qW22 qW23 qX01 qX02 qX03 qG11 qG12 qG13 qG21 qG22 qG23
  replace R0 := Lib.hid (R0.out.below hb)
  replace A0 := Lib.hid (A0.out.below hb)
  replace O102 := Lib.hid (O102.out.below hb)
  replace P3 := Lib.hid (P3.out.below hb)
  replace Q3 := Lib.hid (Q3.out.below hb)
  replace W1 := Lib.hid (W1.out.below hb)
  replace W2 := Lib.hid (W2.out.below hb)
  replace X0 := Lib.hid (X0.out.below hb)
  replace P5 := Lib.hid (P5.out.below hb)
  replace Q5 := Lib.hid (Q5.out.below hb)
  replace G1 := Lib.hid (G1.out.below hb)
  replace G2 := Lib.hid (G2.out.below hb)
  replace B := Lib.hid (below_go B.out hb B.out.size)
  have z14 : v13.heap.size + 0 ≤ v14.heap.size := by have := hb.size; (try simp at this); omega
  clear hb
  obtain ⟨qA01, qA02, qA03⟩ := A0.out.cells
  obtain ⟨qW11, qW12, qW13⟩ := W1.out.cells
  obtain ⟨qW21, qW22, qW23⟩ := W2.out.cells
  obtain ⟨qX01, qX02, qX03⟩ := X0.out.cells
  obtain ⟨qG11, qG12, qG13⟩ := G1.out.cells
  obtain ⟨qG21, qG22, qG23⟩ := G2.out.cells
  go_wp2_with fail
  refine (toNormal_any _ _ _ _ _ rs0 _ R0.out.1 h20).mono ?_
  rintro e v15 ⟨a115, n115, c115, rfl, ho, hb⟩
  clear qA01 qA02 qA03 qW11 qW12 qW13 qW21 qW22 qW23 qX01 qX02 qX03 qG11 qG12 qG13 qG21 qG22 qG23
  have hn115 : n115 ≤ 1048576 := by have := ho.len; have := R0.out.1.len; omega
  have O115 : Hid (OwnAIn (v14.heap.size) v15.heap.size v15 a115 n115 c115 rs0) := Lib.hid (by have := ho.within; simpa using this); clear ho
  replace R0 := Lib.hid (R0.out.below hb)
  replace A0 := Lib.hid (A0.out.below hb)
  replace O102 := Lib.hid (O102.out.below hb)
  replace P3 := Lib.hid (P3.out.below hb)
  replace Q3 := Lib.hid (Q3.out.below hb)
  replace W1 := Lib.hid (W1.out.below hb)
  replace W2 := Lib.hid (W2.out.below hb)
  replace X0 := Lib.hid (X0.out.below hb)
  replace P5 := Lib.hid (P5.out.below hb)
  replace Q5 := Lib.hid (Q5.out.below hb)
  replace G1 := Lib.hid (G1.out.below hb)
  replace G2 := Lib.hid (G2.out.below hb)
  replace B := Lib.hid (below_go B.out hb B.out.size)
  have z15 : v14.heap.size + 0 ≤ v15.heap.size := by have := hb.size; (try simp at this); omega
  clear hb
  obtain ⟨qA01, qA02, qA03⟩ := A0.out.cells
  obtain ⟨qW11, qW12, qW13⟩ := W1.out.cells
  obtain ⟨qW21, qW22, qW23⟩ := W2.out.cells
  obtain ⟨qX01, qX02, qX03⟩ := X0.out.cells
  obtain ⟨qG11, qG12, qG13⟩ := G1.out.cells
  obtain ⟨qG21, qG22, qG23⟩ := G2.out.cells
  go_wp2_with fail
  refine (implFraction_any s0 p0 _ _ _ rs0 _ O115.out.reads hn115 O115.out.1.shape O115.out.1.cap_le).mono ?_
  rw [HM.out]
  rintro e v16 ⟨b16, m16, d16, bb16, mm16, dd16, h16, rfl, hl16, hk16, zh16, zi16, ho, ho2, hb⟩
  clear qA01 qA02 qA03 qW11 qW12 qW13 qW21 qW22 qW23 qX01 qX02 qX03 qG11 qG12 qG13 qG21 qG22 qG23
  have P16 : Hid (OwnSIn h16 v16.heap.size v16 b16 m16 frs) := Lib.hid (by have := ho.within; simpa using this)
  have Q16 : Hid (OwnSIn (v15.heap.size) h16 v16 bb16 mm16 grs) := Lib.hid (by simpa using ho2)
  have zj16 : v15.heap.size ≤ h16 := by (try simp at zh16); omega
  clear zh16
  clear ho ho2
  replace R0 := Lib.hid (R0.out.below hb)
  replace A0 := Lib.hid (A0.out.below hb)
  replace O102 := Lib.hid (O102.out.below hb)
  replace P3 := Lib.hid (P3.out.below hb)
  replace Q3 := Lib.hid (Q3.out.below hb)
  replace W1 := Lib.hid (W1.out.below hb)
  replace W2 := Lib.hid (W2.out.below hb)
  replace X0 := Lib.hid (X0.out.below hb)
  replace P5 := Lib.hid (P5.out.below hb)
  replace Q5 := Lib.hid (Q5.out.below hb)
  replace G1 := Lib.hid (G1.out.below hb)
  replace G2 := Lib.hid (G2.out.below hb)
  replace O115 := Lib.hid (O115.out.below hb)
  replace B := Lib.hid (below_go B.out hb B.out.size)
  have z16 : v15.heap.size + 0 ≤ v16.heap.size := by have := hb.size; (try simp at this); omega
  clear hb
  replace R0 := Lib.hid ((R0.out.alloc (.cells #[.int .i64 fs, .int .i64 fp, .slice b16 m16 d16] 28)).alloc (.cells #[.int .i64 gs, .int .i64 gp, .slice bb16 mm16 dd16] 28))
  replace A0 := Lib.hid ((A0.out.alloc (.cells #[.int .i64 fs, .int .i64 fp, .slice b16 m16 d16] 28)).alloc (.cells #[.int .i64 gs, .int .i64 gp, .slice bb16 mm16 dd16] 28))
  replace O102 := Lib.hid ((O102.out.alloc (.cells #[.int .i64 fs, .int .i64 fp, .slice b16 m16 d16] 28)).alloc (.cells #[.int .i64 gs, .int .i64 gp, .slice bb16 mm16 dd16] 28))
  replace P3 := Lib.hid ((P3.out.alloc (.cells #[.int .i64 fs, .int .i64 fp, .slice b16 m16 d16] 28)).alloc (.cells #[.int .i64 gs, .int .i64 gp, .slice bb16 mm16 dd16] 28))
  replace Q3 := Lib.hid ((Q3.out.alloc (.cells #[.int .i64 fs, .int .i64 fp, .slice b16 m16 d16] 28)).alloc (.cells #[.int .i64 gs, .int .i64 gp, .slice bb16 mm16 dd16] 28))
  replace W1 := Lib.hid ((W1.out.alloc (.cells #[.int .i64 fs, .int .i64 fp, .slice b16 m16 d16] 28)).alloc (.cells #[.int .i64 gs, .int .i64 gp, .slice bb16 mm16 dd16] 28))
  replace W2 := Lib.hid ((W2.out.alloc (.cells #[.int .i64 fs, .int .i64 fp, .slice b16 m16 d16] 28)).alloc (.cells #[.int .i64 gs, .int .i64 gp, .slice bb16 mm16 dd16] 28))
  replace X0 := Lib.hid ((X0.out.alloc (.cells #[.int .i64 fs, .int .i64 fp, .slice b16 m16 d16] 28)).alloc (.cells #[.int .i64 gs, .int .i64 gp, .slice bb16 mm16 dd16] 28))
  replace P5 := Lib.hid ((P5.out.alloc (.cells #[.int .i64 fs, .int .i64 fp, .slice b16 m16 d16] 28)).alloc (.cells #[.int .i64 gs, .int .i64 gp, .slice bb16 mm16 dd16] 28))
  replace Q5 := Lib.hid ((Q5.out.alloc (.cells #[.int .i64 fs, .int .i64 fp, .slice b16 m16 d16] 28)).alloc (.cells #[.int .i64 gs, .int .i64 gp, .slice bb16 mm16 dd16] 28))
  replace G1 := Lib.hid ((G1.out.alloc (.cells #[.int .i64 fs, .int .i64 fp, .slice b16 m16 d16] 28)).alloc (.cells #[.int .i64 gs, .int .i64 gp, .slice bb16 mm16 dd16] 28))
  replace G2 := Lib.hid ((G2.out.alloc (.cells #[.int .i64 fs, .int .i64 fp, .slice b16 m16 d16] 28)).alloc (.cells #[.int .i64 gs, .int .i64 gp, .slice bb16 mm16 dd16] 28))
  replace O115 := Lib.hid ((O115.out.alloc (.cells #[.int .i64 fs, .int .i64 fp, .slice b16 m16 d16] 28)).alloc (.cells #[.int .i64 gs, .int .i64 gp, .slice bb16 mm16 dd16] 28))
  replace P16 := Lib.hid ((P16.out.alloc (.cells #[.int .i64 fs, .int .i64 fp, .slice b16 m16 d16] 28)).alloc (.cells #[.int .i64 gs, .int .i64 gp, .slice bb16 mm16 dd16] 28))
  replace Q16 := Lib.hid ((Q16.out.alloc (.cells #[.int .i64 fs, .int .i64 fp, .slice b16 m16 d16] 28)).alloc (.cells #[.int .i64 gs, .int .i64 gp, .slice bb16 mm16 dd16] 28))
  have H1 := Lib.hid ((At3.place v16 (.int .i64 fs) (.int .i64 fp) (.slice b16 m16 d16) 28 v16.heap.size rfl).alloc (.cells #[.int .i64 gs, .int .i64 gp, .slice bb16 mm16 dd16] 28))
  have H2 := Lib.hid (At3.place (v16.alloc (.cells #[.int .i64 fs, .int .i64 fp, .slice b16 m16 d16] 28)) (.int .i64 gs) (.int .i64 gp) (.slice bb16 mm16 dd16) 28 (v16.heap.size + 1) (by simp))
  replace B := Lib.hid ((B.out.alloc B.out.size (.cells #[.int .i64 fs, .int .i64 fp, .slice b16 m16 d16] 28)).alloc (by have := B.out.size; simp; omega) (.cells #[.int .i64 gs, .int .i64 gp, .slice bb16 mm16 dd16] 28))
  obtain ⟨qA01, qA02, qA03⟩ := A0.out.cells
  obtain ⟨qW11, qW12, qW13⟩ := W1.out.cells
  obtain ⟨qW21, qW22, qW23⟩ := W2.out.cells
  obtain ⟨qX01, qX02, qX03⟩ := X0.out.cells
  obtain ⟨qG11, qG12, qG13⟩ := G1.out.cells
  obtain ⟨qG21, qG22, qG23⟩ := G2.out.cells
  obtain ⟨qH11, qH12, qH13⟩ := H1.out.cells
  obtain ⟨qH21, qH22, qH23⟩ := H2.out.cells
  go_wp2_with fail
  refine (eqNormal_yesn _ _ _ _ _ _ _ _ frs _ P16.out.reads P3.out.reads hl16).mono ?_
  rintro e v17 ⟨rfl, hb⟩
  clear qA01 qA02 qA03 qW11 qW12 qW13 qW21 qW22 qW23 qX01 qX02 qX03 qG11 qG12 qG13 qG21 qG22 qG23 qH11 qH12 qH13 qH21 qH22 qH23
  replace R0 := Lib.hid (R0.out.below hb)
  replace A0 := Lib.hid (A0.out.below hb)
  replace O102 := Lib.hid (O102.out.below hb)
  replace P3 := Lib.hid (P3.out.below hb)
  replace Q3 := Lib.hid (Q3.out.below hb)
  replace W1 := Lib.hid (W1.out.below hb)
  replace W2 := Lib.hid (W2.out.below hb)
  replace X0 := Lib.hid (X0.out.below hb)
  replace P5 := Lib.hid (P5.out.below hb)
  replace Q5 := Lib.hid (Q5.out.below hb)
  replace G1 := Lib.hid (G1.out.below hb)
  replace G2 := Lib.hid (G2.out.below hb)
  replace O115 := Lib.hid (O115.out.below hb)
  replace P16 := Lib.hid (P16.out.below hb)
  replace Q16 := Lib.hid (Q16.out.below hb)
  replace H1 := Lib.hid (H1.out.below hb)
  replace H2 := Lib.hid (H2.out.below hb)
  replace B := Lib.hid (below_go B.out hb B.out.size)
  have z17 : v16.heap.size + 2 ≤ v17.heap.size := by have := hb.size; (try simp at this); omega
  clear hb
  obtain ⟨qA01, qA02, qA03⟩ := A0.out.cells
  obtain ⟨qW11, qW12, qW13⟩ := W1.out.cells
  obtain ⟨qW21, qW22, qW23⟩ := W2.out.cells
  obtain ⟨qX01, qX02, qX03⟩ := X0.out.cells
  obtain ⟨qG11, qG12, qG13⟩ := G1.out.cells
  obtain ⟨qG21, qG22, qG23⟩ := G2.out.cells
  obtain ⟨qH11, qH12, qH13⟩ := H1.out.cells
  obtain ⟨qH21, qH22, qH23⟩ := H2.out.cells
  go_wp2_with fail
  refine (eqNormal_yesn _ _ _ _ _ _ _ _ grs _ Q16.out.reads Q3.out.reads hk16).mono ?_
  rintro e v18 ⟨rfl, hb⟩
  clear qA01 qA02 qA03 qW11 qW12 qW13 qW21 qW22 qW23 qX01 qX02 qX03 qG11 qG12 qG13 qG21 qG22 qG23 qH11 qH12 qH13 qH21 qH22 qH23
  replace R0 := Lib.hid (R0.out.below hb)
  replace A0 := Lib.hid (A0.out.below hb)
  replace O102 := Lib.hid (O102.out.below hb)
  replace P3 := Lib.hid (P3.out.below hb)
  replace Q3 := Lib.hid (Q3.out.below hb)
  replace W1 := Lib.hid (W1.out.below hb)
  replace W2 := Lib.hid (W2.out.below hb)
  replace X0 := Lib.hid (X0.out.below hb)
  replace P5 := Lib.hid (P5.out.below hb)
  replace Q5 := Lib.hid (Q5.out.below hb)
  replace G1 := Lib.hid (G1.out.below hb)
  replace G2 := Lib.hid (G2.out.below hb)
  replace O115 := Lib.hid (O115.out.below hb)
  replace P16 := Lib.hid (P16.out.below hb)
  replace Q16 := Lib.hid (Q16.out.below hb)
  replace H1 := Lib.hid (H1.out.below hb)
  replace H2 := Lib.hid (H2.out.below hb)
  replace B := Lib.hid (below_go B.out hb B.out.size)
  have z18 : v17.heap.size + 0 ≤ v18.heap.size := by have := hb.size; (try simp at this); omega
  clear hb
  obtain ⟨qA01, qA02, qA03⟩ := A0.out.cells
  obtain ⟨qW11, qW12, qW13⟩ := W1.out.cells
  obtain ⟨qW21, qW22, qW23⟩ := W2.out.cells
  obtain ⟨qX01, qX02, qX03⟩ := X0.out.cells
  obtain ⟨qG11, qG12, qG13⟩ := G1.out.cells
  obtain ⟨qG21, qG22, qG23⟩ := G2.out.cells
  obtain ⟨qH11, qH12, qH13⟩ := H1.out.cells
  obtain ⟨qH21, qH22, qH23⟩ := H2.out.cells
  go_wp2_with fail
  refine (heldNormal_any _ _ _ _ _ _ _ P5.out.reads hl5 (by omega) (by omega)).mono ?_
  rintro e v19 ⟨rfl, hb⟩
  clear qA01 qA02 qA03 qW11 qW12 qW13 qW21 qW22 qW23 qX01 qX02 qX03 qG11 qG12 qG13 qG21 qG22 qG23 qH11 qH12 qH13 qH21 qH22 qH23
  replace R0 := Lib.hid (R0.out.below hb)
  replace A0 := Lib.hid (A0.out.below hb)
  replace O102 := Lib.hid (O102.out.below hb)
  replace P3 := Lib.hid (P3.out.below hb)
  replace Q3 := Lib.hid (Q3.out.below hb)
  replace W1 := Lib.hid (W1.out.below hb)
  replace W2 := Lib.hid (W2.out.below hb)
  replace X0 := Lib.hid (X0.out.below hb)
  replace P5 := Lib.hid (P5.out.below hb)
  replace Q5 := Lib.hid (Q5.out.below hb)
  replace G1 := Lib.hid (G1.out.below hb)
  replace G2 := Lib.hid (G2.out.below hb)
  replace O115 := Lib.hid (O115.out.below hb)
  replace P16 := Lib.hid (P16.out.below hb)
  replace Q16 := Lib.hid (Q16.out.below hb)
  replace H1 := Lib.hid (H1.out.below hb)
  replace H2 := Lib.hid (H2.out.below hb)
  replace B := Lib.hid (below_go B.out hb B.out.size)
  have z19 : v18.heap.size + 0 ≤ v19.heap.size := by have := hb.size; (try simp at this); omega
  clear hb
  obtain ⟨qA01, qA02, qA03⟩ := A0.out.cells
  obtain ⟨qW11, qW12, qW13⟩ := W1.out.cells
  obtain ⟨qW21, qW22, qW23⟩ := W2.out.cells
  obtain ⟨qX01, qX02, qX03⟩ := X0.out.cells
  obtain ⟨qG11, qG12, qG13⟩ := G1.out.cells
  obtain ⟨qG21, qG22, qG23⟩ := G2.out.cells
  obtain ⟨qH11, qH12, qH13⟩ := H1.out.cells
  obtain ⟨qH21, qH22, qH23⟩ := H2.out.cells
  go_wp2_with fail
  refine (heldNormal_any _ _ _ _ _ _ _ Q5.out.reads hk5 (by omega) (by omega)).mono ?_
  rintro e v20 ⟨rfl, hb⟩
  clear qA01 qA02 qA03 qW11 qW12 qW13 qW21 qW22 qW23 qX01 qX02 qX03 qG11 qG12 qG13 qG21 qG22 qG23 qH11 qH12 qH13 qH21 qH22 qH23
  replace R0 := Lib.hid (R0.out.below hb)
  replace A0 := Lib.hid (A0.out.below hb)
  replace O102 := Lib.hid (O102.out.below hb)
  replace P3 := Lib.hid (P3.out.below hb)
  replace Q3 := Lib.hid (Q3.out.below hb)
  replace W1 := Lib.hid (W1.out.below hb)
  replace W2 := Lib.hid (W2.out.below hb)
  replace X0 := Lib.hid (X0.out.below hb)
  replace P5 := Lib.hid (P5.out.below hb)
  replace Q5 := Lib.hid (Q5.out.below hb)
  replace G1 := Lib.hid (G1.out.below hb)
  replace G2 := Lib.hid (G2.out.below hb)
  replace O115 := Lib.hid (O115.out.below hb)
  replace P16 := Lib.hid (P16.out.below hb)
  replace Q16 := Lib.hid (Q16.out.below hb)
  replace H1 := Lib.hid (H1.out.below hb)
  replace H2 := Lib.hid (H2.out.below hb)
  replace B := Lib.hid (below_go B.out hb B.out.size)
  have z20 : v19.heap.size + 0 ≤ v20.heap.size := by have := hb.size; (try simp at this); omega
  clear hb
  go_wp2
  go_ret
  exact ⟨rfl, B.out⟩
 ·skip
  have h0 : (1048576 : Int) < (n0 : Int) := by omega
  go_enter Try.func8, Try.ntmps8
  have A0 := Lib.hid (At3.place w (.int .i64 s0) (.int .i64 p0) (.slice a0 n0 cap0) 43 (w.heap.size) (by simp))
  replace R0 := Lib.hid (R0.out.alloc (.cells #[.int .i64 s0, .int .i64 p0, .slice a0 n0 cap0] 43))
  have B := Lib.hid (below1 w (.cells #[.int .i64 s0, .int .i64 p0, .slice a0 n0 cap0] 43))
  obtain ⟨qA01, qA02, qA03⟩ := A0.out.cells
  go_wp2_with fail
  refine (szNormal_big _ _ _ _ _ _ _ h0 (by omega) hn0).mono ?_
  rintro e w1 ⟨rfl, hb1⟩
  replace B := Lib.hid (below_go B.out hb1 B.out.size)
  go_wp2
  go_ret
  exact ⟨rfl, B.out⟩
end Go.Proofs.Ythpmehhfhngnbaa

