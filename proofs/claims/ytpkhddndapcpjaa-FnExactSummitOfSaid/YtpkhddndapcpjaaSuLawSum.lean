/- The walk of the law of impl.SummitOf: the model's answer and the program's are compared, marks are written into what came back and looked for. -/
import Derived.Test.YtpkhddndapcpjaaSuNSum
import Derived.Test.YtpkhddndapcpjaaSuNEq
import Derived.Test.YtpkhddndapcpjaaSuBB
import Derived.Test.YtpkhddndapcpjaaSuQA
import Derived.Deep.RegionHeld3
namespace Go.Proofs.Ytpkhddndapcpjaa
open Go.RowKit Go.ChangeShapes

set_option maxRecDepth 100000 in
set_option maxHeartbeats 8000000 in
theorem fnExactSummitOf_walk {s0 p0 : Int} {a0 : Option Addr} {n0 cap0 : Nat} {rs0 : List (List Int)} {w : World} (hr0 : ReadsA w a0 n0 rs0) (hy0 : BytesA rs0) (hn0 : n0 ≤ maxLen) :
  Calls Try.prog 3 #[.agg #[.int .i64 s0, .int .i64 p0, .slice a0 n0 cap0]] w fun e w' => e = .returned (.bool true) ∧ Below w.heap.size w w' := by
 have R0 := Lib.hid hr0.old; clear hr0
 have HY0 := Lib.hid hy0; clear hy0
 by_cases h20 : n0 ≤ 1048576
 ·skip
  obtain ⟨fs, fp, frs, fc, hM⟩ : ∃ fs fp frs fc, mSum s0 p0 rs0 = (fs, fp, frs, fc) := ⟨_, _, _, _, rfl⟩
  have HM := Lib.hid hM; clear hM
  have t1 : (fc != fc) = false := by simp
  have h20 : n0 ≤ 1048576 := by omega
  go_enter Try.func3, Try.ntmps3
  have A0 := Lib.hid (At3.place w (.int .i64 s0) (.int .i64 p0) (.slice a0 n0 cap0) 24 (w.heap.size) (by simp))
  replace R0 := Lib.hid (R0.out.alloc (.cells #[.int .i64 s0, .int .i64 p0, .slice a0 n0 cap0] 24))
  have B := Lib.hid (below1 w (.cells #[.int .i64 s0, .int .i64 p0, .slice a0 n0 cap0] 24))
  obtain ⟨qA01, qA02, qA03⟩ := A0.out.cells
  go_wp2_with fail
  refine (szNormal_fit _ _ _ _ _ (1048576) _ (by omega) (by omega)).mono ?_
  rintro e v1 ⟨rfl, hb⟩
  clear qA01 qA02 qA03
  replace R0 := Lib.hid (R0.out.below hb)
  replace A0 := Lib.hid (A0.out.below hb)
  replace B := Lib.hid (below_go B.out hb B.out.size)
  have z1 : w.heap.size + 1 ≤ v1.heap.size := by have := hb.size; (try simp at this); omega
  clear hb
  obtain ⟨qA01, qA02, qA03⟩ := A0.out.cells
  go_wp2_with fail
  refine (toNormal_any _ _ _ _ _ rs0 _ R0.out.1 h20).mono ?_
  rintro e v2 ⟨a102, n102, c102, rfl, ho, hb⟩
  clear qA01 qA02 qA03
  have hn102 : n102 ≤ 1048576 := by have := ho.len; have := R0.out.1.len; omega
  have O102 : Hid (OwnAIn (v1.heap.size) v2.heap.size v2 a102 n102 c102 rs0) := Lib.hid (by have := ho.within; simpa using this); clear ho
  replace R0 := Lib.hid (R0.out.below hb)
  replace A0 := Lib.hid (A0.out.below hb)
  replace B := Lib.hid (below_go B.out hb B.out.size)
  have z2 : v1.heap.size + 0 ≤ v2.heap.size := by have := hb.size; (try simp at this); omega
  clear hb
  obtain ⟨qA01, qA02, qA03⟩ := A0.out.cells
  go_wp2_with fail
  refine (specSummit_any s0 p0 _ _ _ rs0 _ O102.out.reads HY0.out hn102 O102.out.1.cap_le _ _ _ _ HM.out).mono ?_
  rintro e v3 ⟨b3, m3, d3, rfl, hl3, ho, hb⟩
  clear qA01 qA02 qA03
  have P3 : Hid (OwnSIn (v2.heap.size) v3.heap.size v3 b3 m3 frs) := Lib.hid (by have := ho.within; simpa using this); clear ho
  replace R0 := Lib.hid (R0.out.below hb)
  replace A0 := Lib.hid (A0.out.below hb)
  replace O102 := Lib.hid (O102.out.below hb)
  replace B := Lib.hid (below_go B.out hb B.out.size)
  have z3 : v2.heap.size + 0 ≤ v3.heap.size := by have := hb.size; (try simp at this); omega
  clear hb
  replace R0 := Lib.hid (R0.out.alloc (.cells #[.int .i64 fs, .int .i64 fp, .slice b3 m3 d3] 28))
  replace A0 := Lib.hid (A0.out.alloc (.cells #[.int .i64 fs, .int .i64 fp, .slice b3 m3 d3] 28))
  replace O102 := Lib.hid (O102.out.alloc (.cells #[.int .i64 fs, .int .i64 fp, .slice b3 m3 d3] 28))
  replace P3 := Lib.hid (P3.out.alloc (.cells #[.int .i64 fs, .int .i64 fp, .slice b3 m3 d3] 28))
  have W := Lib.hid (At3.place v3 (.int .i64 fs) (.int .i64 fp) (.slice b3 m3 d3) 28 v3.heap.size rfl)
  replace B := Lib.hid (B.out.alloc B.out.size (.cells #[.int .i64 fs, .int .i64 fp, .slice b3 m3 d3] 28))
  obtain ⟨qA01, qA02, qA03⟩ := A0.out.cells
  obtain ⟨qW1, qW2, qW3⟩ := W.out.cells
  go_wp2_with fail
  refine (toNormal_any _ _ _ _ _ rs0 _ R0.out.1 h20).mono ?_
  rintro e v4 ⟨a104, n104, c104, rfl, ho, hb⟩
  clear qA01 qA02 qA03 qW1 qW2 qW3
  have hn104 : n104 ≤ 1048576 := by have := ho.len; have := R0.out.1.len; omega
  have O104 : Hid (OwnAIn (v3.heap.size + 1) v4.heap.size v4 a104 n104 c104 rs0) := Lib.hid (by have := ho.within; simpa using this); clear ho
  replace R0 := Lib.hid (R0.out.below hb)
  replace A0 := Lib.hid (A0.out.below hb)
  replace O102 := Lib.hid (O102.out.below hb)
  replace P3 := Lib.hid (P3.out.below hb)
  replace W := Lib.hid (W.out.below hb)
  replace B := Lib.hid (below_go B.out hb B.out.size)
  have z4 : v3.heap.size + 1 ≤ v4.heap.size := by have := hb.size; (try simp at this); omega
  clear hb
  replace R0 := Lib.hid (R0.out.alloc (.cells #[.int .i64 s0, .int .i64 p0, .slice a104 n104 c104] 28))
  replace A0 := Lib.hid (A0.out.alloc (.cells #[.int .i64 s0, .int .i64 p0, .slice a104 n104 c104] 28))
  replace O102 := Lib.hid (O102.out.alloc (.cells #[.int .i64 s0, .int .i64 p0, .slice a104 n104 c104] 28))
  replace P3 := Lib.hid (P3.out.alloc (.cells #[.int .i64 s0, .int .i64 p0, .slice a104 n104 c104] 28))
  replace W := Lib.hid (W.out.alloc (.cells #[.int .i64 s0, .int .i64 p0, .slice a104 n104 c104] 28))
  replace O104 := Lib.hid (O104.out.alloc (.cells #[.int .i64 s0, .int .i64 p0, .slice a104 n104 c104] 28))
  have X0 := Lib.hid (At3.place v4 (.int .i64 s0) (.int .i64 p0) (.slice a104 n104 c104) 28 v4.heap.size rfl)
  replace B := Lib.hid (B.out.alloc B.out.size (.cells #[.int .i64 s0, .int .i64 p0, .slice a104 n104 c104] 28))
  obtain ⟨qA01, qA02, qA03⟩ := A0.out.cells
  obtain ⟨qW1, qW2, qW3⟩ := W.out.cells
  obtain ⟨qX01, qX02, qX03⟩ := X0.out.cells
  go_wp2_with fail
  refine (implSummit_any s0 p0 _ _ _ rs0 _ O104.out.reads HY0.out hn104 O104.out.1.cap_le _ _ _ _ HM.out).mono ?_
  rintro e v5 ⟨b5, m5, d5, rfl, hl5, ho, hb⟩
  clear qA01 qA02 qA03 qW1 qW2 qW3 qX01 qX02 qX03
  have P5 : Hid (OwnSIn (v4.heap.size + 1) v5.heap.size v5 b5 m5 frs) := Lib.hid (by have := ho.within; simpa using this); clear ho
  replace R0 := Lib.hid (R0.out.below hb)
  replace A0 := Lib.hid (A0.out.below hb)
  replace O102 := Lib.hid (O102.out.below hb)
  replace P3 := Lib.hid (P3.out.below hb)
  replace W := Lib.hid (W.out.below hb)
  replace O104 := Lib.hid (O104.out.below hb)
  replace X0 := Lib.hid (X0.out.below hb)
  replace B := Lib.hid (below_go B.out hb B.out.size)
  have z5 : v4.heap.size + 1 ≤ v5.heap.size := by have := hb.size; (try simp at this); omega
  clear hb
  replace R0 := Lib.hid (R0.out.alloc (.cells #[.int .i64 fs, .int .i64 fp, .slice b5 m5 d5] 28))
  replace A0 := Lib.hid (A0.out.alloc (.cells #[.int .i64 fs, .int .i64 fp, .slice b5 m5 d5] 28))
  replace O102 := Lib.hid (O102.out.alloc (.cells #[.int .i64 fs, .int .i64 fp, .slice b5 m5 d5] 28))
  replace P3 := Lib.hid (P3.out.alloc (.cells #[.int .i64 fs, .int .i64 fp, .slice b5 m5 d5] 28))
  replace W := Lib.hid (W.out.alloc (.cells #[.int .i64 fs, .int .i64 fp, .slice b5 m5 d5] 28))
  replace O104 := Lib.hid (O104.out.alloc (.cells #[.int .i64 fs, .int .i64 fp, .slice b5 m5 d5] 28))
  replace X0 := Lib.hid (X0.out.alloc (.cells #[.int .i64 fs, .int .i64 fp, .slice b5 m5 d5] 28))
  replace P5 := Lib.hid (P5.out.alloc (.cells #[.int .i64 fs, .int .i64 fp, .slice b5 m5 d5] 28))
  have G := Lib.hid (At3.place v5 (.int .i64 fs) (.int .i64 fp) (.slice b5 m5 d5) 28 v5.heap.size rfl)
  replace B := Lib.hid (B.out.alloc B.out.size (.cells #[.int .i64 fs, .int .i64 fp, .slice b5 m5 d5] 28))
  obtain ⟨qA01, qA02, qA03⟩ := A0.out.cells
  obtain ⟨qW1, qW2, qW3⟩ := W.out.cells
  obtain ⟨qX01, qX02, qX03⟩ := X0.out.cells
  obtain ⟨qG1, qG2, qG3⟩ := G.out.cells
  go_wp2_with fail
  refine (eqNormal_yesn _ _ _ _ _ _ _ _ frs _ P5.out.reads P3.out.reads hl5).mono ?_
  rintro e v6 ⟨rfl, hb⟩
  clear qA01 qA02 qA03 qW1 qW2 qW3 qX01 qX02 qX03 qG1 qG2 qG3
  replace R0 := Lib.hid (R0.out.below hb)
  replace A0 := Lib.hid (A0.out.below hb)
  replace O102 := Lib.hid (O102.out.below hb)
  replace P3 := Lib.hid (P3.out.below hb)
  replace W := Lib.hid (W.out.below hb)
  replace O104 := Lib.hid (O104.out.below hb)
  replace X0 := Lib.hid (X0.out.below hb)
  replace P5 := Lib.hid (P5.out.below hb)
  replace G := Lib.hid (G.out.below hb)
  replace B := Lib.hid (below_go B.out hb B.out.size)
  have z6 : v5.heap.size + 1 ≤ v6.heap.size := by have := hb.size; (try simp at this); omega
  clear hb
  go_wp2
  replace R0 := Lib.hid R0.out.drew
  replace A0 := Lib.hid A0.out.drew
  replace O102 := Lib.hid O102.out.drew
  replace P3 := Lib.hid P3.out.drew
  replace W := Lib.hid W.out.drew
  replace O104 := Lib.hid O104.out.drew
  replace X0 := Lib.hid X0.out.drew
  replace P5 := Lib.hid P5.out.drew
  replace G := Lib.hid G.out.drew
  replace B := Lib.hid B.out.drew
  go_region_held3 (fun w' => (w'.cell? ⟨w.heap.size, 0, none⟩ = some (.int .i64 s0) ∧ w'.cell? ⟨w.heap.size, 1, none⟩ = some (.int .i64 p0) ∧ w'.cell? ⟨w.heap.size, 2, none⟩ = some (.slice a0 n0 cap0)) ∧ (w'.cell? ⟨v4.heap.size, 0, none⟩ = some (.int .i64 s0) ∧ w'.cell? ⟨v4.heap.size, 1, none⟩ = some (.int .i64 p0) ∧ w'.cell? ⟨v4.heap.size, 2, none⟩ = some (.slice a104 n104 c104))) (first | with_reducible exact ⟨A0.out.cells, X0.out.cells⟩)
   (first
    | (go_at_call 8; refine (toNormal_any _ _ _ _ _ rs0 _ R0.out.1 h20).mono ?_; rintro e u01 ⟨ax, nx, cx, rfl, ho6, hb⟩; have OX := Lib.hid ho6.reads; have zx1 := hb.size; replace R0 := Lib.hid (R0.out.below hb); replace A0 := Lib.hid (A0.out.below hb); replace O102 := Lib.hid (O102.out.below hb); replace P3 := Lib.hid (P3.out.below hb); replace W := Lib.hid (W.out.below hb); replace O104 := Lib.hid (O104.out.below hb); replace X0 := Lib.hid (X0.out.below hb); replace P5 := Lib.hid (P5.out.below hb); replace G := Lib.hid (G.out.below hb); replace B := Lib.hid (below_go B.out hb B.out.size))
    | (go_at_call 10; refine (eqNormal_yesn _ _ _ _ _ _ _ _ rs0 _ O104.out.reads OX.out hn104).mono ?_; rintro e u02 ⟨rfl, hb⟩; have zx2 := hb.size; replace R0 := Lib.hid (R0.out.below hb); replace A0 := Lib.hid (A0.out.below hb); replace O102 := Lib.hid (O102.out.below hb); replace P3 := Lib.hid (P3.out.below hb); replace W := Lib.hid (W.out.below hb); replace O104 := Lib.hid (O104.out.below hb); replace X0 := Lib.hid (X0.out.below hb); replace P5 := Lib.hid (P5.out.below hb); replace G := Lib.hid (G.out.below hb); replace B := Lib.hid (below_go B.out hb B.out.size)))
  have zx10 : v6.heap.size + 0 ≤ u02.heap.size := by (try simp at zx1 zx2); omega
  clear zx1 zx2 OX
  obtain ⟨qA01, qA02, qA03⟩ := A0.out.cells
  obtain ⟨qW1, qW2, qW3⟩ := W.out.cells
  obtain ⟨qX01, qX02, qX03⟩ := X0.out.cells
  obtain ⟨qG1, qG2, qG3⟩ := G.out.cells
  go_wp2_with fail
  refine (markNormal_in _ _ _ _ _ _ _ rs0 _ _ O104.out hn104 (by omega) (by omega)).mono ?_
  rintro e v7 ⟨rfl, ho, hb⟩
  clear qA01 qA02 qA03 qW1 qW2 qW3 qX01 qX02 qX03 qG1 qG2 qG3
  replace R0 := Lib.hid (R0.out.wrote hb (by omega))
  replace A0 := Lib.hid (A0.out.wrote hb (by omega))
  replace O102 := Lib.hid (O102.out.wrote hb (by omega))
  replace P3 := Lib.hid (P3.out.wrote hb (by omega))
  replace W := Lib.hid (W.out.wrote hb (by omega))
  replace X0 := Lib.hid (X0.out.wrote hb (by omega))
  replace P5 := Lib.hid (P5.out.wrote hb (by omega))
  replace G := Lib.hid (G.out.wrote hb (by omega))
  replace B := Lib.hid (below_write B.out hb (by omega) B.out.size)
  have z7 : u02.heap.size + 0 ≤ v7.heap.size := by have := hb.size; (try simp at this); omega
  replace O104 := Lib.hid ho; clear ho hb
  obtain ⟨qA01, qA02, qA03⟩ := A0.out.cells
  obtain ⟨qW1, qW2, qW3⟩ := W.out.cells
  obtain ⟨qX01, qX02, qX03⟩ := X0.out.cells
  obtain ⟨qG1, qG2, qG3⟩ := G.out.cells
  go_wp2_with fail
  refine (eqNormal_yesn _ _ _ _ _ _ _ _ frs _ P5.out.reads P3.out.reads hl5).mono ?_
  rintro e v8 ⟨rfl, hb⟩
  clear qA01 qA02 qA03 qW1 qW2 qW3 qX01 qX02 qX03 qG1 qG2 qG3
  replace R0 := Lib.hid (R0.out.below hb)
  replace A0 := Lib.hid (A0.out.below hb)
  replace O102 := Lib.hid (O102.out.below hb)
  replace P3 := Lib.hid (P3.out.below hb)
  replace W := Lib.hid (W.out.below hb)
  replace X0 := Lib.hid (X0.out.below hb)
  replace P5 := Lib.hid (P5.out.below hb)
  replace G := Lib.hid (G.out.below hb)
  replace B := Lib.hid (below_go B.out hb B.out.size)
  have z8 : v7.heap.size + 0 ≤ v8.heap.size := by have := hb.size; (try simp at this); omega
  clear hb
  obtain ⟨qA01, qA02, qA03⟩ := A0.out.cells
  obtain ⟨qW1, qW2, qW3⟩ := W.out.cells
  obtain ⟨qX01, qX02, qX03⟩ := X0.out.cells
  obtain ⟨qG1, qG2, qG3⟩ := G.out.cells
  go_wp2_with fail
  refine (markNormal_inS _ _ _ _ _ _ _ frs _ _ P5.out hl5 (by omega) (by omega)).mono ?_
  rintro e v9 ⟨rfl, ho, hb⟩
  clear qA01 qA02 qA03 qW1 qW2 qW3 qX01 qX02 qX03 qG1 qG2 qG3
  replace R0 := Lib.hid (R0.out.wrote hb (by omega))
  replace A0 := Lib.hid (A0.out.wrote hb (by omega))
  replace O102 := Lib.hid (O102.out.wrote hb (by omega))
  replace P3 := Lib.hid (P3.out.wrote hb (by omega))
  replace W := Lib.hid (W.out.wrote hb (by omega))
  replace X0 := Lib.hid (X0.out.wrote hb (by omega))
  replace G := Lib.hid (G.out.wrote hb (by omega))
  replace B := Lib.hid (below_write B.out hb (by omega) B.out.size)
  have z9 : v8.heap.size + 0 ≤ v9.heap.size := by have := hb.size; (try simp at this); omega
  replace P5 := Lib.hid ho; clear ho hb
  have t3 : ((1 + ((8 * m5 : Nat) : Int)) != (1 + ((8 * m5 : Nat) : Int))) = false := by simp
  obtain ⟨qA01, qA02, qA03⟩ := A0.out.cells
  obtain ⟨qW1, qW2, qW3⟩ := W.out.cells
  obtain ⟨qX01, qX02, qX03⟩ := X0.out.cells
  obtain ⟨qG1, qG2, qG3⟩ := G.out.cells
  go_wp2_with fail
  refine (heldNormal_any _ _ _ _ _ _ _ P5.out.reads hl5 (by omega) (by omega)).mono ?_
  rintro e v10 ⟨rfl, hb⟩
  clear qA01 qA02 qA03 qW1 qW2 qW3 qX01 qX02 qX03 qG1 qG2 qG3
  replace R0 := Lib.hid (R0.out.below hb)
  replace A0 := Lib.hid (A0.out.below hb)
  replace O102 := Lib.hid (O102.out.below hb)
  replace P3 := Lib.hid (P3.out.below hb)
  replace W := Lib.hid (W.out.below hb)
  replace X0 := Lib.hid (X0.out.below hb)
  replace P5 := Lib.hid (P5.out.below hb)
  replace G := Lib.hid (G.out.below hb)
  replace B := Lib.hid (below_go B.out hb B.out.size)
  have z10 : v9.heap.size + 0 ≤ v10.heap.size := by have := hb.size; (try simp at this); omega
  clear hb
  obtain ⟨qA01, qA02, qA03⟩ := A0.out.cells
  obtain ⟨qW1, qW2, qW3⟩ := W.out.cells
  obtain ⟨qX01, qX02, qX03⟩ := X0.out.cells
  obtain ⟨qG1, qG2, qG3⟩ := G.out.cells
  go_wp2_with fail
  refine (toNormal_any _ _ _ _ _ rs0 _ R0.out.1 h20).mono ?_
  rintro e v11 ⟨a111, n111, c111, rfl, ho, hb⟩
  clear qA01 qA02 qA03 qW1 qW2 qW3 qX01 qX02 qX03 qG1 qG2 qG3
  have hn111 : n111 ≤ 1048576 := by have := ho.len; have := R0.out.1.len; omega
  have O111 : Hid (OwnAIn (v10.heap.size) v11.heap.size v11 a111 n111 c111 rs0) := Lib.hid (by have := ho.within; simpa using this); clear ho
  replace R0 := Lib.hid (R0.out.below hb)
  replace A0 := Lib.hid (A0.out.below hb)
  replace O102 := Lib.hid (O102.out.below hb)
  replace P3 := Lib.hid (P3.out.below hb)
  replace W := Lib.hid (W.out.below hb)
  replace X0 := Lib.hid (X0.out.below hb)
  replace P5 := Lib.hid (P5.out.below hb)
  replace G := Lib.hid (G.out.below hb)
  replace B := Lib.hid (below_go B.out hb B.out.size)
  have z11 : v10.heap.size + 0 ≤ v11.heap.size := by have := hb.size; (try simp at this); omega
  clear hb
  obtain ⟨qA01, qA02, qA03⟩ := A0.out.cells
  obtain ⟨qW1, qW2, qW3⟩ := W.out.cells
  obtain ⟨qX01, qX02, qX03⟩ := X0.out.cells
  obtain ⟨qG1, qG2, qG3⟩ := G.out.cells
  go_wp2_with fail
  refine (implSummit_any s0 p0 _ _ _ rs0 _ O111.out.reads HY0.out hn111 O111.out.1.cap_le _ _ _ _ HM.out).mono ?_
  rintro e v12 ⟨b12, m12, d12, rfl, hl12, ho, hb⟩
  clear qA01 qA02 qA03 qW1 qW2 qW3 qX01 qX02 qX03 qG1 qG2 qG3
  have P12 : Hid (OwnSIn (v11.heap.size) v12.heap.size v12 b12 m12 frs) := Lib.hid (by have := ho.within; simpa using this); clear ho
  replace R0 := Lib.hid (R0.out.below hb)
  replace A0 := Lib.hid (A0.out.below hb)
  replace O102 := Lib.hid (O102.out.below hb)
  replace P3 := Lib.hid (P3.out.below hb)
  replace W := Lib.hid (W.out.below hb)
  replace X0 := Lib.hid (X0.out.below hb)
  replace P5 := Lib.hid (P5.out.below hb)
  replace G := Lib.hid (G.out.below hb)
  replace O111 := Lib.hid (O111.out.below hb)
  replace B := Lib.hid (below_go B.out hb B.out.size)
  have z12 : v11.heap.size + 0 ≤ v12.heap.size := by have := hb.size; (try simp at this); omega
  clear hb
  replace R0 := Lib.hid (R0.out.alloc (.cells #[.int .i64 fs, .int .i64 fp, .slice b12 m12 d12] 28))
  replace A0 := Lib.hid (A0.out.alloc (.cells #[.int .i64 fs, .int .i64 fp, .slice b12 m12 d12] 28))
  replace O102 := Lib.hid (O102.out.alloc (.cells #[.int .i64 fs, .int .i64 fp, .slice b12 m12 d12] 28))
  replace P3 := Lib.hid (P3.out.alloc (.cells #[.int .i64 fs, .int .i64 fp, .slice b12 m12 d12] 28))
  replace W := Lib.hid (W.out.alloc (.cells #[.int .i64 fs, .int .i64 fp, .slice b12 m12 d12] 28))
  replace X0 := Lib.hid (X0.out.alloc (.cells #[.int .i64 fs, .int .i64 fp, .slice b12 m12 d12] 28))
  replace P5 := Lib.hid (P5.out.alloc (.cells #[.int .i64 fs, .int .i64 fp, .slice b12 m12 d12] 28))
  replace G := Lib.hid (G.out.alloc (.cells #[.int .i64 fs, .int .i64 fp, .slice b12 m12 d12] 28))
  replace O111 := Lib.hid (O111.out.alloc (.cells #[.int .i64 fs, .int .i64 fp, .slice b12 m12 d12] 28))
  replace P12 := Lib.hid (P12.out.alloc (.cells #[.int .i64 fs, .int .i64 fp, .slice b12 m12 d12] 28))
  have H := Lib.hid (At3.place v12 (.int .i64 fs) (.int .i64 fp) (.slice b12 m12 d12) 28 v12.heap.size rfl)
  replace B := Lib.hid (B.out.alloc B.out.size (.cells #[.int .i64 fs, .int .i64 fp, .slice b12 m12 d12] 28))
  obtain ⟨qA01, qA02, qA03⟩ := A0.out.cells
  obtain ⟨qW1, qW2, qW3⟩ := W.out.cells
  obtain ⟨qX01, qX02, qX03⟩ := X0.out.cells
  obtain ⟨qG1, qG2, qG3⟩ := G.out.cells
  obtain ⟨qH1, qH2, qH3⟩ := H.out.cells
  go_wp2_with fail
  refine (eqNormal_yesn _ _ _ _ _ _ _ _ frs _ P12.out.reads P3.out.reads hl12).mono ?_
  rintro e v13 ⟨rfl, hb⟩
  clear qA01 qA02 qA03 qW1 qW2 qW3 qX01 qX02 qX03 qG1 qG2 qG3 qH1 qH2 qH3
  replace R0 := Lib.hid (R0.out.below hb)
  replace A0 := Lib.hid (A0.out.below hb)
  replace O102 := Lib.hid (O102.out.below hb)
  replace P3 := Lib.hid (P3.out.below hb)
  replace W := Lib.hid (W.out.below hb)
  replace X0 := Lib.hid (X0.out.below hb)
  replace P5 := Lib.hid (P5.out.below hb)
  replace G := Lib.hid (G.out.below hb)
  replace O111 := Lib.hid (O111.out.below hb)
  replace P12 := Lib.hid (P12.out.below hb)
  replace H := Lib.hid (H.out.below hb)
  replace B := Lib.hid (below_go B.out hb B.out.size)
  have z13 : v12.heap.size + 1 ≤ v13.heap.size := by have := hb.size; (try simp at this); omega
  clear hb
  obtain ⟨qA01, qA02, qA03⟩ := A0.out.cells
  obtain ⟨qW1, qW2, qW3⟩ := W.out.cells
  obtain ⟨qX01, qX02, qX03⟩ := X0.out.cells
  obtain ⟨qG1, qG2, qG3⟩ := G.out.cells
  obtain ⟨qH1, qH2, qH3⟩ := H.out.cells
  go_wp2_with fail
  refine (heldNormal_any _ _ _ _ _ _ _ P5.out.reads hl5 (by omega) (by omega)).mono ?_
  rintro e v14 ⟨rfl, hb⟩
  clear qA01 qA02 qA03 qW1 qW2 qW3 qX01 qX02 qX03 qG1 qG2 qG3 qH1 qH2 qH3
  replace R0 := Lib.hid (R0.out.below hb)
  replace A0 := Lib.hid (A0.out.below hb)
  replace O102 := Lib.hid (O102.out.below hb)
  replace P3 := Lib.hid (P3.out.below hb)
  replace W := Lib.hid (W.out.below hb)
  replace X0 := Lib.hid (X0.out.below hb)
  replace P5 := Lib.hid (P5.out.below hb)
  replace G := Lib.hid (G.out.below hb)
  replace O111 := Lib.hid (O111.out.below hb)
  replace P12 := Lib.hid (P12.out.below hb)
  replace H := Lib.hid (H.out.below hb)
  replace B := Lib.hid (below_go B.out hb B.out.size)
  have z14 : v13.heap.size + 0 ≤ v14.heap.size := by have := hb.size; (try simp at this); omega
  clear hb
  go_wp2
  go_ret
  exact ⟨rfl, B.out⟩
 ·skip
  have h0 : (1048576 : Int) < (n0 : Int) := by omega
  go_enter Try.func3, Try.ntmps3
  have A0 := Lib.hid (At3.place w (.int .i64 s0) (.int .i64 p0) (.slice a0 n0 cap0) 24 (w.heap.size) (by simp))
  replace R0 := Lib.hid (R0.out.alloc (.cells #[.int .i64 s0, .int .i64 p0, .slice a0 n0 cap0] 24))
  have B := Lib.hid (below1 w (.cells #[.int .i64 s0, .int .i64 p0, .slice a0 n0 cap0] 24))
  obtain ⟨qA01, qA02, qA03⟩ := A0.out.cells
  go_wp2_with fail
  refine (szNormal_big _ _ _ _ _ _ _ h0 (by omega) hn0).mono ?_
  rintro e w1 ⟨rfl, hb1⟩
  replace B := Lib.hid (below_go B.out hb1 B.out.size)
  go_wp2
  go_ret
  exact ⟨rfl, B.out⟩
end Go.Proofs.Ytpkhddndapcpjaa

