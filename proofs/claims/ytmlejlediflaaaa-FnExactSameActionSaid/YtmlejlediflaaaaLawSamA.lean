/- The walk of the law of impl.SameAction: the model's answer and the program's are compared, marks are written into what came back and looked for. -/
import Derived.Test.YtmlejlediflaaaaSamC
import Derived.Test.YtmlejlediflaaaaLawBK
import Derived.Test.YtmlejlediflaaaaQA
import Derived.Deep.RegionHeld3
namespace Go.Proofs.Ytmlejlediflaaaa
open Go.RowKit Go.ChangeShapes

set_option maxRecDepth 100000 in
set_option maxHeartbeats 8000000 in
theorem fnExactSameAction_walk {s0 : Int} {a0 : Option Addr} {n0 cap0 : Nat} {rs0 : List Int} {s1 : Int} {a1 : Option Addr} {n1 cap1 : Nat} {rs1 : List Int} {w : World} (hr0 : Reads w a0 n0 rs0) (hy0 : Fits rs0) (hn0 : n0 ≤ maxLen) (_hs0 : (Lit.int .i64 s0).wf = true) (hr1 : Reads w a1 n1 rs1) (hy1 : Fits rs1) (hn1 : n1 ≤ maxLen) (_hs1 : (Lit.int .i64 s1).wf = true) :
    Calls Try.prog 15 #[.agg #[.int .i64 s0, .slice a0 n0 cap0], .agg #[.int .i64 s1, .slice a1 n1 cap1]] w fun e w' => e = .returned (.bool true) ∧ Below w.heap.size w w' := by
  have R0 := Lib.hid hr0.old; clear hr0
  have HY0 := Lib.hid hy0; clear hy0
  have R1 := Lib.hid hr1.old; clear hr1
  have HY1 := Lib.hid hy1; clear hy1
  by_cases h0n : n0 ≤ 1048576
  · by_cases h1n : n0 + n1 ≤ 1048576
    · skip
      obtain ⟨fb, fc, hM⟩ : ∃ fb fc, mSameAct s0 rs0 s1 rs1 = (fb, fc) := ⟨_, _, rfl⟩
      have HM := Lib.hid hM; clear hM
      have t1 : (fc != fc) = false := by simp
      have t2 : (fb != fb) = false := by simp
      have h20 : n0 ≤ 1048576 := by omega
      have h21 : n1 ≤ 1048576 := by omega
      go_enter Try.func15, Try.ntmps15
      have A0 := Lib.hid ((At2.place w (.int .i64 s0) (.slice a0 n0 cap0) 35 (w.heap.size) (by simp)).alloc (.cells #[.int .i64 s1, .slice a1 n1 cap1] 35))
      replace R0 := Lib.hid ((R0.out.alloc (.cells #[.int .i64 s0, .slice a0 n0 cap0] 35)).alloc (.cells #[.int .i64 s1, .slice a1 n1 cap1] 35))
      have A1 := Lib.hid (At2.place (w.alloc (.cells #[.int .i64 s0, .slice a0 n0 cap0] 35)) (.int .i64 s1) (.slice a1 n1 cap1) 35 (w.heap.size + 1) (by simp))
      replace R1 := Lib.hid ((R1.out.alloc (.cells #[.int .i64 s0, .slice a0 n0 cap0] 35)).alloc (.cells #[.int .i64 s1, .slice a1 n1 cap1] 35))
      have B := Lib.hid ((below1 w (.cells #[.int .i64 s0, .slice a0 n0 cap0] 35)).alloc (by simp; try omega) (.cells #[.int .i64 s1, .slice a1 n1 cap1] 35))
      obtain ⟨qA01, qA02, qA03⟩ := A0.out.cells
      obtain ⟨qA11, qA12, qA13⟩ := A1.out.cells
      go_wp2_with fail
      refine (szBraid_fit _ _ _ _ (1048576) _ (by omega) (by omega)).mono ?_
      rintro e v1 ⟨rfl, hb⟩
      clear qA01 qA02 qA03 qA11 qA12 qA13
      replace R0 := Lib.hid (R0.out.below hb)
      replace R1 := Lib.hid (R1.out.below hb)
      replace A0 := Lib.hid (A0.out.below hb)
      replace A1 := Lib.hid (A1.out.below hb)
      replace B := Lib.hid (below_go B.out hb B.out.size)
      have z1 : w.heap.size + 2 ≤ v1.heap.size := by have := hb.size; (try simp at this); omega
      clear hb
      obtain ⟨qA01, qA02, qA03⟩ := A0.out.cells
      obtain ⟨qA11, qA12, qA13⟩ := A1.out.cells
      go_wp2_with fail
      refine (szBraid_fit _ _ _ _ (1048576 - (n0 : Int)) _ (by omega) (by omega)).mono ?_
      rintro e v2 ⟨rfl, hb⟩
      clear qA01 qA02 qA03 qA11 qA12 qA13
      replace R0 := Lib.hid (R0.out.below hb)
      replace R1 := Lib.hid (R1.out.below hb)
      replace A0 := Lib.hid (A0.out.below hb)
      replace A1 := Lib.hid (A1.out.below hb)
      replace B := Lib.hid (below_go B.out hb B.out.size)
      have z2 : v1.heap.size + 0 ≤ v2.heap.size := by have := hb.size; (try simp at this); omega
      clear hb
      go_wp2
      replace R0 := Lib.hid R0.out.drew
      replace R1 := Lib.hid R1.out.drew
      replace A0 := Lib.hid A0.out.drew
      replace A1 := Lib.hid A1.out.drew
      replace B := Lib.hid B.out.drew
      go_region_held3 (fun w' => (w'.cell? ⟨w.heap.size, 0, none⟩ = some (.int .i64 s0) ∧ w'.cell? ⟨w.heap.size, 1, none⟩ = some (.slice a0 n0 cap0) ∧ True) ∧ (w'.cell? ⟨w.heap.size + 1, 0, none⟩ = some (.int .i64 s1) ∧ w'.cell? ⟨w.heap.size + 1, 1, none⟩ = some (.slice a1 n1 cap1) ∧ True)) (first | with_reducible exact ⟨A0.out.cells, A1.out.cells⟩)
        (first
          | (go_at_call_of 29 (Value.agg #[.int .i64 s0, .slice a0 n0 cap0]); refine (toBraid_any _ _ _ _ rs0 _ R0.out.1 h20).mono ?_; rintro e y1 ⟨ax, nx, cx, rfl, ho6, hb⟩; have OX := Lib.hid ho6; have zx1 := hb.size; have hnx : nx ≤ 1048576 := (by have := ho6.len; have := R0.out.1.len; omega); replace R0 := Lib.hid (R0.out.below hb); replace R1 := Lib.hid (R1.out.below hb); replace A0 := Lib.hid (A0.out.below hb); replace A1 := Lib.hid (A1.out.below hb); replace B := Lib.hid (below_go B.out hb B.out.size))
          | (go_at_call_of 29 (Value.agg #[.int .i64 s1, .slice a1 n1 cap1]); refine (toBraid_any _ _ _ _ rs1 _ R1.out.1 h21).mono ?_; rintro e y2 ⟨ay, ny, cy, rfl, ho7, hb⟩; replace OX := Lib.hid (OX.out.below hb); have OY := Lib.hid ho7; have zx2 := hb.size; have hny : ny ≤ 1048576 := (by have := ho7.len; have := R1.out.1.len; omega); replace R0 := Lib.hid (R0.out.below hb); replace R1 := Lib.hid (R1.out.below hb); replace A0 := Lib.hid (A0.out.below hb); replace A1 := Lib.hid (A1.out.below hb); replace B := Lib.hid (below_go B.out hb B.out.size))
          | (go_at_call 55; refine (specSameAction_any s0 _ _ _ rs0 s1 _ _ _ rs1 _ OX.out.reads HY0.out hnx OY.out.reads HY1.out hny _ _ HM.out).mono ?_; rintro e y3 ⟨rfl, hb⟩; have zx3 := hb.size; replace R0 := Lib.hid (R0.out.below hb); replace R1 := Lib.hid (R1.out.below hb); replace A0 := Lib.hid (A0.out.below hb); replace A1 := Lib.hid (A1.out.below hb); replace B := Lib.hid (below_go B.out hb B.out.size)))
      have zx4 : v2.heap.size + 0 ≤ y3.heap.size := by (try simp at zx1 zx2 zx3); omega
      clear zx1 zx2 zx3 OX OY
      obtain ⟨qA01, qA02, qA03⟩ := A0.out.cells
      obtain ⟨qA11, qA12, qA13⟩ := A1.out.cells
      go_wp2_with fail
      refine (toBraid_any _ _ _ _ rs0 _ R0.out.1 h20).mono ?_
      rintro e v3 ⟨a103, n103, c103, rfl, ho, hb⟩
      clear qA01 qA02 qA03 qA11 qA12 qA13
      have hn103 : n103 ≤ 1048576 := by have := ho.len; have := R0.out.1.len; omega
      have O103 : Hid (OwnIn (y3.heap.size) v3.heap.size v3 a103 n103 c103 rs0) := Lib.hid (by have := ho.within; simpa using this); clear ho
      replace R0 := Lib.hid (R0.out.below hb)
      replace R1 := Lib.hid (R1.out.below hb)
      replace A0 := Lib.hid (A0.out.below hb)
      replace A1 := Lib.hid (A1.out.below hb)
      replace B := Lib.hid (below_go B.out hb B.out.size)
      have z3 : y3.heap.size + 0 ≤ v3.heap.size := by have := hb.size; (try simp at this); omega
      clear hb
      replace R0 := Lib.hid (R0.out.alloc (.cells #[.int .i64 s0, .slice a103 n103 c103] 24))
      replace R1 := Lib.hid (R1.out.alloc (.cells #[.int .i64 s0, .slice a103 n103 c103] 24))
      replace A0 := Lib.hid (A0.out.alloc (.cells #[.int .i64 s0, .slice a103 n103 c103] 24))
      replace A1 := Lib.hid (A1.out.alloc (.cells #[.int .i64 s0, .slice a103 n103 c103] 24))
      replace O103 := Lib.hid (O103.out.alloc (.cells #[.int .i64 s0, .slice a103 n103 c103] 24))
      have X0 := Lib.hid (At2.place v3 (.int .i64 s0) (.slice a103 n103 c103) 24 v3.heap.size rfl)
      replace B := Lib.hid (B.out.alloc B.out.size (.cells #[.int .i64 s0, .slice a103 n103 c103] 24))
      obtain ⟨qA01, qA02, qA03⟩ := A0.out.cells
      obtain ⟨qA11, qA12, qA13⟩ := A1.out.cells
      obtain ⟨qX01, qX02, qX03⟩ := X0.out.cells
      go_wp2_with fail
      refine (toBraid_any _ _ _ _ rs1 _ R1.out.1 h21).mono ?_
      rintro e v4 ⟨a104, n104, c104, rfl, ho, hb⟩
      clear qA01 qA02 qA03 qA11 qA12 qA13 qX01 qX02 qX03
      have hn104 : n104 ≤ 1048576 := by have := ho.len; have := R1.out.1.len; omega
      have O104 : Hid (OwnIn (v3.heap.size + 1) v4.heap.size v4 a104 n104 c104 rs1) := Lib.hid (by have := ho.within; simpa using this); clear ho
      replace R0 := Lib.hid (R0.out.below hb)
      replace R1 := Lib.hid (R1.out.below hb)
      replace A0 := Lib.hid (A0.out.below hb)
      replace A1 := Lib.hid (A1.out.below hb)
      replace O103 := Lib.hid (O103.out.below hb)
      replace X0 := Lib.hid (X0.out.below hb)
      replace B := Lib.hid (below_go B.out hb B.out.size)
      have z4 : v3.heap.size + 1 ≤ v4.heap.size := by have := hb.size; (try simp at this); omega
      clear hb
      replace R0 := Lib.hid (R0.out.alloc (.cells #[.int .i64 s1, .slice a104 n104 c104] 24))
      replace R1 := Lib.hid (R1.out.alloc (.cells #[.int .i64 s1, .slice a104 n104 c104] 24))
      replace A0 := Lib.hid (A0.out.alloc (.cells #[.int .i64 s1, .slice a104 n104 c104] 24))
      replace A1 := Lib.hid (A1.out.alloc (.cells #[.int .i64 s1, .slice a104 n104 c104] 24))
      replace O103 := Lib.hid (O103.out.alloc (.cells #[.int .i64 s1, .slice a104 n104 c104] 24))
      replace X0 := Lib.hid (X0.out.alloc (.cells #[.int .i64 s1, .slice a104 n104 c104] 24))
      replace O104 := Lib.hid (O104.out.alloc (.cells #[.int .i64 s1, .slice a104 n104 c104] 24))
      have X1 := Lib.hid (At2.place v4 (.int .i64 s1) (.slice a104 n104 c104) 24 v4.heap.size rfl)
      replace B := Lib.hid (B.out.alloc B.out.size (.cells #[.int .i64 s1, .slice a104 n104 c104] 24))
      obtain ⟨qA01, qA02, qA03⟩ := A0.out.cells
      obtain ⟨qA11, qA12, qA13⟩ := A1.out.cells
      obtain ⟨qX01, qX02, qX03⟩ := X0.out.cells
      obtain ⟨qX11, qX12, qX13⟩ := X1.out.cells
      go_wp2_with fail
      refine (implSameAction_any s0 _ _ _ rs0 s1 _ _ _ rs1 _ O103.out.reads HY0.out hn103 O104.out.reads HY1.out hn104 _ _ HM.out).mono ?_
      rintro e v5 ⟨rfl, hb⟩
      clear qA01 qA02 qA03 qA11 qA12 qA13 qX01 qX02 qX03 qX11 qX12 qX13
      replace R0 := Lib.hid (R0.out.below hb)
      replace R1 := Lib.hid (R1.out.below hb)
      replace A0 := Lib.hid (A0.out.below hb)
      replace A1 := Lib.hid (A1.out.below hb)
      replace O103 := Lib.hid (O103.out.below hb)
      replace X0 := Lib.hid (X0.out.below hb)
      replace O104 := Lib.hid (O104.out.below hb)
      replace X1 := Lib.hid (X1.out.below hb)
      replace B := Lib.hid (below_go B.out hb B.out.size)
      have z5 : v4.heap.size + 1 ≤ v5.heap.size := by have := hb.size; (try simp at this); omega
      clear hb
      go_wp2
      replace R0 := Lib.hid R0.out.drew
      replace R1 := Lib.hid R1.out.drew
      replace A0 := Lib.hid A0.out.drew
      replace A1 := Lib.hid A1.out.drew
      replace O103 := Lib.hid O103.out.drew
      replace X0 := Lib.hid X0.out.drew
      replace O104 := Lib.hid O104.out.drew
      replace X1 := Lib.hid X1.out.drew
      replace B := Lib.hid B.out.drew
      go_region_held3 (fun w' => (w'.cell? ⟨w.heap.size, 0, none⟩ = some (.int .i64 s0) ∧ w'.cell? ⟨w.heap.size, 1, none⟩ = some (.slice a0 n0 cap0) ∧ True) ∧ (w'.cell? ⟨v3.heap.size, 0, none⟩ = some (.int .i64 s0) ∧ w'.cell? ⟨v3.heap.size, 1, none⟩ = some (.slice a103 n103 c103) ∧ True)) (first | with_reducible exact ⟨A0.out.cells, X0.out.cells⟩)
        (first
          | (go_at_call 29; refine (toBraid_any _ _ _ _ rs0 _ R0.out.1 h20).mono ?_; rintro e u01 ⟨ax, nx, cx, rfl, ho6, hb⟩; have OX := Lib.hid ho6.reads; have zx1 := hb.size; replace R0 := Lib.hid (R0.out.below hb); replace R1 := Lib.hid (R1.out.below hb); replace A0 := Lib.hid (A0.out.below hb); replace A1 := Lib.hid (A1.out.below hb); replace O103 := Lib.hid (O103.out.below hb); replace X0 := Lib.hid (X0.out.below hb); replace O104 := Lib.hid (O104.out.below hb); replace X1 := Lib.hid (X1.out.below hb); replace B := Lib.hid (below_go B.out hb B.out.size))
          | (go_at_call 19; refine (eqBraid_yes _ _ _ _ _ _ _ rs0 _ O103.out.reads OX.out hn103).mono ?_; rintro e u02 ⟨rfl, hb⟩; have zx2 := hb.size; replace R0 := Lib.hid (R0.out.below hb); replace R1 := Lib.hid (R1.out.below hb); replace A0 := Lib.hid (A0.out.below hb); replace A1 := Lib.hid (A1.out.below hb); replace O103 := Lib.hid (O103.out.below hb); replace X0 := Lib.hid (X0.out.below hb); replace O104 := Lib.hid (O104.out.below hb); replace X1 := Lib.hid (X1.out.below hb); replace B := Lib.hid (below_go B.out hb B.out.size)))
      have zx10 : v5.heap.size + 0 ≤ u02.heap.size := by (try simp at zx1 zx2); omega
      clear zx1 zx2 OX
      go_wp2
      replace R0 := Lib.hid R0.out.drew
      replace R1 := Lib.hid R1.out.drew
      replace A0 := Lib.hid A0.out.drew
      replace A1 := Lib.hid A1.out.drew
      replace O103 := Lib.hid O103.out.drew
      replace X0 := Lib.hid X0.out.drew
      replace O104 := Lib.hid O104.out.drew
      replace X1 := Lib.hid X1.out.drew
      replace B := Lib.hid B.out.drew
      go_region_held3 (fun w' => (w'.cell? ⟨w.heap.size + 1, 0, none⟩ = some (.int .i64 s1) ∧ w'.cell? ⟨w.heap.size + 1, 1, none⟩ = some (.slice a1 n1 cap1) ∧ True) ∧ (w'.cell? ⟨v4.heap.size, 0, none⟩ = some (.int .i64 s1) ∧ w'.cell? ⟨v4.heap.size, 1, none⟩ = some (.slice a104 n104 c104) ∧ True)) (first | with_reducible exact ⟨A1.out.cells, X1.out.cells⟩)
        (first
          | (go_at_call 29; refine (toBraid_any _ _ _ _ rs1 _ R1.out.1 h21).mono ?_; rintro e u11 ⟨ax, nx, cx, rfl, ho6, hb⟩; have OX := Lib.hid ho6.reads; have zx1 := hb.size; replace R0 := Lib.hid (R0.out.below hb); replace R1 := Lib.hid (R1.out.below hb); replace A0 := Lib.hid (A0.out.below hb); replace A1 := Lib.hid (A1.out.below hb); replace O103 := Lib.hid (O103.out.below hb); replace X0 := Lib.hid (X0.out.below hb); replace O104 := Lib.hid (O104.out.below hb); replace X1 := Lib.hid (X1.out.below hb); replace B := Lib.hid (below_go B.out hb B.out.size))
          | (go_at_call 19; refine (eqBraid_yes _ _ _ _ _ _ _ rs1 _ O104.out.reads OX.out hn104).mono ?_; rintro e u12 ⟨rfl, hb⟩; have zx2 := hb.size; replace R0 := Lib.hid (R0.out.below hb); replace R1 := Lib.hid (R1.out.below hb); replace A0 := Lib.hid (A0.out.below hb); replace A1 := Lib.hid (A1.out.below hb); replace O103 := Lib.hid (O103.out.below hb); replace X0 := Lib.hid (X0.out.below hb); replace O104 := Lib.hid (O104.out.below hb); replace X1 := Lib.hid (X1.out.below hb); replace B := Lib.hid (below_go B.out hb B.out.size)))
      have zx11 : u02.heap.size + 0 ≤ u12.heap.size := by (try simp at zx1 zx2); omega
      clear zx1 zx2 OX
      go_wp2
      go_ret
      exact ⟨rfl, B.out⟩
    · skip
      have h0 : (1048576 : Int) - (n0 : Int) < (n1 : Int) := by omega
      go_enter Try.func15, Try.ntmps15
      have A0 := Lib.hid ((At2.place w (.int .i64 s0) (.slice a0 n0 cap0) 35 (w.heap.size) (by simp)).alloc (.cells #[.int .i64 s1, .slice a1 n1 cap1] 35))
      replace R0 := Lib.hid ((R0.out.alloc (.cells #[.int .i64 s0, .slice a0 n0 cap0] 35)).alloc (.cells #[.int .i64 s1, .slice a1 n1 cap1] 35))
      have A1 := Lib.hid (At2.place (w.alloc (.cells #[.int .i64 s0, .slice a0 n0 cap0] 35)) (.int .i64 s1) (.slice a1 n1 cap1) 35 (w.heap.size + 1) (by simp))
      replace R1 := Lib.hid ((R1.out.alloc (.cells #[.int .i64 s0, .slice a0 n0 cap0] 35)).alloc (.cells #[.int .i64 s1, .slice a1 n1 cap1] 35))
      have B := Lib.hid ((below1 w (.cells #[.int .i64 s0, .slice a0 n0 cap0] 35)).alloc (by simp; try omega) (.cells #[.int .i64 s1, .slice a1 n1 cap1] 35))
      obtain ⟨qA01, qA02, qA03⟩ := A0.out.cells
      obtain ⟨qA11, qA12, qA13⟩ := A1.out.cells
      go_wp2_with fail
      refine (szBraid_fit _ _ _ _ 1048576 _ (by omega) (by omega)).mono ?_
      rintro e w1 ⟨rfl, hb1⟩
      clear qA01 qA02 qA03 qA11 qA12 qA13
      replace A0 := Lib.hid (A0.out.below hb1)
      replace A1 := Lib.hid (A1.out.below hb1)
      replace B := Lib.hid (below_go B.out hb1 B.out.size)
      obtain ⟨qA01, qA02, qA03⟩ := A0.out.cells
      obtain ⟨qA11, qA12, qA13⟩ := A1.out.cells
      go_wp2_with fail
      refine (szBraid_big _ _ _ _ _ _ h0 (by omega) hn1).mono ?_
      rintro e w2 ⟨rfl, hb2⟩
      replace B := Lib.hid (below_go B.out hb2 B.out.size)
      go_wp2
      go_ret
      exact ⟨rfl, B.out⟩
  · skip
    have h0 : (1048576 : Int) < (n0 : Int) := by omega
    go_enter Try.func15, Try.ntmps15
    have A0 := Lib.hid ((At2.place w (.int .i64 s0) (.slice a0 n0 cap0) 35 (w.heap.size) (by simp)).alloc (.cells #[.int .i64 s1, .slice a1 n1 cap1] 35))
    replace R0 := Lib.hid ((R0.out.alloc (.cells #[.int .i64 s0, .slice a0 n0 cap0] 35)).alloc (.cells #[.int .i64 s1, .slice a1 n1 cap1] 35))
    have A1 := Lib.hid (At2.place (w.alloc (.cells #[.int .i64 s0, .slice a0 n0 cap0] 35)) (.int .i64 s1) (.slice a1 n1 cap1) 35 (w.heap.size + 1) (by simp))
    replace R1 := Lib.hid ((R1.out.alloc (.cells #[.int .i64 s0, .slice a0 n0 cap0] 35)).alloc (.cells #[.int .i64 s1, .slice a1 n1 cap1] 35))
    have B := Lib.hid ((below1 w (.cells #[.int .i64 s0, .slice a0 n0 cap0] 35)).alloc (by simp; try omega) (.cells #[.int .i64 s1, .slice a1 n1 cap1] 35))
    obtain ⟨qA01, qA02, qA03⟩ := A0.out.cells
    obtain ⟨qA11, qA12, qA13⟩ := A1.out.cells
    go_wp2_with fail
    refine (szBraid_big _ _ _ _ _ _ h0 (by omega) hn0).mono ?_
    rintro e w1 ⟨rfl, hb1⟩
    replace B := Lib.hid (below_go B.out hb1 B.out.size)
    go_wp2
    go_ret
    exact ⟨rfl, B.out⟩
end Go.Proofs.Ytmlejlediflaaaa
