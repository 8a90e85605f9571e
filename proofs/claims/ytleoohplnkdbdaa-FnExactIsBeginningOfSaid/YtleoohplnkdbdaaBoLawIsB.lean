/- The walk of the law of impl.IsBeginningOf: the model's answer and the program's are compared, marks are written into what came back and looked for. -/
import Derived.Test.YtleoohplnkdbdaaBoIIsB
import Derived.Test.YtleoohplnkdbdaaBoNEq
import Derived.Test.YtleoohplnkdbdaaBoBB
import Derived.Test.YtleoohplnkdbdaaBoQA
import Derived.Deep.RegionHeld3
namespace Go.Proofs.Ytleoohplnkdbdaa
open Go.RowKit Go.ChangeShapes

set_option maxRecDepth 100000 in
set_option maxHeartbeats 8000000 in
theorem fnExactIsBeginningOf_walk {s0 p0 : Int} {a0 : Option Addr} {n0 cap0 : Nat} {rs0 : List (List Int)} {s1 p1 : Int} {a1 : Option Addr} {n1 cap1 : Nat} {rs1 : List (List Int)} {w : World} (hr0 : ReadsA w a0 n0 rs0) (hy0 : BytesA rs0) (hn0 : n0 ≤ maxLen) (hr1 : ReadsA w a1 n1 rs1) (hy1 : BytesA rs1) (hn1 : n1 ≤ maxLen) :
  Calls Try.prog 6 #[.agg #[.int .i64 s0, .int .i64 p0, .slice a0 n0 cap0], .agg #[.int .i64 s1, .int .i64 p1, .slice a1 n1 cap1]] w fun e w' => e = .returned (.bool true) ∧ Below w.heap.size w w' := by
 have R0 := Lib.hid hr0.old; clear hr0
 have HY0 := Lib.hid hy0; clear hy0
 have R1 := Lib.hid hr1.old; clear hr1
 have HY1 := Lib.hid hy1; clear hy1
 by_cases h0n : n0 ≤ 1048576
 ·by_cases h1n : n0 + n1 ≤ 1048576
  ·skip
   obtain ⟨fb, fc, hM⟩ : ∃ fb fc, mIsB s0 p0 rs0 s1 p1 rs1 = (fb, fc) := ⟨_, _, rfl⟩
   have HM := Lib.hid hM; clear hM
   have t1 : (fc != fc) = false := by simp
   have t2 : (fb != fb) = false := by simp
   have h20 : n0 ≤ 1048576 := by omega
   have h21 : n1 ≤ 1048576 := by omega
   go_enter Try.func6, Try.ntmps6
   have A0 := Lib.hid ((At3.place w (.int .i64 s0) (.int .i64 p0) (.slice a0 n0 cap0) 24 (w.heap.size) (by simp)).alloc (.cells #[.int .i64 s1, .int .i64 p1, .slice a1 n1 cap1] 24))
   replace R0 := Lib.hid ((R0.out.alloc (.cells #[.int .i64 s0, .int .i64 p0, .slice a0 n0 cap0] 24)).alloc (.cells #[.int .i64 s1, .int .i64 p1, .slice a1 n1 cap1] 24))
   have A1 := Lib.hid (At3.place (w.alloc (.cells #[.int .i64 s0, .int .i64 p0, .slice a0 n0 cap0] 24)) (.int .i64 s1) (.int .i64 p1) (.slice a1 n1 cap1) 24 (w.heap.size + 1) (by simp))
   replace R1 := Lib.hid ((R1.out.alloc (.cells #[.int .i64 s0, .int .i64 p0, .slice a0 n0 cap0] 24)).alloc (.cells #[.int .i64 s1, .int .i64 p1, .slice a1 n1 cap1] 24))
   have B := Lib.hid ((below1 w (.cells #[.int .i64 s0, .int .i64 p0, .slice a0 n0 cap0] 24)).alloc (by simp; try omega) (.cells #[.int .i64 s1, .int .i64 p1, .slice a1 n1 cap1] 24))
   obtain ⟨qA01, qA02, qA03⟩ := A0.out.cells
   obtain ⟨qA11, qA12, qA13⟩ := A1.out.cells
   go_wp2_with fail
   refine (szNormal_fit _ _ _ _ _ (1048576) _ (by omega) (by omega)).mono ?_
   rintro e v1 ⟨rfl, hb⟩
   clear qA01 qA02 qA03 qA11 qA12 qA13
   replace R0 := Lib.hid (R0.out.below hb)
   replace R1 := Lib.hid (R1.out.below hb)
   replace A0 := Lib.hid (A0.out.below hb)
   replace A1 := Lib.hid (A1.out.below hb)
   replace B := Lib.hid (below_go B.out hb B.out.size)
   have z1 : w.heap.size + 2 ≤ v1.heap.size := by have := hb.size; (try simp at this); omega
   clear hb
   obtain ⟨qA01, qA02, qA03⟩ := A0.out.cells
   obtain ⟨qA11, qA12, qA13⟩ := A1.out.cells
   go_wp2_with fail
   refine (szNormal_fit _ _ _ _ _ (1048576 - (n0 : Int)) _ (by omega) (by omega)).mono ?_
   rintro e v2 ⟨rfl, hb⟩
   clear qA01 qA02 qA03 qA11 qA12 qA13
   replace R0 := Lib.hid (R0.out.below hb)
   replace R1 := Lib.hid (R1.out.below hb)
   replace A0 := Lib.hid (A0.out.below hb)
   replace A1 := Lib.hid (A1.out.below hb)
   replace B := Lib.hid (below_go B.out hb B.out.size)
   have z2 : v1.heap.size + 0 ≤ v2.heap.size := by have := hb.size; (try simp at this); omega
   clear hb
   obtain ⟨qA01, qA02, qA03⟩ := A0.out.cells
   obtain ⟨qA11, qA12, qA13⟩ := A1.out.cells
   go_upto_region 8 with fail
   clear qA01 qA02 qA03 qA11 qA12 qA13
   go_cut [6, 7] from 22 to 29 (fun x6 x7 wx => x6 = .bool fb ∧ x7 = .int .i64 fc ∧ Below v2.heap.size v2 wx)
   case first =>
    have KB : Hid (Below v2.heap.size v2 v2.drew) := Lib.hid (Below.refl v2.heap.size v2).drew
    have zA : w.heap.size < v2.heap.size := A0.out.1
    have zB : w.heap.size + 1 < v2.heap.size := A1.out.1
    have SH : Hid (∀ W, Below v2.heap.size v2 W → (W.cell? ⟨w.heap.size, 0, none⟩ = some (.int .i64 s0) ∧ W.cell? ⟨w.heap.size, 1, none⟩ = some (.int .i64 p0) ∧ W.cell? ⟨w.heap.size, 2, none⟩ = some (.slice a0 n0 cap0)) ∧ (W.cell? ⟨w.heap.size + 1, 0, none⟩ = some (.int .i64 s1) ∧ W.cell? ⟨w.heap.size + 1, 1, none⟩ = some (.int .i64 p1) ∧ W.cell? ⟨w.heap.size + 1, 2, none⟩ = some (.slice a1 n1 cap1))) := Lib.hid fun W h => ⟨(A0.out.below h).cells, (A1.out.below h).cells⟩
    have SZ : Hid (∀ W, Below v2.heap.size v2 W → ∀ g, v2.heap.size ≤ g → ∀ u v x, ((((W.setCell ⟨g, 0, none⟩ u).setCell ⟨g, 1, none⟩ v).setCell ⟨g, 2, none⟩ x).cell? ⟨w.heap.size, 0, none⟩ = some (.int .i64 s0) ∧ (((W.setCell ⟨g, 0, none⟩ u).setCell ⟨g, 1, none⟩ v).setCell ⟨g, 2, none⟩ x).cell? ⟨w.heap.size, 1, none⟩ = some (.int .i64 p0) ∧ (((W.setCell ⟨g, 0, none⟩ u).setCell ⟨g, 1, none⟩ v).setCell ⟨g, 2, none⟩ x).cell? ⟨w.heap.size, 2, none⟩ = some (.slice a0 n0 cap0)) ∧ ((((W.setCell ⟨g, 0, none⟩ u).setCell ⟨g, 1, none⟩ v).setCell ⟨g, 2, none⟩ x).cell? ⟨w.heap.size + 1, 0, none⟩ = some (.int .i64 s1) ∧ (((W.setCell ⟨g, 0, none⟩ u).setCell ⟨g, 1, none⟩ v).setCell ⟨g, 2, none⟩ x).cell? ⟨w.heap.size + 1, 1, none⟩ = some (.int .i64 p1) ∧ (((W.setCell ⟨g, 0, none⟩ u).setCell ⟨g, 1, none⟩ v).setCell ⟨g, 2, none⟩ x).cell? ⟨w.heap.size + 1, 2, none⟩ = some (.slice a1 n1 cap1))) := Lib.hid fun W h g hg u v x => ⟨((A0.out.below h).set3 (g2 := g) (by omega) u v x).cells, ((A1.out.below h).set3 (g2 := g) (by omega) u v x).cells⟩
    refine wp_region_held_drew (S := (fun w' => (w'.cell? ⟨w.heap.size, 0, none⟩ = some (.int .i64 s0) ∧ w'.cell? ⟨w.heap.size, 1, none⟩ = some (.int .i64 p0) ∧ w'.cell? ⟨w.heap.size, 2, none⟩ = some (.slice a0 n0 cap0)) ∧ (w'.cell? ⟨w.heap.size + 1, 0, none⟩ = some (.int .i64 s1) ∧ w'.cell? ⟨w.heap.size + 1, 1, none⟩ = some (.int .i64 p1) ∧ w'.cell? ⟨w.heap.size + 1, 2, none⟩ = some (.slice a1 n1 cap1)))) (by kernel_rfl) ?_ (fun hHeld => ?_)
    ·first | with_reducible exact SH.out _ KB.out | with_reducible exact SZ.out _ KB.out _ zG.out _ _ _
    refine wpAnyH_take (i := 0) (oi := { dst := some 23, op := Op.load 24 (Operand.tmp 2), type := 24, pos := "exact.go:2050", after := #[], guard := none }) (v := ?_) rfl (by kernel_rfl) (by kernel_rfl) (by kernel_rfl) (fun _ _ _ h => h) (Or.inl ⟨by rfl, ?_⟩) (by assumption) ?_
    rotate_left
    ·intro w hSw
     (try dsimp only at hSw)
     go_simp
     try with_reducible rfl
    try simp only [Act.put, List.setIfInBounds_toArray, List.set_cons_zero, List.set_cons_succ]
    refine wpAnyH_take (i := 2) (oi := { dst := some 25, op := Op.load 24 (Operand.tmp 3), type := 24, pos := "exact.go:2050", after := #[], guard := none }) (v := ?_) rfl (by kernel_rfl) (by kernel_rfl) (by kernel_rfl) (fun _ _ _ h => h) (Or.inl ⟨by rfl, ?_⟩) (by assumption) ?_
    rotate_left
    ·intro w hSw
     (try dsimp only at hSw)
     go_simp
     try with_reducible rfl
    try simp only [Act.put, List.setIfInBounds_toArray, List.set_cons_zero, List.set_cons_succ]
    refine wpAnyH_ready (rs := [1]) (by kernel_rfl) (by simp) ?_
    refine AllReadyH.cons (o := { dst := some 24, op := Op.call { callee := Callee.value (Operand.func 11), args := #[Operand.tmp 23], argTypes := #[24] }, type := 28, pos := "exact.go:2050", after := #[{ on := 0, ground := Ground.data }], guard := none }) rfl (fun K hK => ?_) ?_
    ·go_simp
     refine (toNormal_any _ _ _ _ _ rs0 _ (R0.out.1.below KB.out) h20).mono ?_
     rintro e u0 ⟨x0, y0, z0, rfl, ho, gg⟩
     have O0 : Hid (OwnA v2.heap.size u0 x0 y0 z0 rs0) := Lib.hid (ho.mono KB.out.size)
     replace KB := Lib.hid (below_go KB.out gg KB.out.size)
     clear ho gg
     go_wp2_with fail
     refine hK.out _ _ ?_ (fun hHeld => ?_)
     ·first | with_reducible exact SH.out _ KB.out | with_reducible exact SZ.out _ KB.out _ zG.out _ _ _
     clear hK K
     try simp only [Act.put, List.setIfInBounds_toArray, List.set_cons_zero, List.set_cons_succ]
     refine wpAnyH_ready (rs := [3]) (by kernel_rfl) (by simp) ?_
     refine AllReadyH.cons (o := { dst := some 26, op := Op.call { callee := Callee.value (Operand.func 11), args := #[Operand.tmp 25], argTypes := #[24] }, type := 28, pos := "exact.go:2050", after := #[{ on := 2, ground := Ground.data }, { on := 1, ground := Ground.chain }], guard := none }) rfl (fun K hK => ?_) ?_
     ·go_simp
      refine (toNormal_any _ _ _ _ _ rs1 _ (R1.out.1.below KB.out) h21).mono ?_
      rintro e u1 ⟨x1, y1, z1, rfl, ho, gg⟩
      replace O0 := Lib.hid (O0.out.below gg)
      have O1 : Hid (OwnA v2.heap.size u1 x1 y1 z1 rs1) := Lib.hid (ho.mono KB.out.size)
      replace KB := Lib.hid (below_go KB.out gg KB.out.size)
      clear ho gg
      go_wp2_with fail
      refine hK.out _ _ ?_ (fun hHeld => ?_)
      ·first | with_reducible exact SH.out _ KB.out | with_reducible exact SZ.out _ KB.out _ zG.out _ _ _
      clear hK K
      try simp only [Act.put, List.setIfInBounds_toArray, List.set_cons_zero, List.set_cons_succ]
      refine wpAnyH_ready (rs := [4]) (by kernel_rfl) (by simp) ?_
      refine AllReadyH.cons (o := { dst := some 27, op := Op.call { callee := Callee.value (Operand.func 20), args := #[Operand.tmp 24, Operand.tmp 26], argTypes := #[28, 28] }, type := 39, pos := "exact.go:2050", after := #[{ on := 1, ground := Ground.data }, { on := 3, ground := Ground.data }, { on := 3, ground := Ground.chain }], guard := none }) rfl (fun K hK => ?_) ?_
      ·go_simp
       refine (specIsBeginningOf_any s0 p0 _ _ _ rs0 s1 p1 _ _ _ rs1 _ O0.out.reads HY0.out (by have := O0.out.len; have := R0.out.1.len; omega) O1.out.reads HY1.out (by have := O1.out.len; have := R1.out.1.len; omega) _ _ HM.out).mono ?_
       rintro e uF ⟨rfl, gg⟩
       replace O0 := Lib.hid (O0.out.below gg)
       replace O1 := Lib.hid (O1.out.below gg)
       replace KB := Lib.hid (below_go KB.out gg KB.out.size)
       clear gg
       go_wp2_with fail
       refine hK.out _ _ ?_ (fun hHeld => ?_)
       ·first | with_reducible exact SH.out _ KB.out | with_reducible exact SZ.out _ KB.out _ zG.out _ _ _
       clear hK K
       try simp only [Act.put, List.setIfInBounds_toArray, List.set_cons_zero, List.set_cons_succ]
       refine wpAnyH_take (i := 5) (oi := { dst := some 22, op := Op.move (Operand.tmp 27), type := 39, pos := "exact.go:2050", after := #[{ on := 4, ground := Ground.data }], guard := none }) (v := ?_) rfl (by kernel_rfl) (by kernel_rfl) (by kernel_rfl) (fun _ _ _ h => h) (Or.inl ⟨by rfl, ?_⟩) (by assumption) ?_
       rotate_left
       ·intro w hSw
        (try dsimp only at hSw)
        go_simp
        try with_reducible rfl
       try simp only [Act.put, List.setIfInBounds_toArray, List.set_cons_zero, List.set_cons_succ]
       refine wpAnyH_take (i := 6) (oi := { dst := some 28, op := Op.extract (Operand.tmp 22) 0, type := 4, pos := "exact.go:2050", after := #[{ on := 5, ground := Ground.data }], guard := none }) (v := ?_) rfl (by kernel_rfl) (by kernel_rfl) (by kernel_rfl) (fun _ _ _ h => h) (Or.inl ⟨by rfl, ?_⟩) (by assumption) ?_
       rotate_left
       ·intro w hSw
        (try dsimp only at hSw)
        go_simp
        try with_reducible rfl
       try simp only [Act.put, List.setIfInBounds_toArray, List.set_cons_zero, List.set_cons_succ]
       refine wpAnyH_take (i := 7) (oi := { dst := some 29, op := Op.extract (Operand.tmp 22) 1, type := 2, pos := "exact.go:2050", after := #[{ on := 5, ground := Ground.data }, { on := 8, ground := Ground.gcOnly Departure.lateStores }], guard := none }) (v := ?_) rfl (by kernel_rfl) (by kernel_rfl) (by kernel_rfl) (fun _ _ _ h => h) (Or.inl ⟨by rfl, ?_⟩) (by assumption) ?_
       rotate_left
       ·intro w hSw
        (try dsimp only at hSw)
        go_simp
        try with_reducible rfl
       try simp only [Act.put, List.setIfInBounds_toArray, List.set_cons_zero, List.set_cons_succ]
       refine wpAnyH_take (i := 8) (oi := { dst := some 6, op := Op.assign (Operand.tmp 28), type := 4, pos := "exact.go:2050", after := #[{ on := 6, ground := Ground.data }, { on := 4, ground := Ground.chain }, { on := 0, ground := Ground.phase }, { on := 1, ground := Ground.phase }, { on := 2, ground := Ground.phase }, { on := 3, ground := Ground.phase }, { on := 4, ground := Ground.phase }, { on := 5, ground := Ground.phase }, { on := 6, ground := Ground.phase }, { on := 7, ground := Ground.textOnly Departure.lateStores }], guard := none }) (v := ?_) rfl (by kernel_rfl) (by kernel_rfl) (by kernel_rfl) (fun _ _ _ h => h) (Or.inl ⟨by rfl, ?_⟩) (by assumption) ?_
       rotate_left
       ·intro w hSw
        (try dsimp only at hSw)
        go_simp
        try with_reducible rfl
       try simp only [Act.put, List.setIfInBounds_toArray, List.set_cons_zero, List.set_cons_succ]
       refine wpAnyH_take (i := 9) (oi := { dst := some 7, op := Op.assign (Operand.tmp 29), type := 2, pos := "exact.go:2050", after := #[{ on := 7, ground := Ground.data }, { on := 8, ground := Ground.chain }, { on := 0, ground := Ground.phase }, { on := 1, ground := Ground.phase }, { on := 2, ground := Ground.phase }, { on := 3, ground := Ground.phase }, { on := 4, ground := Ground.phase }, { on := 5, ground := Ground.phase }, { on := 6, ground := Ground.phase }, { on := 7, ground := Ground.phase }, { on := 8, ground := Ground.phase }], guard := none }) (v := ?_) rfl (by kernel_rfl) (by kernel_rfl) (by kernel_rfl) (fun _ _ _ h => h) (Or.inl ⟨by rfl, ?_⟩) (by assumption) ?_
       rotate_left
       ·intro w hSw
        (try dsimp only at hSw)
        go_simp
        try with_reducible rfl
       try simp only [Act.put, List.setIfInBounds_toArray, List.set_cons_zero, List.set_cons_succ]
       refine wpAnyH_done (by kernel_rfl) ?_ _
       go_wp2_with fail
       go_meet
       exact ⟨rfl, rfl, KB.out⟩
      exact AllReadyH.nil
     exact AllReadyH.nil
    exact AllReadyH.nil
   case rest =>
    obtain ⟨v3, hwc⟩ : ∃ x, x = wc := ⟨_, rfl⟩; subst hwc
    obtain ⟨rfl, rfl, hb⟩ := hcut
    replace R0 := Lib.hid (R0.out.below hb)
    replace R1 := Lib.hid (R1.out.below hb)
    replace A0 := Lib.hid (A0.out.below hb)
    replace A1 := Lib.hid (A1.out.below hb)
    replace B := Lib.hid (below_go B.out hb B.out.size)
    have z3 : v2.heap.size ≤ v3.heap.size := hb.size
    clear hb
    obtain ⟨qA01, qA02, qA03⟩ := A0.out.cells
    obtain ⟨qA11, qA12, qA13⟩ := A1.out.cells
    go_wp2_with fail
    refine (toNormal_any _ _ _ _ _ rs0 _ R0.out.1 h20).mono ?_
    rintro e v4 ⟨a104, n104, c104, rfl, ho, hb⟩
    clear qA01 qA02 qA03 qA11 qA12 qA13
    have hn104 : n104 ≤ 1048576 := by have := ho.len; have := R0.out.1.len; omega
    have O104 : Hid (OwnAIn (v3.heap.size) v4.heap.size v4 a104 n104 c104 rs0) := Lib.hid (by have := ho.within; simpa using this); clear ho
    replace R0 := Lib.hid (R0.out.below hb)
    replace R1 := Lib.hid (R1.out.below hb)
    replace A0 := Lib.hid (A0.out.below hb)
    replace A1 := Lib.hid (A1.out.below hb)
    replace B := Lib.hid (below_go B.out hb B.out.size)
    have z4 : v3.heap.size + 0 ≤ v4.heap.size := by have := hb.size; (try simp at this); omega
    clear hb
    replace R0 := Lib.hid (R0.out.alloc (.cells #[.int .i64 s0, .int .i64 p0, .slice a104 n104 c104] 28))
    replace R1 := Lib.hid (R1.out.alloc (.cells #[.int .i64 s0, .int .i64 p0, .slice a104 n104 c104] 28))
    replace A0 := Lib.hid (A0.out.alloc (.cells #[.int .i64 s0, .int .i64 p0, .slice a104 n104 c104] 28))
    replace A1 := Lib.hid (A1.out.alloc (.cells #[.int .i64 s0, .int .i64 p0, .slice a104 n104 c104] 28))
    replace O104 := Lib.hid (O104.out.alloc (.cells #[.int .i64 s0, .int .i64 p0, .slice a104 n104 c104] 28))
    have X0 := Lib.hid (At3.place v4 (.int .i64 s0) (.int .i64 p0) (.slice a104 n104 c104) 28 v4.heap.size rfl)
    replace B := Lib.hid (B.out.alloc B.out.size (.cells #[.int .i64 s0, .int .i64 p0, .slice a104 n104 c104] 28))
    obtain ⟨qA01, qA02, qA03⟩ := A0.out.cells
    obtain ⟨qA11, qA12, qA13⟩ := A1.out.cells
    obtain ⟨qX01, qX02, qX03⟩ := X0.out.cells
    go_wp2_with fail
    refine (toNormal_any _ _ _ _ _ rs1 _ R1.out.1 h21).mono ?_
    rintro e v5 ⟨a105, n105, c105, rfl, ho, hb⟩
    clear qA01 qA02 qA03 qA11 qA12 qA13 qX01 qX02 qX03
    have hn105 : n105 ≤ 1048576 := by have := ho.len; have := R1.out.1.len; omega
    have O105 : Hid (OwnAIn (v4.heap.size + 1) v5.heap.size v5 a105 n105 c105 rs1) := Lib.hid (by have := ho.within; simpa using this); clear ho
    replace R0 := Lib.hid (R0.out.below hb)
    replace R1 := Lib.hid (R1.out.below hb)
    replace A0 := Lib.hid (A0.out.below hb)
    replace A1 := Lib.hid (A1.out.below hb)
    replace O104 := Lib.hid (O104.out.below hb)
    replace X0 := Lib.hid (X0.out.below hb)
    replace B := Lib.hid (below_go B.out hb B.out.size)
    have z5 : v4.heap.size + 1 ≤ v5.heap.size := by have := hb.size; (try simp at this); omega
    clear hb
    replace R0 := Lib.hid (R0.out.alloc (.cells #[.int .i64 s1, .int .i64 p1, .slice a105 n105 c105] 28))
    replace R1 := Lib.hid (R1.out.alloc (.cells #[.int .i64 s1, .int .i64 p1, .slice a105 n105 c105] 28))
    replace A0 := Lib.hid (A0.out.alloc (.cells #[.int .i64 s1, .int .i64 p1, .slice a105 n105 c105] 28))
    replace A1 := Lib.hid (A1.out.alloc (.cells #[.int .i64 s1, .int .i64 p1, .slice a105 n105 c105] 28))
    replace O104 := Lib.hid (O104.out.alloc (.cells #[.int .i64 s1, .int .i64 p1, .slice a105 n105 c105] 28))
    replace X0 := Lib.hid (X0.out.alloc (.cells #[.int .i64 s1, .int .i64 p1, .slice a105 n105 c105] 28))
    replace O105 := Lib.hid (O105.out.alloc (.cells #[.int .i64 s1, .int .i64 p1, .slice a105 n105 c105] 28))
    have X1 := Lib.hid (At3.place v5 (.int .i64 s1) (.int .i64 p1) (.slice a105 n105 c105) 28 v5.heap.size rfl)
    replace B := Lib.hid (B.out.alloc B.out.size (.cells #[.int .i64 s1, .int .i64 p1, .slice a105 n105 c105] 28))
    obtain ⟨qA01, qA02, qA03⟩ := A0.out.cells
    obtain ⟨qA11, qA12, qA13⟩ := A1.out.cells
    obtain ⟨qX01, qX02, qX03⟩ := X0.out.cells
    obtain ⟨qX11, qX12, qX13⟩ := X1.out.cells
    go_wp2_with fail
    refine (implIsBeginningOf_any s0 p0 _ _ _ rs0 s1 p1 _ _ _ rs1 _ O104.out.reads HY0.out hn104 O105.out.reads HY1.out hn105 _ _ HM.out).mono ?_
    rintro e v6 ⟨rfl, hb⟩
    clear qA01 qA02 qA03 qA11 qA12 qA13 qX01 qX02 qX03 qX11 qX12 qX13
    replace R0 := Lib.hid (R0.out.below hb)
    replace R1 := Lib.hid (R1.out.below hb)
    replace A0 := Lib.hid (A0.out.below hb)
    replace A1 := Lib.hid (A1.out.below hb)
    replace O104 := Lib.hid (O104.out.below hb)
    replace X0 := Lib.hid (X0.out.below hb)
    replace O105 := Lib.hid (O105.out.below hb)
    replace X1 := Lib.hid (X1.out.below hb)
    replace B := Lib.hid (below_go B.out hb B.out.size)
    have z6 : v5.heap.size + 1 ≤ v6.heap.size := by have := hb.size; (try simp at this); omega
    clear hb
    go_wp2
    replace R0 := Lib.hid R0.out.drew
    replace R1 := Lib.hid R1.out.drew
    replace A0 := Lib.hid A0.out.drew
    replace A1 := Lib.hid A1.out.drew
    replace O104 := Lib.hid O104.out.drew
    replace X0 := Lib.hid X0.out.drew
    replace O105 := Lib.hid O105.out.drew
    replace X1 := Lib.hid X1.out.drew
    replace B := Lib.hid B.out.drew
    go_region_held3 (fun w' => (w'.cell? ⟨w.heap.size, 0, none⟩ = some (.int .i64 s0) ∧ w'.cell? ⟨w.heap.size, 1, none⟩ = some (.int .i64 p0) ∧ w'.cell? ⟨w.heap.size, 2, none⟩ = some (.slice a0 n0 cap0)) ∧ (w'.cell? ⟨v4.heap.size, 0, none⟩ = some (.int .i64 s0) ∧ w'.cell? ⟨v4.heap.size, 1, none⟩ = some (.int .i64 p0) ∧ w'.cell? ⟨v4.heap.size, 2, none⟩ = some (.slice a104 n104 c104))) (first | with_reducible exact ⟨A0.out.cells, X0.out.cells⟩)
     (first
      | (go_at_call 11; refine (toNormal_any _ _ _ _ _ rs0 _ R0.out.1 h20).mono ?_; rintro e u01 ⟨ax, nx, cx, rfl, ho6, hb⟩; have OX := Lib.hid ho6.reads; have zx1 := hb.size; replace R0 := Lib.hid (R0.out.below hb); replace R1 := Lib.hid (R1.out.below hb); replace A0 := Lib.hid (A0.out.below hb); replace A1 := Lib.hid (A1.out.below hb); replace O104 := Lib.hid (O104.out.below hb); replace X0 := Lib.hid (X0.out.below hb); replace O105 := Lib.hid (O105.out.below hb); replace X1 := Lib.hid (X1.out.below hb); replace B := Lib.hid (below_go B.out hb B.out.size))
      | (go_at_call 13; refine (eqNormal_yesn _ _ _ _ _ _ _ _ rs0 _ O104.out.reads OX.out hn104).mono ?_; rintro e u02 ⟨rfl, hb⟩; have zx2 := hb.size; replace R0 := Lib.hid (R0.out.below hb); replace R1 := Lib.hid (R1.out.below hb); replace A0 := Lib.hid (A0.out.below hb); replace A1 := Lib.hid (A1.out.below hb); replace O104 := Lib.hid (O104.out.below hb); replace X0 := Lib.hid (X0.out.below hb); replace O105 := Lib.hid (O105.out.below hb); replace X1 := Lib.hid (X1.out.below hb); replace B := Lib.hid (below_go B.out hb B.out.size)))
    have zx10 : v6.heap.size + 0 ≤ u02.heap.size := by (try simp at zx1 zx2); omega
    clear zx1 zx2 OX
    go_wp2
    replace R0 := Lib.hid R0.out.drew
    replace R1 := Lib.hid R1.out.drew
    replace A0 := Lib.hid A0.out.drew
    replace A1 := Lib.hid A1.out.drew
    replace O104 := Lib.hid O104.out.drew
    replace X0 := Lib.hid X0.out.drew
    replace O105 := Lib.hid O105.out.drew
    replace X1 := Lib.hid X1.out.drew
    replace B := Lib.hid B.out.drew
    go_region_held3 (fun w' => (w'.cell? ⟨w.heap.size + 1, 0, none⟩ = some (.int .i64 s1) ∧ w'.cell? ⟨w.heap.size + 1, 1, none⟩ = some (.int .i64 p1) ∧ w'.cell? ⟨w.heap.size + 1, 2, none⟩ = some (.slice a1 n1 cap1)) ∧ (w'.cell? ⟨v5.heap.size, 0, none⟩ = some (.int .i64 s1) ∧ w'.cell? ⟨v5.heap.size, 1, none⟩ = some (.int .i64 p1) ∧ w'.cell? ⟨v5.heap.size, 2, none⟩ = some (.slice a105 n105 c105))) (first | with_reducible exact ⟨A1.out.cells, X1.out.cells⟩)
     (first
      | (go_at_call 11; refine (toNormal_any _ _ _ _ _ rs1 _ R1.out.1 h21).mono ?_; rintro e u11 ⟨ax, nx, cx, rfl, ho6, hb⟩; have OX := Lib.hid ho6.reads; have zx1 := hb.size; replace R0 := Lib.hid (R0.out.below hb); replace R1 := Lib.hid (R1.out.below hb); replace A0 := Lib.hid (A0.out.below hb); replace A1 := Lib.hid (A1.out.below hb); replace O104 := Lib.hid (O104.out.below hb); replace X0 := Lib.hid (X0.out.below hb); replace O105 := Lib.hid (O105.out.below hb); replace X1 := Lib.hid (X1.out.below hb); replace B := Lib.hid (below_go B.out hb B.out.size))
      | (go_at_call 13; refine (eqNormal_yesn _ _ _ _ _ _ _ _ rs1 _ O105.out.reads OX.out hn105).mono ?_; rintro e u12 ⟨rfl, hb⟩; have zx2 := hb.size; replace R0 := Lib.hid (R0.out.below hb); replace R1 := Lib.hid (R1.out.below hb); replace A0 := Lib.hid (A0.out.below hb); replace A1 := Lib.hid (A1.out.below hb); replace O104 := Lib.hid (O104.out.below hb); replace X0 := Lib.hid (X0.out.below hb); replace O105 := Lib.hid (O105.out.below hb); replace X1 := Lib.hid (X1.out.below hb); replace B := Lib.hid (below_go B.out hb B.out.size)))
    have zx11 : u02.heap.size + 0 ≤ u12.heap.size := by (try simp at zx1 zx2); omega
    clear zx1 zx2 OX
    go_wp2
    go_ret
    exact ⟨rfl, B.out⟩
  ·skip
   have h0 : (1048576 : Int) - (n0 : Int) < (n1 : Int) := by omega
   go_enter Try.func6, Try.ntmps6
   have A0 := Lib.hid ((At3.place w (.int .i64 s0) (.int .i64 p0) (.slice a0 n0 cap0) 24 (w.heap.size) (by simp)).alloc (.cells #[.int .i64 s1, .int .i64 p1, .slice a1 n1 cap1] 24))
   replace R0 := Lib.hid ((R0.out.alloc (.cells #[.int .i64 s0, .int .i64 p0, .slice a0 n0 cap0] 24)).alloc (.cells #[.int .i64 s1, .int .i64 p1, .slice a1 n1 cap1] 24))
   have A1 := Lib.hid (At3.place (w.alloc (.cells #[.int .i64 s0, .int .i64 p0, .slice a0 n0 cap0] 24)) (.int .i64 s1) (.int .i64 p1) (.slice a1 n1 cap1) 24 (w.heap.size + 1) (by simp))
   replace R1 := Lib.hid ((R1.out.alloc (.cells #[.int .i64 s0, .int .i64 p0, .slice a0 n0 cap0] 24)).alloc (.cells #[.int .i64 s1, .int .i64 p1, .slice a1 n1 cap1] 24))
   have B := Lib.hid ((below1 w (.cells #[.int .i64 s0, .int .i64 p0, .slice a0 n0 cap0] 24)).alloc (by simp; try omega) (.cells #[.int .i64 s1, .int .i64 p1, .slice a1 n1 cap1] 24))
   obtain ⟨qA01, qA02, qA03⟩ := A0.out.cells
   obtain ⟨qA11, qA12, qA13⟩ := A1.out.cells
   go_wp2_with fail
   refine (szNormal_fit _ _ _ _ _ 1048576 _ (by omega) (by omega)).mono ?_
   rintro e w1 ⟨rfl, hb1⟩
   clear qA01 qA02 qA03 qA11 qA12 qA13
   replace A0 := Lib.hid (A0.out.below hb1)
   replace A1 := Lib.hid (A1.out.below hb1)
   replace B := Lib.hid (below_go B.out hb1 B.out.size)
   obtain ⟨qA01, qA02, qA03⟩ := A0.out.cells
   obtain ⟨qA11, qA12, qA13⟩ := A1.out.cells
   go_wp2_with fail
   refine (szNormal_big _ _ _ _ _ _ _ h0 (by omega) hn1).mono ?_
   rintro e w2 ⟨rfl, hb2⟩
   replace B := Lib.hid (below_go B.out hb2 B.out.size)
   go_wp2
   go_ret
   exact ⟨rfl, B.out⟩
 ·skip
  have h0 : (1048576 : Int) < (n0 : Int) := by omega
  go_enter Try.func6, Try.ntmps6
  have A0 := Lib.hid ((At3.place w (.int .i64 s0) (.int .i64 p0) (.slice a0 n0 cap0) 24 (w.heap.size) (by simp)).alloc (.cells #[.int .i64 s1, .int .i64 p1, .slice a1 n1 cap1] 24))
  replace R0 := Lib.hid ((R0.out.alloc (.cells #[.int .i64 s0, .int .i64 p0, .slice a0 n0 cap0] 24)).alloc (.cells #[.int .i64 s1, .int .i64 p1, .slice a1 n1 cap1] 24))
  have A1 := Lib.hid (At3.place (w.alloc (.cells #[.int .i64 s0, .int .i64 p0, .slice a0 n0 cap0] 24)) (.int .i64 s1) (.int .i64 p1) (.slice a1 n1 cap1) 24 (w.heap.size + 1) (by simp))
  replace R1 := Lib.hid ((R1.out.alloc (.cells #[.int .i64 s0, .int .i64 p0, .slice a0 n0 cap0] 24)).alloc (.cells #[.int .i64 s1, .int .i64 p1, .slice a1 n1 cap1] 24))
  have B := Lib.hid ((below1 w (.cells #[.int .i64 s0, .int .i64 p0, .slice a0 n0 cap0] 24)).alloc (by simp; try omega) (.cells #[.int .i64 s1, .int .i64 p1, .slice a1 n1 cap1] 24))
  obtain ⟨qA01, qA02, qA03⟩ := A0.out.cells
  obtain ⟨qA11, qA12, qA13⟩ := A1.out.cells
  go_wp2_with fail
  refine (szNormal_big _ _ _ _ _ _ _ h0 (by omega) hn0).mono ?_
  rintro e w1 ⟨rfl, hb1⟩
  replace B := Lib.hid (below_go B.out hb1 B.out.size)
  go_wp2
  go_ret
  exact ⟨rfl, B.out⟩
end Go.Proofs.Ytleoohplnkdbdaa

