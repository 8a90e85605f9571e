/- The walk of the law of impl.ConjugateBy: the model's answer and the program's are compared, marks are written into what came back and looked for. -/
import Derived.Test.YtleoohplnkdbdabCjNConj
import Derived.Test.YtleoohplnkdbdabCjNEq
import Derived.Test.YtleoohplnkdbdabCjBB
import Derived.Test.YtleoohplnkdbdabCjQA
import Derived.Deep.RegionHeld3
namespace Go.Proofs.Ytleoohplnkdbdab
open Go.RowKit Go.ChangeShapes

set_option maxRecDepth 100000 in
set_option maxHeartbeats 8000000 in
theorem fnExactConjugateBy_walk {s0 p0 : Int} {a0 : Option Addr} {n0 cap0 : Nat} {rs0 : List (List Int)} {s1 p1 : Int} {a1 : Option Addr} {n1 cap1 : Nat} {rs1 : List (List Int)} {w : World} (hr0 : ReadsA w a0 n0 rs0) (hy0 : BytesA rs0) (hn0 : n0 ≤ maxLen) (hr1 : ReadsA w a1 n1 rs1) (hy1 : BytesA rs1) (hn1 : n1 ≤ maxLen) :
  Calls Try.prog 5 #[.agg #[.int .i64 s0, .int .i64 p0, .slice a0 n0 cap0], .agg #[.int .i64 s1, .int .i64 p1, .slice a1 n1 cap1]] w fun e w' => e = .returned (.bool true) ∧ Below w.heap.size w w' := by
 have R0 := Lib.hid hr0.old; clear hr0
 have HY0 := Lib.hid hy0; clear hy0
 have R1 := Lib.hid hr1.old; clear hr1
 have HY1 := Lib.hid hy1; clear hy1
 by_cases h0n : n0 ≤ 1048576
 ·by_cases h1n : n0 + n1 ≤ 1048576
  ·skip
   obtain ⟨fs, fp, frs, fc, hM⟩ : ∃ fs fp frs fc, mConj s0 p0 rs0 s1 p1 rs1 = (fs, fp, frs, fc) := ⟨_, _, _, _, rfl⟩
   have HM := Lib.hid hM; clear hM
   have t1 : (fc != fc) = false := by simp
   have h20 : n0 ≤ 1048576 := by omega
   have h21 : n1 ≤ 1048576 := by omega
   go_enter Try.func5, Try.ntmps5
   have A0 := Lib.hid ((At3.place w (.int .i64 s0) (.int .i64 p0) (.slice a0 n0 cap0) 43 (w.heap.size) (by simp)).alloc (.cells #[.int .i64 s1, .int .i64 p1, .slice a1 n1 cap1] 43))
   replace R0 := Lib.hid ((R0.out.alloc (.cells #[.int .i64 s0, .int .i64 p0, .slice a0 n0 cap0] 43)).alloc (.cells #[.int .i64 s1, .int .i64 p1, .slice a1 n1 cap1] 43))
   have A1 := Lib.hid (At3.place (w.alloc (.cells #[.int .i64 s0, .int .i64 p0, .slice a0 n0 cap0] 43)) (.int .i64 s1) (.int .i64 p1) (.slice a1 n1 cap1) 43 (w.heap.size + 1) (by simp))
   replace R1 := Lib.hid ((R1.out.alloc (.cells #[.int .i64 s0, .int .i64 p0, .slice a0 n0 cap0] 43)).alloc (.cells #[.int .i64 s1, .int .i64 p1, .slice a1 n1 cap1] 43))
   have B := Lib.hid ((below1 w (.cells #[.int .i64 s0, .int .i64 p0, .slice a0 n0 cap0] 43)).alloc (by simp; try omega) (.cells #[.int .i64 s1, .int .i64 p1, .slice a1 n1 cap1] 43))
   obtain ⟨qA01, qA02, qA03⟩ := A0.out.cells
   obtain ⟨qA11, qA12, qA13⟩ := A1.out.cells
   go_wp2_with fail
   refine (szNormal_fit _ _ _ _ _ (1048576) _ (by omega) (by omega)).mono ?_
   rintro e v1 ⟨rfl, hb⟩
   clear qA01 qA02 qA03 qA11 qA12 qA13
   replace R0 := Lib.hid (R0.out.below hb)
   replace R1 := Lib.hid (R1.out.below hb)
   replace A0 := Lib.hid (A0.out.below hb)
   replace A1 := Lib.hid (A1.out.below hb)
   replace B := Lib.hid (below_go B.out hb B.out.size)
   have z1 : w.heap.size + 2 ≤ v1.heap.size := by have := hb.size; (try simp at this); omega
   clear hb
   obtain ⟨qA01, qA02, qA03⟩ := A0.out.cells
   obtain ⟨qA11, qA12, qA13⟩ := A1.out.cells
   go_wp2_with fail
   refine (szNormal_fit _ _ _ _ _ (1048576 - (n0 : Int)) _ (by omega) (by omega)).mono ?_
   rintro e v2 ⟨rfl, hb⟩
   clear qA01 qA02 qA03 qA11 qA12 qA13
   replace R0 := Lib.hid (R0.out.below hb)
   replace R1 := Lib.hid (R1.out.below hb)
   replace A0 := Lib.hid (A0.out.below hb)
   replace A1 := Lib.hid (A1.out.below hb)
   replace B := Lib.hid (below_go B.out hb B.out.size)
   have z2 : v1.heap.size + 0 ≤ v2.heap.size := by have := hb.size; (try simp at this); omega
   clear hb
   obtain ⟨qA01, qA02, qA03⟩ := A0.out.cells
   obtain ⟨qA11, qA12, qA13⟩ := A1.out.cells
   go_upto_region 8 with fail
   clear qA01 qA02 qA03 qA11 qA12 qA13
   go_cut [6, 7] from 27 to 34 (fun x6 x7 wx => ∃ g b m d, x6 = .pointer (some ⟨g, 0, none⟩) ∧ x7 = .int .i64 fc ∧ m ≤ 1048576 ∧ v2.heap.size ≤ g ∧ At3 wx g (.int .i64 fs) (.int .i64 fp) (.slice b m d) ∧ OwnSIn v2.heap.size wx.heap.size wx b m frs ∧ Below v2.heap.size v2 wx)
   case first =>
    have KB : Hid (Below v2.heap.size v2 v2.drew) := Lib.hid (Below.refl v2.heap.size v2).drew
    have zA : w.heap.size < v2.heap.size := A0.out.1
    have zB : w.heap.size + 1 < v2.heap.size := A1.out.1
    have SH : Hid (∀ W, Below v2.heap.size v2 W → (W.cell? ⟨w.heap.size, 0, none⟩ = some (.int .i64 s0) ∧ W.cell? ⟨w.heap.size, 1, none⟩ = some (.int .i64 p0) ∧ W.cell? ⟨w.heap.size, 2, none⟩ = some (.slice a0 n0 cap0)) ∧ (W.cell? ⟨w.heap.size + 1, 0, none⟩ = some (.int .i64 s1) ∧ W.cell? ⟨w.heap.size + 1, 1, none⟩ = some (.int .i64 p1) ∧ W.cell? ⟨w.heap.size + 1, 2, none⟩ = some (.slice a1 n1 cap1))) := Lib.hid fun W h => ⟨(A0.out.below h).cells, (A1.out.below h).cells⟩
    have SZ : Hid (∀ W, Below v2.heap.size v2 W → ∀ g, v2.heap.size ≤ g → ∀ u v x, ((((W.setCell ⟨g, 0, none⟩ u).setCell ⟨g, 1, none⟩ v).setCell ⟨g, 2, none⟩ x).cell? ⟨w.heap.size, 0, none⟩ = some (.int .i64 s0) ∧ (((W.setCell ⟨g, 0, none⟩ u).setCell ⟨g, 1, none⟩ v).setCell ⟨g, 2, none⟩ x).cell? ⟨w.heap.size, 1, none⟩ = some (.int .i64 p0) ∧ (((W.setCell ⟨g, 0, none⟩ u).setCell ⟨g, 1, none⟩ v).setCell ⟨g, 2, none⟩ x).cell? ⟨w.heap.size, 2, none⟩ = some (.slice a0 n0 cap0)) ∧ ((((W.setCell ⟨g, 0, none⟩ u).setCell ⟨g, 1, none⟩ v).setCell ⟨g, 2, none⟩ x).cell? ⟨w.heap.size + 1, 0, none⟩ = some (.int .i64 s1) ∧ (((W.setCell ⟨g, 0, none⟩ u).setCell ⟨g, 1, none⟩ v).setCell ⟨g, 2, none⟩ x).cell? ⟨w.heap.size + 1, 1, none⟩ = some (.int .i64 p1) ∧ (((W.setCell ⟨g, 0, none⟩ u).setCell ⟨g, 1, none⟩ v).setCell ⟨g, 2, none⟩ x).cell? ⟨w.heap.size + 1, 2, none⟩ = some (.slice a1 n1 cap1))) := Lib.hid fun W h g hg u v x => ⟨((A0.out.below h).set3 (g2 := g) (by omega) u v x).cells, ((A1.out.below h).set3 (g2 := g) (by omega) u v x).cells⟩
    refine wp_region_held_drew (S := (fun w' => (w'.cell? ⟨w.heap.size, 0, none⟩ = some (.int .i64 s0) ∧ w'.cell? ⟨w.heap.size, 1, none⟩ = some (.int .i64 p0) ∧ w'.cell? ⟨w.heap.size, 2, none⟩ = some (.slice a0 n0 cap0)) ∧ (w'.cell? ⟨w.heap.size + 1, 0, none⟩ = some (.int .i64 s1) ∧ w'.cell? ⟨w.heap.size + 1, 1, none⟩ = some (.int .i64 p1) ∧ w'.cell? ⟨w.heap.size + 1, 2, none⟩ = some (.slice a1 n1 cap1)))) (by kernel_rfl) ?_ (fun hHeld => ?_)
    ·first | with_reducible exact SH.out _ KB.out | with_reducible exact SZ.out _ KB.out _ zG.out _ _ _
    refine wpAnyH_take (i := 0) (oi := { dst := some 28, op := Op.load 43 (Operand.tmp 2), type := 43, pos := "exact.go:2132", after := #[], guard := none }) (v := ?_) rfl (by kernel_rfl) (by kernel_rfl) (by kernel_rfl) (fun _ _ _ h => h) (Or.inl ⟨by rfl, ?_⟩) (by assumption) ?_
    rotate_left
    ·intro w hSw
     (try dsimp only at hSw)
     go_simp
     try with_reducible rfl
    try simp only [Act.put, List.setIfInBounds_toArray, List.set_cons_zero, List.set_cons_succ]
    refine wpAnyH_take (i := 2) (oi := { dst := some 30, op := Op.load 43 (Operand.tmp 3), type := 43, pos := "exact.go:2132", after := #[], guard := none }) (v := ?_) rfl (by kernel_rfl) (by kernel_rfl) (by kernel_rfl) (fun _ _ _ h => h) (Or.inl ⟨by rfl, ?_⟩) (by assumption) ?_
    rotate_left
    ·intro w hSw
     (try dsimp only at hSw)
     go_simp
     try with_reducible rfl
    try simp only [Act.put, List.setIfInBounds_toArray, List.set_cons_zero, List.set_cons_succ]
    refine wpAnyH_ready (rs := [1, 8]) (by kernel_rfl) (by simp) ?_
    refine AllReadyH.cons (o := { dst := some 29, op := Op.call { callee := Callee.value (Operand.func 22), args := #[Operand.tmp 28], argTypes := #[43] }, type := 28, pos := "exact.go:2132", after := #[{ on := 0, ground := Ground.data }], guard := none }) rfl (fun K hK => ?_) ?_
    ·go_simp
     refine (toNormal_any _ _ _ _ _ rs0 _ (R0.out.1.below KB.out) h20).mono ?_
     rintro e u0 ⟨x0, y0, z0, rfl, ho, gg⟩
     have O0 : Hid (OwnA v2.heap.size u0 x0 y0 z0 rs0) := Lib.hid (ho.mono KB.out.size)
     replace KB := Lib.hid (below_go KB.out gg KB.out.size)
     clear ho gg
     go_wp2_with fail
     refine hK.out _ _ ?_ (fun hHeld => ?_)
     ·first | with_reducible exact SH.out _ KB.out | with_reducible exact SZ.out _ KB.out _ zG.out _ _ _
     clear hK K
     try simp only [Act.put, List.setIfInBounds_toArray, List.set_cons_zero, List.set_cons_succ]
     refine wpAnyH_ready (rs := [3, 8]) (by kernel_rfl) (by simp) ?_
     refine AllReadyH.cons (o := { dst := some 31, op := Op.call { callee := Callee.value (Operand.func 22), args := #[Operand.tmp 30], argTypes := #[43] }, type := 28, pos := "exact.go:2132", after := #[{ on := 2, ground := Ground.data }, { on := 1, ground := Ground.chain }], guard := none }) rfl (fun K hK => ?_) ?_
     ·go_simp
      refine (toNormal_any _ _ _ _ _ rs1 _ (R1.out.1.below KB.out) h21).mono ?_
      rintro e u1 ⟨x1, y1, z1, rfl, ho, gg⟩
      replace O0 := Lib.hid (O0.out.below gg)
      have O1 : Hid (OwnA v2.heap.size u1 x1 y1 z1 rs1) := Lib.hid (ho.mono KB.out.size)
      replace KB := Lib.hid (below_go KB.out gg KB.out.size)
      clear ho gg
      go_wp2_with fail
      refine hK.out _ _ ?_ (fun hHeld => ?_)
      ·first | with_reducible exact SH.out _ KB.out | with_reducible exact SZ.out _ KB.out _ zG.out _ _ _
      clear hK K
      try simp only [Act.put, List.setIfInBounds_toArray, List.set_cons_zero, List.set_cons_succ]
      refine wpAnyH_ready (rs := [4, 8]) (by kernel_rfl) (by simp) ?_
      refine AllReadyH.cons (o := { dst := some 32, op := Op.call { callee := Callee.value (Operand.func 21), args := #[Operand.tmp 29, Operand.tmp 31], argTypes := #[28, 28] }, type := 29, pos := "exact.go:2132", after := #[{ on := 1, ground := Ground.data }, { on := 3, ground := Ground.data }, { on := 3, ground := Ground.chain }], guard := none }) rfl (fun K hK => ?_) ?_
      ·go_simp
       refine (specConj_any s0 p0 _ _ _ rs0 s1 p1 _ _ _ rs1 _ O0.out.reads HY0.out (by have := O0.out.len; have := R0.out.1.len; omega) O1.out.reads HY1.out (by have := O1.out.len; have := R1.out.1.len; omega) _ _ _ _ HM.out).mono ?_
       rintro e uF ⟨bb, mm, dd, rfl, hlF, ho, gg⟩
       replace O0 := Lib.hid (O0.out.below gg)
       replace O1 := Lib.hid (O1.out.below gg)
       have P : Hid (OwnS v2.heap.size uF bb mm frs) := Lib.hid (ho.mono KB.out.size)
       replace KB := Lib.hid (below_go KB.out gg KB.out.size)
       clear ho gg
       go_wp2_with fail
       refine hK.out _ _ ?_ (fun hHeld => ?_)
       ·first | with_reducible exact SH.out _ KB.out | with_reducible exact SZ.out _ KB.out _ zG.out _ _ _
       clear hK K
       try simp only [Act.put, List.setIfInBounds_toArray, List.set_cons_zero, List.set_cons_succ]
       refine wpAnyH_take (i := 5) (oi := { dst := some 27, op := Op.move (Operand.tmp 32), type := 29, pos := "exact.go:2132", after := #[{ on := 4, ground := Ground.data }], guard := none }) (v := ?_) rfl (by kernel_rfl) (by kernel_rfl) (by kernel_rfl) (fun _ _ _ h => h) (Or.inl ⟨by rfl, ?_⟩) (by assumption) ?_
       rotate_left
       ·intro w hSw
        (try dsimp only at hSw)
        go_simp
        try with_reducible rfl
       try simp only [Act.put, List.setIfInBounds_toArray, List.set_cons_zero, List.set_cons_succ]
       refine wpAnyH_take (i := 6) (oi := { dst := some 33, op := Op.extract (Operand.tmp 27) 0, type := 28, pos := "exact.go:2132", after := #[{ on := 5, ground := Ground.data }], guard := none }) (v := ?_) rfl (by kernel_rfl) (by kernel_rfl) (by kernel_rfl) (fun _ _ _ h => h) (Or.inl ⟨by rfl, ?_⟩) (by assumption) ?_
       rotate_left
       ·intro w hSw
        (try dsimp only at hSw)
        go_simp
        try with_reducible rfl
       try simp only [Act.put, List.setIfInBounds_toArray, List.set_cons_zero, List.set_cons_succ]
       refine wpAnyH_take (i := 7) (oi := { dst := some 34, op := Op.extract (Operand.tmp 27) 1, type := 2, pos := "exact.go:2132", after := #[{ on := 5, ground := Ground.data }, { on := 9, ground := Ground.gcOnly Departure.lateStores }], guard := none }) (v := ?_) rfl (by kernel_rfl) (by kernel_rfl) (by kernel_rfl) (fun _ _ _ h => h) (Or.inl ⟨by rfl, ?_⟩) (by assumption) ?_
       rotate_left
       ·intro w hSw
        (try dsimp only at hSw)
        go_simp
        try with_reducible rfl
       try simp only [Act.put, List.setIfInBounds_toArray, List.set_cons_zero, List.set_cons_succ]
       refine wpAnyH_ready (rs := [8]) (by kernel_rfl) (by simp) ?_
       refine AllReadyH.cons (o := { dst := some 6, op := Op.alloc 28, type := 0, pos := "exact.go:2132", after := #[], guard := none }) rfl (fun K hK => ?_) ?_
       ·go_simp
        have PA := Lib.hid (P.out.apartHi (g := uF.heap.size) (Nat.le_refl _))
        replace O0 : Hid (OwnA v2.heap.size (uF.alloc (.cells #[.int .i64 0, .int .i64 0, .slice none 0 0] 28)) x0 y0 z0 rs0) := Lib.hid (O0.out.alloc (.cells #[.int .i64 0, .int .i64 0, .slice none 0 0] 28))
        replace O1 : Hid (OwnA v2.heap.size (uF.alloc (.cells #[.int .i64 0, .int .i64 0, .slice none 0 0] 28)) x1 y1 z1 rs1) := Lib.hid (O1.out.alloc (.cells #[.int .i64 0, .int .i64 0, .slice none 0 0] 28))
        replace P : Hid (OwnS v2.heap.size (uF.alloc (.cells #[.int .i64 0, .int .i64 0, .slice none 0 0] 28)) bb mm frs) := Lib.hid (P.out.alloc (.cells #[.int .i64 0, .int .i64 0, .slice none 0 0] 28))
        have Z : Hid (At3 (uF.alloc (.cells #[.int .i64 0, .int .i64 0, .slice none 0 0] 28)) (uF.heap.size) (.int .i64 0) (.int .i64 0) (.slice none 0 0)) := Lib.hid ((At3.place uF (.int .i64 0) (.int .i64 0) (.slice none 0 0) 28 (uF.heap.size) (by simp)))
        have zG : Hid (v2.heap.size ≤ uF.heap.size) := Lib.hid (by first | exact Nat.le_refl _ | exact KB.out.size)
        replace KB : Hid (Below v2.heap.size v2 (uF.alloc (.cells #[.int .i64 0, .int .i64 0, .slice none 0 0] 28))) := Lib.hid (KB.out.alloc KB.out.size (.cells #[.int .i64 0, .int .i64 0, .slice none 0 0] 28))
        obtain ⟨V8, hV8⟩ : ∃ V, V = (uF.alloc (.cells #[.int .i64 0, .int .i64 0, .slice none 0 0] 28)) := ⟨_, rfl⟩
        rw [← hV8] at KB O0 O1 P Z ⊢
        clear hV8
        refine hK.out _ _ ?_ (fun hHeld => ?_)
        ·first | with_reducible exact SH.out _ KB.out | with_reducible exact SZ.out _ KB.out _ zG.out _ _ _
        clear hK K
        try simp only [Act.put, List.setIfInBounds_toArray, List.set_cons_zero, List.set_cons_succ]
        refine wpAnyH_ready (rs := [9]) (by kernel_rfl) (by simp) ?_
        refine AllReadyH.cons (o := { dst := none, op := Op.store 28 (Operand.tmp 6) (Operand.tmp 33), type := 0, pos := "exact.go:2132", after := #[{ on := 8, ground := Ground.data }, { on := 6, ground := Ground.data }, { on := 4, ground := Ground.chain }, { on := 0, ground := Ground.phase }, { on := 1, ground := Ground.phase }, { on := 2, ground := Ground.phase }, { on := 3, ground := Ground.phase }, { on := 4, ground := Ground.phase }, { on := 5, ground := Ground.phase }, { on := 6, ground := Ground.phase }, { on := 7, ground := Ground.textOnly Departure.lateStores }, { on := 8, ground := Ground.phase }], guard := none }) rfl (fun K hK => ?_) ?_
        ·obtain ⟨y0, ⟨y1, y2, y3⟩, y4, y5, y6⟩ := Z.out
         go_simp
         clear y0 y1 y2 y3 y4 y5 y6
         replace Z := Lib.hid (Z.out.fill (.int .i64 fs) (.int .i64 fp) (.slice bb mm dd))
         replace P := Lib.hid (P.out.past3 PA.out (.int .i64 fs) (.int .i64 fp) (.slice bb mm dd))
         replace KB := Lib.hid (below_set3 KB.out zG.out (.int .i64 fs) (.int .i64 fp) (.slice bb mm dd))
         obtain ⟨V9, hV9⟩ : ∃ V, V = (((V8.setCell ⟨uF.heap.size, 0, none⟩ (.int .i64 fs)).setCell ⟨uF.heap.size, 1, none⟩ (.int .i64 fp)).setCell ⟨uF.heap.size, 2, none⟩ (.slice bb mm dd)) := ⟨_, rfl⟩
         rw [← hV9] at Z P KB ⊢
         clear hV9
         refine hK.out _ _ ?_ (fun hHeld => ?_)
         ·first | with_reducible exact SH.out _ KB.out | with_reducible exact SZ.out _ KB.out _ zG.out _ _ _
         clear hK K
         try simp only [Act.put, List.setIfInBounds_toArray, List.set_cons_zero, List.set_cons_succ]
         refine wpAnyH_ready (rs := [10]) (by kernel_rfl) (by simp) ?_
         refine AllReadyH.cons (o := { dst := some 7, op := Op.assign (Operand.tmp 34), type := 2, pos := "exact.go:2132", after := #[{ on := 7, ground := Ground.data }, { on := 9, ground := Ground.chain }, { on := 0, ground := Ground.phase }, { on := 1, ground := Ground.phase }, { on := 2, ground := Ground.phase }, { on := 3, ground := Ground.phase }, { on := 4, ground := Ground.phase }, { on := 5, ground := Ground.phase }, { on := 6, ground := Ground.phase }, { on := 7, ground := Ground.phase }, { on := 8, ground := Ground.phase }, { on := 9, ground := Ground.phase }], guard := none }) rfl (fun K hK => ?_) ?_
         ·go_simp
          refine hK.out _ _ ?_ (fun hHeld => ?_)
          ·first | with_reducible exact SH.out _ KB.out | with_reducible exact SZ.out _ KB.out _ zG.out _ _ _
          clear hK K
          try simp only [Act.put, List.setIfInBounds_toArray, List.set_cons_zero, List.set_cons_succ]
          refine wpAnyH_done (by kernel_rfl) ?_ _
          go_wp2_with fail
          go_meet
          exact ⟨_, _, _, _, rfl, rfl, hlF, zG.out, Z.out, P.out.within, KB.out⟩
         exact AllReadyH.nil
        exact AllReadyH.nil
       exact AllReadyH.nil
      refine AllReadyH.cons (o := { dst := some 6, op := Op.alloc 28, type := 0, pos := "exact.go:2132", after := #[], guard := none }) rfl (fun K hK => ?_) ?_
      ·go_simp
       replace O0 : Hid (OwnA v2.heap.size (u1.alloc (.cells #[.int .i64 0, .int .i64 0, .slice none 0 0] 28)) x0 y0 z0 rs0) := Lib.hid (O0.out.alloc (.cells #[.int .i64 0, .int .i64 0, .slice none 0 0] 28))
       replace O1 : Hid (OwnA v2.heap.size (u1.alloc (.cells #[.int .i64 0, .int .i64 0, .slice none 0 0] 28)) x1 y1 z1 rs1) := Lib.hid (O1.out.alloc (.cells #[.int .i64 0, .int .i64 0, .slice none 0 0] 28))
       have Z : Hid (At3 (u1.alloc (.cells #[.int .i64 0, .int .i64 0, .slice none 0 0] 28)) (u1.heap.size) (.int .i64 0) (.int .i64 0) (.slice none 0 0)) := Lib.hid ((At3.place u1 (.int .i64 0) (.int .i64 0) (.slice none 0 0) 28 (u1.heap.size) (by simp)))
       have zG : Hid (v2.heap.size ≤ u1.heap.size) := Lib.hid (by first | exact Nat.le_refl _ | exact KB.out.size)
       replace KB : Hid (Below v2.heap.size v2 (u1.alloc (.cells #[.int .i64 0, .int .i64 0, .slice none 0 0] 28))) := Lib.hid (KB.out.alloc KB.out.size (.cells #[.int .i64 0, .int .i64 0, .slice none 0 0] 28))
       obtain ⟨V8, hV8⟩ : ∃ V, V = (u1.alloc (.cells #[.int .i64 0, .int .i64 0, .slice none 0 0] 28)) := ⟨_, rfl⟩
       rw [← hV8] at KB O0 O1 Z ⊢
       clear hV8
       refine hK.out _ _ ?_ (fun hHeld => ?_)
       ·first | with_reducible exact SH.out _ KB.out | with_reducible exact SZ.out _ KB.out _ zG.out _ _ _
       clear hK K
       try simp only [Act.put, List.setIfInBounds_toArray, List.set_cons_zero, List.set_cons_succ]
       refine wpAnyH_ready (rs := [4]) (by kernel_rfl) (by simp) ?_
       refine AllReadyH.cons (o := { dst := some 32, op := Op.call { callee := Callee.value (Operand.func 21), args := #[Operand.tmp 29, Operand.tmp 31], argTypes := #[28, 28] }, type := 29, pos := "exact.go:2132", after := #[{ on := 1, ground := Ground.data }, { on := 3, ground := Ground.data }, { on := 3, ground := Ground.chain }], guard := none }) rfl (fun K hK => ?_) ?_
       ·go_simp
        refine (specConj_any s0 p0 _ _ _ rs0 s1 p1 _ _ _ rs1 _ O0.out.reads HY0.out (by have := O0.out.len; have := R0.out.1.len; omega) O1.out.reads HY1.out (by have := O1.out.len; have := R1.out.1.len; omega) _ _ _ _ HM.out).mono ?_
        rintro e uF ⟨bb, mm, dd, rfl, hlF, ho, gg⟩
        have PA := Lib.hid (ho.apart (g := u1.heap.size) Z.out.1)
        replace O0 := Lib.hid (O0.out.below gg)
        replace O1 := Lib.hid (O1.out.below gg)
        replace Z := Lib.hid (Z.out.below gg)
        have P : Hid (OwnS v2.heap.size uF bb mm frs) := Lib.hid (ho.mono KB.out.size)
        replace KB := Lib.hid (below_go KB.out gg KB.out.size)
        clear ho gg
        go_wp2_with fail
        refine hK.out _ _ ?_ (fun hHeld => ?_)
        ·first | with_reducible exact SH.out _ KB.out | with_reducible exact SZ.out _ KB.out _ zG.out _ _ _
        clear hK K
        try simp only [Act.put, List.setIfInBounds_toArray, List.set_cons_zero, List.set_cons_succ]
        refine wpAnyH_take (i := 5) (oi := { dst := some 27, op := Op.move (Operand.tmp 32), type := 29, pos := "exact.go:2132", after := #[{ on := 4, ground := Ground.data }], guard := none }) (v := ?_) rfl (by kernel_rfl) (by kernel_rfl) (by kernel_rfl) (fun _ _ _ h => h) (Or.inl ⟨by rfl, ?_⟩) (by assumption) ?_
        rotate_left
        ·intro w hSw
         (try dsimp only at hSw)
         go_simp
         try with_reducible rfl
        try simp only [Act.put, List.setIfInBounds_toArray, List.set_cons_zero, List.set_cons_succ]
        refine wpAnyH_take (i := 6) (oi := { dst := some 33, op := Op.extract (Operand.tmp 27) 0, type := 28, pos := "exact.go:2132", after := #[{ on := 5, ground := Ground.data }], guard := none }) (v := ?_) rfl (by kernel_rfl) (by kernel_rfl) (by kernel_rfl) (fun _ _ _ h => h) (Or.inl ⟨by rfl, ?_⟩) (by assumption) ?_
        rotate_left
        ·intro w hSw
         (try dsimp only at hSw)
         go_simp
         try with_reducible rfl
        try simp only [Act.put, List.setIfInBounds_toArray, List.set_cons_zero, List.set_cons_succ]
        refine wpAnyH_take (i := 7) (oi := { dst := some 34, op := Op.extract (Operand.tmp 27) 1, type := 2, pos := "exact.go:2132", after := #[{ on := 5, ground := Ground.data }, { on := 9, ground := Ground.gcOnly Departure.lateStores }], guard := none }) (v := ?_) rfl (by kernel_rfl) (by kernel_rfl) (by kernel_rfl) (fun _ _ _ h => h) (Or.inl ⟨by rfl, ?_⟩) (by assumption) ?_
        rotate_left
        ·intro w hSw
         (try dsimp only at hSw)
         go_simp
         try with_reducible rfl
        try simp only [Act.put, List.setIfInBounds_toArray, List.set_cons_zero, List.set_cons_succ]
        refine wpAnyH_ready (rs := [9]) (by kernel_rfl) (by simp) ?_
        refine AllReadyH.cons (o := { dst := none, op := Op.store 28 (Operand.tmp 6) (Operand.tmp 33), type := 0, pos := "exact.go:2132", after := #[{ on := 8, ground := Ground.data }, { on := 6, ground := Ground.data }, { on := 4, ground := Ground.chain }, { on := 0, ground := Ground.phase }, { on := 1, ground := Ground.phase }, { on := 2, ground := Ground.phase }, { on := 3, ground := Ground.phase }, { on := 4, ground := Ground.phase }, { on := 5, ground := Ground.phase }, { on := 6, ground := Ground.phase }, { on := 7, ground := Ground.textOnly Departure.lateStores }, { on := 8, ground := Ground.phase }], guard := none }) rfl (fun K hK => ?_) ?_
        ·obtain ⟨y0, ⟨y1, y2, y3⟩, y4, y5, y6⟩ := Z.out
         go_simp
         clear y0 y1 y2 y3 y4 y5 y6
         replace Z := Lib.hid (Z.out.fill (.int .i64 fs) (.int .i64 fp) (.slice bb mm dd))
         replace P := Lib.hid (P.out.past3 PA.out (.int .i64 fs) (.int .i64 fp) (.slice bb mm dd))
         replace KB := Lib.hid (below_set3 KB.out zG.out (.int .i64 fs) (.int .i64 fp) (.slice bb mm dd))
         obtain ⟨V9, hV9⟩ : ∃ V, V = (((uF.setCell ⟨u1.heap.size, 0, none⟩ (.int .i64 fs)).setCell ⟨u1.heap.size, 1, none⟩ (.int .i64 fp)).setCell ⟨u1.heap.size, 2, none⟩ (.slice bb mm dd)) := ⟨_, rfl⟩
         rw [← hV9] at Z P KB ⊢
         clear hV9
         refine hK.out _ _ ?_ (fun hHeld => ?_)
         ·first | with_reducible exact SH.out _ KB.out | with_reducible exact SZ.out _ KB.out _ zG.out _ _ _
         clear hK K
         try simp only [Act.put, List.setIfInBounds_toArray, List.set_cons_zero, List.set_cons_succ]
         refine wpAnyH_ready (rs := [10]) (by kernel_rfl) (by simp) ?_
         refine AllReadyH.cons (o := { dst := some 7, op := Op.assign (Operand.tmp 34), type := 2, pos := "exact.go:2132", after := #[{ on := 7, ground := Ground.data }, { on := 9, ground := Ground.chain }, { on := 0, ground := Ground.phase }, { on := 1, ground := Ground.phase }, { on := 2, ground := Ground.phase }, { on := 3, ground := Ground.phase }, { on := 4, ground := Ground.phase }, { on := 5, ground := Ground.phase }, { on := 6, ground := Ground.phase }, { on := 7, ground := Ground.phase }, { on := 8, ground := Ground.phase }, { on := 9, ground := Ground.phase }], guard := none }) rfl (fun K hK => ?_) ?_
         ·go_simp
          refine hK.out _ _ ?_ (fun hHeld => ?_)
          ·first | with_reducible exact SH.out _ KB.out | with_reducible exact SZ.out _ KB.out _ zG.out _ _ _
          clear hK K
          try simp only [Act.put, List.setIfInBounds_toArray, List.set_cons_zero, List.set_cons_succ]
          refine wpAnyH_done (by kernel_rfl) ?_ _
          go_wp2_with fail
          go_meet
          exact ⟨_, _, _, _, rfl, rfl, hlF, zG.out, Z.out, P.out.within, KB.out⟩
         exact AllReadyH.nil
        exact AllReadyH.nil
       exact AllReadyH.nil
      exact AllReadyH.nil
     refine AllReadyH.cons (o := { dst := some 6, op := Op.alloc 28, type := 0, pos := "exact.go:2132", after := #[], guard := none }) rfl (fun K hK => ?_) ?_
     ·go_simp
      replace O0 : Hid (OwnA v2.heap.size (u0.alloc (.cells #[.int .i64 0, .int .i64 0, .slice none 0 0] 28)) x0 y0 z0 rs0) := Lib.hid (O0.out.alloc (.cells #[.int .i64 0, .int .i64 0, .slice none 0 0] 28))
      have Z : Hid (At3 (u0.alloc (.cells #[.int .i64 0, .int .i64 0, .slice none 0 0] 28)) (u0.heap.size) (.int .i64 0) (.int .i64 0) (.slice none 0 0)) := Lib.hid ((At3.place u0 (.int .i64 0) (.int .i64 0) (.slice none 0 0) 28 (u0.heap.size) (by simp)))
      have zG : Hid (v2.heap.size ≤ u0.heap.size) := Lib.hid (by first | exact Nat.le_refl _ | exact KB.out.size)
      replace KB : Hid (Below v2.heap.size v2 (u0.alloc (.cells #[.int .i64 0, .int .i64 0, .slice none 0 0] 28))) := Lib.hid (KB.out.alloc KB.out.size (.cells #[.int .i64 0, .int .i64 0, .slice none 0 0] 28))
      obtain ⟨V8, hV8⟩ : ∃ V, V = (u0.alloc (.cells #[.int .i64 0, .int .i64 0, .slice none 0 0] 28)) := ⟨_, rfl⟩
      rw [← hV8] at KB O0 Z ⊢
      clear hV8
      refine hK.out _ _ ?_ (fun hHeld => ?_)
      ·first | with_reducible exact SH.out _ KB.out | with_reducible exact SZ.out _ KB.out _ zG.out _ _ _
      clear hK K
      try simp only [Act.put, List.setIfInBounds_toArray, List.set_cons_zero, List.set_cons_succ]
      refine wpAnyH_ready (rs := [3]) (by kernel_rfl) (by simp) ?_
      refine AllReadyH.cons (o := { dst := some 31, op := Op.call { callee := Callee.value (Operand.func 22), args := #[Operand.tmp 30], argTypes := #[43] }, type := 28, pos := "exact.go:2132", after := #[{ on := 2, ground := Ground.data }, { on := 1, ground := Ground.chain }], guard := none }) rfl (fun K hK => ?_) ?_
      ·go_simp
       refine (toNormal_any _ _ _ _ _ rs1 _ (R1.out.1.below KB.out) h21).mono ?_
       rintro e u1 ⟨x1, y1, z1, rfl, ho, gg⟩
       replace O0 := Lib.hid (O0.out.below gg)
       replace Z := Lib.hid (Z.out.below gg)
       have O1 : Hid (OwnA v2.heap.size u1 x1 y1 z1 rs1) := Lib.hid (ho.mono KB.out.size)
       replace KB := Lib.hid (below_go KB.out gg KB.out.size)
       clear ho gg
       go_wp2_with fail
       refine hK.out _ _ ?_ (fun hHeld => ?_)
       ·first | with_reducible exact SH.out _ KB.out | with_reducible exact SZ.out _ KB.out _ zG.out _ _ _
       clear hK K
       try simp only [Act.put, List.setIfInBounds_toArray, List.set_cons_zero, List.set_cons_succ]
       refine wpAnyH_ready (rs := [4]) (by kernel_rfl) (by simp) ?_
       refine AllReadyH.cons (o := { dst := some 32, op := Op.call { callee := Callee.value (Operand.func 21), args := #[Operand.tmp 29, Operand.tmp 31], argTypes := #[28, 28] }, type := 29, pos := "exact.go:2132", after := #[{ on := 1, ground := Ground.data }, { on := 3, ground := Ground.data }, { on := 3, ground := Ground.chain }], guard := none }) rfl (fun K hK => ?_) ?_
       ·go_simp
        refine (specConj_any s0 p0 _ _ _ rs0 s1 p1 _ _ _ rs1 _ O0.out.reads HY0.out (by have := O0.out.len; have := R0.out.1.len; omega) O1.out.reads HY1.out (by have := O1.out.len; have := R1.out.1.len; omega) _ _ _ _ HM.out).mono ?_
        rintro e uF ⟨bb, mm, dd, rfl, hlF, ho, gg⟩
        have PA := Lib.hid (ho.apart (g := u0.heap.size) Z.out.1)
        replace O0 := Lib.hid (O0.out.below gg)
        replace O1 := Lib.hid (O1.out.below gg)
        replace Z := Lib.hid (Z.out.below gg)
        have P : Hid (OwnS v2.heap.size uF bb mm frs) := Lib.hid (ho.mono KB.out.size)
        replace KB := Lib.hid (below_go KB.out gg KB.out.size)
        clear ho gg
        go_wp2_with fail
        refine hK.out _ _ ?_ (fun hHeld => ?_)
        ·first | with_reducible exact SH.out _ KB.out | with_reducible exact SZ.out _ KB.out _ zG.out _ _ _
        clear hK K
        try simp only [Act.put, List.setIfInBounds_toArray, List.set_cons_zero, List.set_cons_succ]
        refine wpAnyH_take (i := 5) (oi := { dst := some 27, op := Op.move (Operand.tmp 32), type := 29, pos := "exact.go:2132", after := #[{ on := 4, ground := Ground.data }], guard := none }) (v := ?_) rfl (by kernel_rfl) (by kernel_rfl) (by kernel_rfl) (fun _ _ _ h => h) (Or.inl ⟨by rfl, ?_⟩) (by assumption) ?_
        rotate_left
        ·intro w hSw
         (try dsimp only at hSw)
         go_simp
         try with_reducible rfl
        try simp only [Act.put, List.setIfInBounds_toArray, List.set_cons_zero, List.set_cons_succ]
        refine wpAnyH_take (i := 6) (oi := { dst := some 33, op := Op.extract (Operand.tmp 27) 0, type := 28, pos := "exact.go:2132", after := #[{ on := 5, ground := Ground.data }], guard := none }) (v := ?_) rfl (by kernel_rfl) (by kernel_rfl) (by kernel_rfl) (fun _ _ _ h => h) (Or.inl ⟨by rfl, ?_⟩) (by assumption) ?_
        rotate_left
        ·intro w hSw
         (try dsimp only at hSw)
         go_simp
         try with_reducible rfl
        try simp only [Act.put, List.setIfInBounds_toArray, List.set_cons_zero, List.set_cons_succ]
        refine wpAnyH_take (i := 7) (oi := { dst := some 34, op := Op.extract (Operand.tmp 27) 1, type := 2, pos := "exact.go:2132", after := #[{ on := 5, ground := Ground.data }, { on := 9, ground := Ground.gcOnly Departure.lateStores }], guard := none }) (v := ?_) rfl (by kernel_rfl) (by kernel_rfl) (by kernel_rfl) (fun _ _ _ h => h) (Or.inl ⟨by rfl, ?_⟩) (by assumption) ?_
        rotate_left
        ·intro w hSw
         (try dsimp only at hSw)
         go_simp
         try with_reducible rfl
        try simp only [Act.put, List.setIfInBounds_toArray, List.set_cons_zero, List.set_cons_succ]
        refine wpAnyH_ready (rs := [9]) (by kernel_rfl) (by simp) ?_
        refine AllReadyH.cons (o := { dst := none, op := Op.store 28 (Operand.tmp 6) (Operand.tmp 33), type := 0, pos := "exact.go:2132", after := #[{ on := 8, ground := Ground.data }, { on := 6, ground := Ground.data }, { on := 4, ground := Ground.chain }, { on := 0, ground := Ground.phase }, { on := 1, ground := Ground.phase }, { on := 2, ground := Ground.phase }, { on := 3, ground := Ground.phase }, { on := 4, ground := Ground.phase }, { on := 5, ground := Ground.phase }, { on := 6, ground := Ground.phase }, { on := 7, ground := Ground.textOnly Departure.lateStores }, { on := 8, ground := Ground.phase }], guard := none }) rfl (fun K hK => ?_) ?_
        ·obtain ⟨y0, ⟨y1, y2, y3⟩, y4, y5, y6⟩ := Z.out
         go_simp
         clear y0 y1 y2 y3 y4 y5 y6
         replace Z := Lib.hid (Z.out.fill (.int .i64 fs) (.int .i64 fp) (.slice bb mm dd))
         replace P := Lib.hid (P.out.past3 PA.out (.int .i64 fs) (.int .i64 fp) (.slice bb mm dd))
         replace KB := Lib.hid (below_set3 KB.out zG.out (.int .i64 fs) (.int .i64 fp) (.slice bb mm dd))
         obtain ⟨V9, hV9⟩ : ∃ V, V = (((uF.setCell ⟨u0.heap.size, 0, none⟩ (.int .i64 fs)).setCell ⟨u0.heap.size, 1, none⟩ (.int .i64 fp)).setCell ⟨u0.heap.size, 2, none⟩ (.slice bb mm dd)) := ⟨_, rfl⟩
         rw [← hV9] at Z P KB ⊢
         clear hV9
         refine hK.out _ _ ?_ (fun hHeld => ?_)
         ·first | with_reducible exact SH.out _ KB.out | with_reducible exact SZ.out _ KB.out _ zG.out _ _ _
         clear hK K
         try simp only [Act.put, List.setIfInBounds_toArray, List.set_cons_zero, List.set_cons_succ]
         refine wpAnyH_ready (rs := [10]) (by kernel_rfl) (by simp) ?_
         refine AllReadyH.cons (o := { dst := some 7, op := Op.assign (Operand.tmp 34), type := 2, pos := "exact.go:2132", after := #[{ on := 7, ground := Ground.data }, { on := 9, ground := Ground.chain }, { on := 0, ground := Ground.phase }, { on := 1, ground := Ground.phase }, { on := 2, ground := Ground.phase }, { on := 3, ground := Ground.phase }, { on := 4, ground := Ground.phase }, { on := 5, ground := Ground.phase }, { on := 6, ground := Ground.phase }, { on := 7, ground := Ground.phase }, { on := 8, ground := Ground.phase }, { on := 9, ground := Ground.phase }], guard := none }) rfl (fun K hK => ?_) ?_
         ·go_simp
          refine hK.out _ _ ?_ (fun hHeld => ?_)
          ·first | with_reducible exact SH.out _ KB.out | with_reducible exact SZ.out _ KB.out _ zG.out _ _ _
          clear hK K
          try simp only [Act.put, List.setIfInBounds_toArray, List.set_cons_zero, List.set_cons_succ]
          refine wpAnyH_done (by kernel_rfl) ?_ _
          go_wp2_with fail
          go_meet
          exact ⟨_, _, _, _, rfl, rfl, hlF, zG.out, Z.out, P.out.within, KB.out⟩
         exact AllReadyH.nil
        exact AllReadyH.nil
       exact AllReadyH.nil
      exact AllReadyH.nil
     exact AllReadyH.nil
    refine AllReadyH.cons (o := { dst := some 6, op := Op.alloc 28, type := 0, pos := "exact.go:2132", after := #[], guard := none }) rfl (fun K hK => ?_) ?_
    ·go_simp
     have Z : Hid (At3 (v2.alloc (.cells #[.int .i64 0, .int .i64 0, .slice none 0 0] 28)).drew (v2.heap.size) (.int .i64 0) (.int .i64 0) (.slice none 0 0)) := Lib.hid ((At3.place v2 (.int .i64 0) (.int .i64 0) (.slice none 0 0) 28 (v2.heap.size) (by simp)).drew)
     have zG : Hid (v2.heap.size ≤ v2.heap.size) := Lib.hid (by first | exact Nat.le_refl _ | exact KB.out.size)
     replace KB : Hid (Below v2.heap.size v2 (v2.alloc (.cells #[.int .i64 0, .int .i64 0, .slice none 0 0] 28)).drew) := Lib.hid (KB.out.alloc KB.out.size (.cells #[.int .i64 0, .int .i64 0, .slice none 0 0] 28))
     refine hK.out _ _ ?_ (fun hHeld => ?_)
     ·first | with_reducible exact SH.out _ KB.out | with_reducible exact SZ.out _ KB.out _ zG.out _ _ _
     clear hK K
     try simp only [Act.put, List.setIfInBounds_toArray, List.set_cons_zero, List.set_cons_succ]
     refine wpAnyH_ready (rs := [1]) (by kernel_rfl) (by simp) ?_
     refine AllReadyH.cons (o := { dst := some 29, op := Op.call { callee := Callee.value (Operand.func 22), args := #[Operand.tmp 28], argTypes := #[43] }, type := 28, pos := "exact.go:2132", after := #[{ on := 0, ground := Ground.data }], guard := none }) rfl (fun K hK => ?_) ?_
     ·go_simp
      refine (toNormal_any _ _ _ _ _ rs0 _ (R0.out.1.below KB.out) h20).mono ?_
      rintro e u0 ⟨x0, y0, z0, rfl, ho, gg⟩
      replace Z := Lib.hid (Z.out.below gg)
      have O0 : Hid (OwnA v2.heap.size u0 x0 y0 z0 rs0) := Lib.hid (ho.mono KB.out.size)
      replace KB := Lib.hid (below_go KB.out gg KB.out.size)
      clear ho gg
      go_wp2_with fail
      refine hK.out _ _ ?_ (fun hHeld => ?_)
      ·first | with_reducible exact SH.out _ KB.out | with_reducible exact SZ.out _ KB.out _ zG.out _ _ _
      clear hK K
      try simp only [Act.put, List.setIfInBounds_toArray, List.set_cons_zero, List.set_cons_succ]
      refine wpAnyH_ready (rs := [3]) (by kernel_rfl) (by simp) ?_
      refine AllReadyH.cons (o := { dst := some 31, op := Op.call { callee := Callee.value (Operand.func 22), args := #[Operand.tmp 30], argTypes := #[43] }, type := 28, pos := "exact.go:2132", after := #[{ on := 2, ground := Ground.data }, { on := 1, ground := Ground.chain }], guard := none }) rfl (fun K hK => ?_) ?_
      ·go_simp
       refine (toNormal_any _ _ _ _ _ rs1 _ (R1.out.1.below KB.out) h21).mono ?_
       rintro e u1 ⟨x1, y1, z1, rfl, ho, gg⟩
       replace O0 := Lib.hid (O0.out.below gg)
       replace Z := Lib.hid (Z.out.below gg)
       have O1 : Hid (OwnA v2.heap.size u1 x1 y1 z1 rs1) := Lib.hid (ho.mono KB.out.size)
       replace KB := Lib.hid (below_go KB.out gg KB.out.size)
       clear ho gg
       go_wp2_with fail
       refine hK.out _ _ ?_ (fun hHeld => ?_)
       ·first | with_reducible exact SH.out _ KB.out | with_reducible exact SZ.out _ KB.out _ zG.out _ _ _
       clear hK K
       try simp only [Act.put, List.setIfInBounds_toArray, List.set_cons_zero, List.set_cons_succ]
       refine wpAnyH_ready (rs := [4]) (by kernel_rfl) (by simp) ?_
       refine AllReadyH.cons (o := { dst := some 32, op := Op.call { callee := Callee.value (Operand.func 21), args := #[Operand.tmp 29, Operand.tmp 31], argTypes := #[28, 28] }, type := 29, pos := "exact.go:2132", after := #[{ on := 1, ground := Ground.data }, { on := 3, ground := Ground.data }, { on := 3, ground := Ground.chain }], guard := none }) rfl (fun K hK => ?_) ?_
       ·go_simp
        refine (specConj_any s0 p0 _ _ _ rs0 s1 p1 _ _ _ rs1 _ O0.out.reads HY0.out (by have := O0.out.len; have := R0.out.1.len; omega) O1.out.reads HY1.out (by have := O1.out.len; have := R1.out.1.len; omega) _ _ _ _ HM.out).mono ?_
        rintro e uF ⟨bb, mm, dd, rfl, hlF, ho, gg⟩
        have PA := Lib.hid (ho.apart (g := v2.heap.size) Z.out.1)
        replace O0 := Lib.hid (O0.out.below gg)
        replace O1 := Lib.hid (O1.out.below gg)
        replace Z := Lib.hid (Z.out.below gg)
        have P : Hid (OwnS v2.heap.size uF bb mm frs) := Lib.hid (ho.mono KB.out.size)
        replace KB := Lib.hid (below_go KB.out gg KB.out.size)
        clear ho gg
        go_wp2_with fail
        refine hK.out _ _ ?_ (fun hHeld => ?_)
        ·first | with_reducible exact SH.out _ KB.out | with_reducible exact SZ.out _ KB.out _ zG.out _ _ _
        clear hK K
        try simp only [Act.put, List.setIfInBounds_toArray, List.set_cons_zero, List.set_cons_succ]
        refine wpAnyH_take (i := 5) (oi := { dst := some 27, op := Op.move (Operand.tmp 32), type := 29, pos := "exact.go:2132", after := #[{ on := 4, ground := Ground.data }], guard := none }) (v := ?_) rfl (by kernel_rfl) (by kernel_rfl) (by kernel_rfl) (fun _ _ _ h => h) (Or.inl ⟨by rfl, ?_⟩) (by assumption) ?_
        rotate_left
        ·intro w hSw
         (try dsimp only at hSw)
         go_simp
         try with_reducible rfl
        try simp only [Act.put, List.setIfInBounds_toArray, List.set_cons_zero, List.set_cons_succ]
        refine wpAnyH_take (i := 6) (oi := { dst := some 33, op := Op.extract (Operand.tmp 27) 0, type := 28, pos := "exact.go:2132", after := #[{ on := 5, ground := Ground.data }], guard := none }) (v := ?_) rfl (by kernel_rfl) (by kernel_rfl) (by kernel_rfl) (fun _ _ _ h => h) (Or.inl ⟨by rfl, ?_⟩) (by assumption) ?_
        rotate_left
        ·intro w hSw
         (try dsimp only at hSw)
         go_simp
         try with_reducible rfl
        try simp only [Act.put, List.setIfInBounds_toArray, List.set_cons_zero, List.set_cons_succ]
        refine wpAnyH_take (i := 7) (oi := { dst := some 34, op := Op.extract (Operand.tmp 27) 1, type := 2, pos := "exact.go:2132", after := #[{ on := 5, ground := Ground.data }, { on := 9, ground := Ground.gcOnly Departure.lateStores }], guard := none }) (v := ?_) rfl (by kernel_rfl) (by kernel_rfl) (by kernel_rfl) (fun _ _ _ h => h) (Or.inl ⟨by rfl, ?_⟩) (by assumption) ?_
        rotate_left
        ·intro w hSw
         (try dsimp only at hSw)
         go_simp
         try with_reducible rfl
        try simp only [Act.put, List.setIfInBounds_toArray, List.set_cons_zero, List.set_cons_succ]
        refine wpAnyH_ready (rs := [9]) (by kernel_rfl) (by simp) ?_
        refine AllReadyH.cons (o := { dst := none, op := Op.store 28 (Operand.tmp 6) (Operand.tmp 33), type := 0, pos := "exact.go:2132", after := #[{ on := 8, ground := Ground.data }, { on := 6, ground := Ground.data }, { on := 4, ground := Ground.chain }, { on := 0, ground := Ground.phase }, { on := 1, ground := Ground.phase }, { on := 2, ground := Ground.phase }, { on := 3, ground := Ground.phase }, { on := 4, ground := Ground.phase }, { on := 5, ground := Ground.phase }, { on := 6, ground := Ground.phase }, { on := 7, ground := Ground.textOnly Departure.lateStores }, { on := 8, ground := Ground.phase }], guard := none }) rfl (fun K hK => ?_) ?_
        ·obtain ⟨y0, ⟨y1, y2, y3⟩, y4, y5, y6⟩ := Z.out
         go_simp
         clear y0 y1 y2 y3 y4 y5 y6
         replace Z := Lib.hid (Z.out.fill (.int .i64 fs) (.int .i64 fp) (.slice bb mm dd))
         replace P := Lib.hid (P.out.past3 PA.out (.int .i64 fs) (.int .i64 fp) (.slice bb mm dd))
         replace KB := Lib.hid (below_set3 KB.out zG.out (.int .i64 fs) (.int .i64 fp) (.slice bb mm dd))
         obtain ⟨V9, hV9⟩ : ∃ V, V = (((uF.setCell ⟨v2.heap.size, 0, none⟩ (.int .i64 fs)).setCell ⟨v2.heap.size, 1, none⟩ (.int .i64 fp)).setCell ⟨v2.heap.size, 2, none⟩ (.slice bb mm dd)) := ⟨_, rfl⟩
         rw [← hV9] at Z P KB ⊢
         clear hV9
         refine hK.out _ _ ?_ (fun hHeld => ?_)
         ·first | with_reducible exact SH.out _ KB.out | with_reducible exact SZ.out _ KB.out _ zG.out _ _ _
         clear hK K
         try simp only [Act.put, List.setIfInBounds_toArray, List.set_cons_zero, List.set_cons_succ]
         refine wpAnyH_ready (rs := [10]) (by kernel_rfl) (by simp) ?_
         refine AllReadyH.cons (o := { dst := some 7, op := Op.assign (Operand.tmp 34), type := 2, pos := "exact.go:2132", after := #[{ on := 7, ground := Ground.data }, { on := 9, ground := Ground.chain }, { on := 0, ground := Ground.phase }, { on := 1, ground := Ground.phase }, { on := 2, ground := Ground.phase }, { on := 3, ground := Ground.phase }, { on := 4, ground := Ground.phase }, { on := 5, ground := Ground.phase }, { on := 6, ground := Ground.phase }, { on := 7, ground := Ground.phase }, { on := 8, ground := Ground.phase }, { on := 9, ground := Ground.phase }], guard := none }) rfl (fun K hK => ?_) ?_
         ·go_simp
          refine hK.out _ _ ?_ (fun hHeld => ?_)
          ·first | with_reducible exact SH.out _ KB.out | with_reducible exact SZ.out _ KB.out _ zG.out _ _ _
          clear hK K
          try simp only [Act.put, List.setIfInBounds_toArray, List.set_cons_zero, List.set_cons_succ]
          refine wpAnyH_done (by kernel_rfl) ?_ _
          go_wp2_with fail
          go_meet
          exact ⟨_, _, _, _, rfl, rfl, hlF, zG.out, Z.out, P.out.within, KB.out⟩
         exact AllReadyH.nil
        exact AllReadyH.nil
       exact AllReadyH.nil
      exact AllReadyH.nil
     exact AllReadyH.nil
    exact AllReadyH.nil
   case rest =>
    obtain ⟨v3, hwc⟩ : ∃ x, x = wc := ⟨_, rfl⟩; subst hwc
    obtain ⟨g3, b3, m3, d3, rfl, rfl, hl3, hg3, hW, hP, hb⟩ := hcut
    replace R0 := Lib.hid (R0.out.below hb)
    replace R1 := Lib.hid (R1.out.below hb)
    replace A0 := Lib.hid (A0.out.below hb)
    replace A1 := Lib.hid (A1.out.below hb)
    replace B := Lib.hid (below_go B.out hb B.out.size)
    have z3 : v2.heap.size ≤ v3.heap.size := hb.size
    have zz3 : g3 < v3.heap.size := hW.1
    have W := Lib.hid hW; have P3 := Lib.hid hP; clear hW hP hb
    obtain ⟨qA01, qA02, qA03⟩ := A0.out.cells
    obtain ⟨qA11, qA12, qA13⟩ := A1.out.cells
    obtain ⟨qW1, qW2, qW3⟩ := W.out.cells
    go_wp2_with fail
    refine (toNormal_any _ _ _ _ _ rs0 _ R0.out.1 h20).mono ?_
    rintro e v4 ⟨a104, n104, c104, rfl, ho, hb⟩
    clear qA01 qA02 qA03 qA11 qA12 qA13 qW1 qW2 qW3
    have hn104 : n104 ≤ 1048576 := by have := ho.len; have := R0.out.1.len; omega
    have O104 : Hid (OwnAIn (v3.heap.size) v4.heap.size v4 a104 n104 c104 rs0) := Lib.hid (by have := ho.within; simpa using this); clear ho
    replace R0 := Lib.hid (R0.out.below hb)
    replace R1 := Lib.hid (R1.out.below hb)
    replace A0 := Lib.hid (A0.out.below hb)
    replace A1 := Lib.hid (A1.out.below hb)
    replace P3 := Lib.hid (P3.out.below hb)
    replace W := Lib.hid (W.out.below hb)
    replace B := Lib.hid (below_go B.out hb B.out.size)
    have z4 : v3.heap.size + 0 ≤ v4.heap.size := by have := hb.size; (try simp at this); omega
    clear hb
    replace R0 := Lib.hid (R0.out.alloc (.cells #[.int .i64 s0, .int .i64 p0, .slice a104 n104 c104] 28))
    replace R1 := Lib.hid (R1.out.alloc (.cells #[.int .i64 s0, .int .i64 p0, .slice a104 n104 c104] 28))
    replace A0 := Lib.hid (A0.out.alloc (.cells #[.int .i64 s0, .int .i64 p0, .slice a104 n104 c104] 28))
    replace A1 := Lib.hid (A1.out.alloc (.cells #[.int .i64 s0, .int .i64 p0, .slice a104 n104 c104] 28))
    replace P3 := Lib.hid (P3.out.alloc (.cells #[.int .i64 s0, .int .i64 p0, .slice a104 n104 c104] 28))
    replace W := Lib.hid (W.out.alloc (.cells #[.int .i64 s0, .int .i64 p0, .slice a104 n104 c104] 28))
    replace O104 := Lib.hid (O104.out.alloc (.cells #[.int .i64 s0, .int .i64 p0, .slice a104 n104 c104] 28))
    have X0 := Lib.hid (At3.place v4 (.int .i64 s0) (.int .i64 p0) (.slice a104 n104 c104) 28 v4.heap.size rfl)
    replace B := Lib.hid (B.out.alloc B.out.size (.cells #[.int .i64 s0, .int .i64 p0, .slice a104 n104 c104] 28))
    obtain ⟨qA01, qA02, qA03⟩ := A0.out.cells
    obtain ⟨qA11, qA12, qA13⟩ := A1.out.cells
    obtain ⟨qW1, qW2, qW3⟩ := W.out.cells
    obtain ⟨qX01, qX02, qX03⟩ := X0.out.cells
    go_wp2_with fail
    refine (toNormal_any _ _ _ _ _ rs1 _ R1.out.1 h21).mono ?_
    rintro e v5 ⟨a105, n105, c105, rfl, ho, hb⟩
    clear qA01 qA02 qA03 qA11 qA12 qA13 qW1 qW2 qW3 qX01 qX02 qX03
    have hn105 : n105 ≤ 1048576 := by have := ho.len; have := R1.out.1.len; omega
    have O105 : Hid (OwnAIn (v4.heap.size + 1) v5.heap.size v5 a105 n105 c105 rs1) := Lib.hid (by have := ho.within; simpa using this); clear ho
    replace R0 := Lib.hid (R0.out.below hb)
    replace R1 := Lib.hid (R1.out.below hb)
    replace A0 := Lib.hid (A0.out.below hb)
    replace A1 := Lib.hid (A1.out.below hb)
    replace P3 := Lib.hid (P3.out.below hb)
    replace W := Lib.hid (W.out.below hb)
    replace O104 := Lib.hid (O104.out.below hb)
    replace X0 := Lib.hid (X0.out.below hb)
    replace B := Lib.hid (below_go B.out hb B.out.size)
    have z5 : v4.heap.size + 1 ≤ v5.heap.size := by have := hb.size; (try simp at this); omega
    clear hb
    replace R0 := Lib.hid (R0.out.alloc (.cells #[.int .i64 s1, .int .i64 p1, .slice a105 n105 c105] 28))
    replace R1 := Lib.hid (R1.out.alloc (.cells #[.int .i64 s1, .int .i64 p1, .slice a105 n105 c105] 28))
    replace A0 := Lib.hid (A0.out.alloc (.cells #[.int .i64 s1, .int .i64 p1, .slice a105 n105 c105] 28))
    replace A1 := Lib.hid (A1.out.alloc (.cells #[.int .i64 s1, .int .i64 p1, .slice a105 n105 c105] 28))
    replace P3 := Lib.hid (P3.out.alloc (.cells #[.int .i64 s1, .int .i64 p1, .slice a105 n105 c105] 28))
    replace W := Lib.hid (W.out.alloc (.cells #[.int .i64 s1, .int .i64 p1, .slice a105 n105 c105] 28))
    replace O104 := Lib.hid (O104.out.alloc (.cells #[.int .i64 s1, .int .i64 p1, .slice a105 n105 c105] 28))
    replace X0 := Lib.hid (X0.out.alloc (.cells #[.int .i64 s1, .int .i64 p1, .slice a105 n105 c105] 28))
    replace O105 := Lib.hid (O105.out.alloc (.cells #[.int .i64 s1, .int .i64 p1, .slice a105 n105 c105] 28))
    have X1 := Lib.hid (At3.place v5 (.int .i64 s1) (.int .i64 p1) (.slice a105 n105 c105) 28 v5.heap.size rfl)
    replace B := Lib.hid (B.out.alloc B.out.size (.cells #[.int .i64 s1, .int .i64 p1, .slice a105 n105 c105] 28))
    obtain ⟨qA01, qA02, qA03⟩ := A0.out.cells
    obtain ⟨qA11, qA12, qA13⟩ := A1.out.cells
    obtain ⟨qW1, qW2, qW3⟩ := W.out.cells
    obtain ⟨qX01, qX02, qX03⟩ := X0.out.cells
    obtain ⟨qX11, qX12, qX13⟩ := X1.out.cells
    go_wp2_with fail
    refine (implConj_any s0 p0 _ _ _ rs0 s1 p1 _ _ _ rs1 _ O104.out.reads HY0.out hn104 O105.out.reads HY1.out hn105 _ _ _ _ HM.out).mono ?_
    rintro e v6 ⟨b6, m6, d6, rfl, hl6, ho, hb⟩
    clear qA01 qA02 qA03 qA11 qA12 qA13 qW1 qW2 qW3 qX01 qX02 qX03 qX11 qX12 qX13
    have P6 : Hid (OwnSIn (v5.heap.size + 1) v6.heap.size v6 b6 m6 frs) := Lib.hid (by have := ho.within; simpa using this); clear ho
    replace R0 := Lib.hid (R0.out.below hb)
    replace R1 := Lib.hid (R1.out.below hb)
    replace A0 := Lib.hid (A0.out.below hb)
    replace A1 := Lib.hid (A1.out.below hb)
    replace P3 := Lib.hid (P3.out.below hb)
    replace W := Lib.hid (W.out.below hb)
    replace O104 := Lib.hid (O104.out.below hb)
    replace X0 := Lib.hid (X0.out.below hb)
    replace O105 := Lib.hid (O105.out.below hb)
    replace X1 := Lib.hid (X1.out.below hb)
    replace B := Lib.hid (below_go B.out hb B.out.size)
    have z6 : v5.heap.size + 1 ≤ v6.heap.size := by have := hb.size; (try simp at this); omega
    clear hb
    replace R0 := Lib.hid (R0.out.alloc (.cells #[.int .i64 fs, .int .i64 fp, .slice b6 m6 d6] 28))
    replace R1 := Lib.hid (R1.out.alloc (.cells #[.int .i64 fs, .int .i64 fp, .slice b6 m6 d6] 28))
    replace A0 := Lib.hid (A0.out.alloc (.cells #[.int .i64 fs, .int .i64 fp, .slice b6 m6 d6] 28))
    replace A1 := Lib.hid (A1.out.alloc (.cells #[.int .i64 fs, .int .i64 fp, .slice b6 m6 d6] 28))
    replace P3 := Lib.hid (P3.out.alloc (.cells #[.int .i64 fs, .int .i64 fp, .slice b6 m6 d6] 28))
    replace W := Lib.hid (W.out.alloc (.cells #[.int .i64 fs, .int .i64 fp, .slice b6 m6 d6] 28))
    replace O104 := Lib.hid (O104.out.alloc (.cells #[.int .i64 fs, .int .i64 fp, .slice b6 m6 d6] 28))
    replace X0 := Lib.hid (X0.out.alloc (.cells #[.int .i64 fs, .int .i64 fp, .slice b6 m6 d6] 28))
    replace O105 := Lib.hid (O105.out.alloc (.cells #[.int .i64 fs, .int .i64 fp, .slice b6 m6 d6] 28))
    replace X1 := Lib.hid (X1.out.alloc (.cells #[.int .i64 fs, .int .i64 fp, .slice b6 m6 d6] 28))
    replace P6 := Lib.hid (P6.out.alloc (.cells #[.int .i64 fs, .int .i64 fp, .slice b6 m6 d6] 28))
    have G := Lib.hid (At3.place v6 (.int .i64 fs) (.int .i64 fp) (.slice b6 m6 d6) 28 v6.heap.size rfl)
    replace B := Lib.hid (B.out.alloc B.out.size (.cells #[.int .i64 fs, .int .i64 fp, .slice b6 m6 d6] 28))
    obtain ⟨qA01, qA02, qA03⟩ := A0.out.cells
    obtain ⟨qA11, qA12, qA13⟩ := A1.out.cells
    obtain ⟨qW1, qW2, qW3⟩ := W.out.cells
    obtain ⟨qX01, qX02, qX03⟩ := X0.out.cells
    obtain ⟨qX11, qX12, qX13⟩ := X1.out.cells
    obtain ⟨qG1, qG2, qG3⟩ := G.out.cells
    go_wp2_with fail
    refine (eqNormal_yesn _ _ _ _ _ _ _ _ frs _ P6.out.reads P3.out.reads hl6).mono ?_
    rintro e v7 ⟨rfl, hb⟩
    clear qA01 qA02 qA03 qA11 qA12 qA13 qW1 qW2 qW3 qX01 qX02 qX03 qX11 qX12 qX13 qG1 qG2 qG3
    replace R0 := Lib.hid (R0.out.below hb)
    replace R1 := Lib.hid (R1.out.below hb)
    replace A0 := Lib.hid (A0.out.below hb)
    replace A1 := Lib.hid (A1.out.below hb)
    replace P3 := Lib.hid (P3.out.below hb)
    replace W := Lib.hid (W.out.below hb)
    replace O104 := Lib.hid (O104.out.below hb)
    replace X0 := Lib.hid (X0.out.below hb)
    replace O105 := Lib.hid (O105.out.below hb)
    replace X1 := Lib.hid (X1.out.below hb)
    replace P6 := Lib.hid (P6.out.below hb)
    replace G := Lib.hid (G.out.below hb)
    replace B := Lib.hid (below_go B.out hb B.out.size)
    have z7 : v6.heap.size + 1 ≤ v7.heap.size := by have := hb.size; (try simp at this); omega
    clear hb
    go_wp2
    replace R0 := Lib.hid R0.out.drew
    replace R1 := Lib.hid R1.out.drew
    replace A0 := Lib.hid A0.out.drew
    replace A1 := Lib.hid A1.out.drew
    replace P3 := Lib.hid P3.out.drew
    replace W := Lib.hid W.out.drew
    replace O104 := Lib.hid O104.out.drew
    replace X0 := Lib.hid X0.out.drew
    replace O105 := Lib.hid O105.out.drew
    replace X1 := Lib.hid X1.out.drew
    replace P6 := Lib.hid P6.out.drew
    replace G := Lib.hid G.out.drew
    replace B := Lib.hid B.out.drew
    go_region_held3 (fun w' => (w'.cell? ⟨w.heap.size, 0, none⟩ = some (.int .i64 s0) ∧ w'.cell? ⟨w.heap.size, 1, none⟩ = some (.int .i64 p0) ∧ w'.cell? ⟨w.heap.size, 2, none⟩ = some (.slice a0 n0 cap0)) ∧ (w'.cell? ⟨v4.heap.size, 0, none⟩ = some (.int .i64 s0) ∧ w'.cell? ⟨v4.heap.size, 1, none⟩ = some (.int .i64 p0) ∧ w'.cell? ⟨v4.heap.size, 2, none⟩ = some (.slice a104 n104 c104))) (first | with_reducible exact ⟨A0.out.cells, X0.out.cells⟩)
     (first
      | (go_at_call 22; refine (toNormal_any _ _ _ _ _ rs0 _ R0.out.1 h20).mono ?_; rintro e u01 ⟨ax, nx, cx, rfl, ho6, hb⟩; have OX := Lib.hid ho6.reads; have zx1 := hb.size; replace R0 := Lib.hid (R0.out.below hb); replace R1 := Lib.hid (R1.out.below hb); replace A0 := Lib.hid (A0.out.below hb); replace A1 := Lib.hid (A1.out.below hb); replace P3 := Lib.hid (P3.out.below hb); replace W := Lib.hid (W.out.below hb); replace O104 := Lib.hid (O104.out.below hb); replace X0 := Lib.hid (X0.out.below hb); replace O105 := Lib.hid (O105.out.below hb); replace X1 := Lib.hid (X1.out.below hb); replace P6 := Lib.hid (P6.out.below hb); replace G := Lib.hid (G.out.below hb); replace B := Lib.hid (below_go B.out hb B.out.size))
      | (go_at_call 13; refine (eqNormal_yesn _ _ _ _ _ _ _ _ rs0 _ O104.out.reads OX.out hn104).mono ?_; rintro e u02 ⟨rfl, hb⟩; have zx2 := hb.size; replace R0 := Lib.hid (R0.out.below hb); replace R1 := Lib.hid (R1.out.below hb); replace A0 := Lib.hid (A0.out.below hb); replace A1 := Lib.hid (A1.out.below hb); replace P3 := Lib.hid (P3.out.below hb); replace W := Lib.hid (W.out.below hb); replace O104 := Lib.hid (O104.out.below hb); replace X0 := Lib.hid (X0.out.below hb); replace O105 := Lib.hid (O105.out.below hb); replace X1 := Lib.hid (X1.out.below hb); replace P6 := Lib.hid (P6.out.below hb); replace G := Lib.hid (G.out.below hb); replace B := Lib.hid (below_go B.out hb B.out.size)))
    have zx10 : v7.heap.size + 0 ≤ u02.heap.size := by (try simp at zx1 zx2); omega
    clear zx1 zx2 OX
    go_wp2
    replace R0 := Lib.hid R0.out.drew
    replace R1 := Lib.hid R1.out.drew
    replace A0 := Lib.hid A0.out.drew
    replace A1 := Lib.hid A1.out.drew
    replace P3 := Lib.hid P3.out.drew
    replace W := Lib.hid W.out.drew
    replace O104 := Lib.hid O104.out.drew
    replace X0 := Lib.hid X0.out.drew
    replace O105 := Lib.hid O105.out.drew
    replace X1 := Lib.hid X1.out.drew
    replace P6 := Lib.hid P6.out.drew
    replace G := Lib.hid G.out.drew
    replace B := Lib.hid B.out.drew
    go_region_held3 (fun w' => (w'.cell? ⟨w.heap.size + 1, 0, none⟩ = some (.int .i64 s1) ∧ w'.cell? ⟨w.heap.size + 1, 1, none⟩ = some (.int .i64 p1) ∧ w'.cell? ⟨w.heap.size + 1, 2, none⟩ = some (.slice a1 n1 cap1)) ∧ (w'.cell? ⟨v5.heap.size, 0, none⟩ = some (.int .i64 s1) ∧ w'.cell? ⟨v5.heap.size, 1, none⟩ = some (.int .i64 p1) ∧ w'.cell? ⟨v5.heap.size, 2, none⟩ = some (.slice a105 n105 c105))) (first | with_reducible exact ⟨A1.out.cells, X1.out.cells⟩)
     (first
      | (go_at_call 22; refine (toNormal_any _ _ _ _ _ rs1 _ R1.out.1 h21).mono ?_; rintro e u11 ⟨ax, nx, cx, rfl, ho6, hb⟩; have OX := Lib.hid ho6.reads; have zx1 := hb.size; replace R0 := Lib.hid (R0.out.below hb); replace R1 := Lib.hid (R1.out.below hb); replace A0 := Lib.hid (A0.out.below hb); replace A1 := Lib.hid (A1.out.below hb); replace P3 := Lib.hid (P3.out.below hb); replace W := Lib.hid (W.out.below hb); replace O104 := Lib.hid (O104.out.below hb); replace X0 := Lib.hid (X0.out.below hb); replace O105 := Lib.hid (O105.out.below hb); replace X1 := Lib.hid (X1.out.below hb); replace P6 := Lib.hid (P6.out.below hb); replace G := Lib.hid (G.out.below hb); replace B := Lib.hid (below_go B.out hb B.out.size))
      | (go_at_call 13; refine (eqNormal_yesn _ _ _ _ _ _ _ _ rs1 _ O105.out.reads OX.out hn105).mono ?_; rintro e u12 ⟨rfl, hb⟩; have zx2 := hb.size; replace R0 := Lib.hid (R0.out.below hb); replace R1 := Lib.hid (R1.out.below hb); replace A0 := Lib.hid (A0.out.below hb); replace A1 := Lib.hid (A1.out.below hb); replace P3 := Lib.hid (P3.out.below hb); replace W := Lib.hid (W.out.below hb); replace O104 := Lib.hid (O104.out.below hb); replace X0 := Lib.hid (X0.out.below hb); replace O105 := Lib.hid (O105.out.below hb); replace X1 := Lib.hid (X1.out.below hb); replace P6 := Lib.hid (P6.out.below hb); replace G := Lib.hid (G.out.below hb); replace B := Lib.hid (below_go B.out hb B.out.size)))
    have zx11 : u02.heap.size + 0 ≤ u12.heap.size := by (try simp at zx1 zx2); omega
    clear zx1 zx2 OX
    obtain ⟨qA01, qA02, qA03⟩ := A0.out.cells
    obtain ⟨qA11, qA12, qA13⟩ := A1.out.cells
    obtain ⟨qW1, qW2, qW3⟩ := W.out.cells
    obtain ⟨qX01, qX02, qX03⟩ := X0.out.cells
    obtain ⟨qX11, qX12, qX13⟩ := X1.out.cells
    obtain ⟨qG1, qG2, qG3⟩ := G.out.cells
    go_wp2_with fail
    refine (markNormal_in _ _ _ _ _ _ _ rs0 _ _ O104.out hn104 (by omega) (by omega)).mono ?_
    rintro e v8 ⟨rfl, ho, hb⟩
    clear qA01 qA02 qA03 qA11 qA12 qA13 qW1 qW2 qW3 qX01 qX02 qX03 qX11 qX12 qX13 qG1 qG2 qG3
    replace R0 := Lib.hid (R0.out.wrote hb (by omega))
    replace R1 := Lib.hid (R1.out.wrote hb (by omega))
    replace A0 := Lib.hid (A0.out.wrote hb (by omega))
    replace A1 := Lib.hid (A1.out.wrote hb (by omega))
    replace P3 := Lib.hid (P3.out.wrote hb (by omega))
    replace W := Lib.hid (W.out.wrote hb (by omega))
    replace X0 := Lib.hid (X0.out.wrote hb (by omega))
    replace O105 := Lib.hid (O105.out.wrote hb (by omega))
    replace X1 := Lib.hid (X1.out.wrote hb (by omega))
    replace P6 := Lib.hid (P6.out.wrote hb (by omega))
    replace G := Lib.hid (G.out.wrote hb (by omega))
    replace B := Lib.hid (below_write B.out hb (by omega) B.out.size)
    have z8 : u12.heap.size + 0 ≤ v8.heap.size := by have := hb.size; (try simp at this); omega
    replace O104 := Lib.hid ho; clear ho hb
    obtain ⟨qA01, qA02, qA03⟩ := A0.out.cells
    obtain ⟨qA11, qA12, qA13⟩ := A1.out.cells
    obtain ⟨qW1, qW2, qW3⟩ := W.out.cells
    obtain ⟨qX01, qX02, qX03⟩ := X0.out.cells
    obtain ⟨qX11, qX12, qX13⟩ := X1.out.cells
    obtain ⟨qG1, qG2, qG3⟩ := G.out.cells
    go_wp2_with fail
    refine (markNormal_in _ _ _ _ _ _ _ rs1 _ _ O105.out hn105 (by omega) (by omega)).mono ?_
    rintro e v9 ⟨rfl, ho, hb⟩
    clear qA01 qA02 qA03 qA11 qA12 qA13 qW1 qW2 qW3 qX01 qX02 qX03 qX11 qX12 qX13 qG1 qG2 qG3
    replace R0 := Lib.hid (R0.out.wrote hb (by omega))
    replace R1 := Lib.hid (R1.out.wrote hb (by omega))
    replace A0 := Lib.hid (A0.out.wrote hb (by omega))
    replace A1 := Lib.hid (A1.out.wrote hb (by omega))
    replace P3 := Lib.hid (P3.out.wrote hb (by omega))
    replace W := Lib.hid (W.out.wrote hb (by omega))
    replace X0 := Lib.hid (X0.out.wrote hb (by omega))
    replace X1 := Lib.hid (X1.out.wrote hb (by omega))
    replace P6 := Lib.hid (P6.out.wrote hb (by omega))
    replace G := Lib.hid (G.out.wrote hb (by omega))
    replace B := Lib.hid (below_write B.out hb (by omega) B.out.size)
    have z9 : v8.heap.size + 0 ≤ v9.heap.size := by have := hb.size; (try simp at this); omega
    replace O105 := Lib.hid ho; clear ho hb
    obtain ⟨qA01, qA02, qA03⟩ := A0.out.cells
    obtain ⟨qA11, qA12, qA13⟩ := A1.out.cells
    obtain ⟨qW1, qW2, qW3⟩ := W.out.cells
    obtain ⟨qX01, qX02, qX03⟩ := X0.out.cells
    obtain ⟨qX11, qX12, qX13⟩ := X1.out.cells
    obtain ⟨qG1, qG2, qG3⟩ := G.out.cells
    go_wp2_with fail
    refine (eqNormal_yesn _ _ _ _ _ _ _ _ frs _ P6.out.reads P3.out.reads hl6).mono ?_
    rintro e v10 ⟨rfl, hb⟩
    clear qA01 qA02 qA03 qA11 qA12 qA13 qW1 qW2 qW3 qX01 qX02 qX03 qX11 qX12 qX13 qG1 qG2 qG3
    replace R0 := Lib.hid (R0.out.below hb)
    replace R1 := Lib.hid (R1.out.below hb)
    replace A0 := Lib.hid (A0.out.below hb)
    replace A1 := Lib.hid (A1.out.below hb)
    replace P3 := Lib.hid (P3.out.below hb)
    replace W := Lib.hid (W.out.below hb)
    replace X0 := Lib.hid (X0.out.below hb)
    replace X1 := Lib.hid (X1.out.below hb)
    replace P6 := Lib.hid (P6.out.below hb)
    replace G := Lib.hid (G.out.below hb)
    replace B := Lib.hid (below_go B.out hb B.out.size)
    have z10 : v9.heap.size + 0 ≤ v10.heap.size := by have := hb.size; (try simp at this); omega
    clear hb
    obtain ⟨qA01, qA02, qA03⟩ := A0.out.cells
    obtain ⟨qA11, qA12, qA13⟩ := A1.out.cells
    obtain ⟨qW1, qW2, qW3⟩ := W.out.cells
    obtain ⟨qX01, qX02, qX03⟩ := X0.out.cells
    obtain ⟨qX11, qX12, qX13⟩ := X1.out.cells
    obtain ⟨qG1, qG2, qG3⟩ := G.out.cells
    go_wp2_with fail
    refine (markNormal_inS _ _ _ _ _ _ _ frs _ _ P6.out hl6 (by omega) (by omega)).mono ?_
    rintro e v11 ⟨rfl, ho, hb⟩
    clear qA01 qA02 qA03 qA11 qA12 qA13 qW1 qW2 qW3 qX01 qX02 qX03 qX11 qX12 qX13 qG1 qG2 qG3
    replace R0 := Lib.hid (R0.out.wrote hb (by omega))
    replace R1 := Lib.hid (R1.out.wrote hb (by omega))
    replace A0 := Lib.hid (A0.out.wrote hb (by omega))
    replace A1 := Lib.hid (A1.out.wrote hb (by omega))
    replace P3 := Lib.hid (P3.out.wrote hb (by omega))
    replace W := Lib.hid (W.out.wrote hb (by omega))
    replace X0 := Lib.hid (X0.out.wrote hb (by omega))
    replace X1 := Lib.hid (X1.out.wrote hb (by omega))
    replace G := Lib.hid (G.out.wrote hb (by omega))
    replace B := Lib.hid (below_write B.out hb (by omega) B.out.size)
    have z11 : v10.heap.size + 0 ≤ v11.heap.size := by have := hb.size; (try simp at this); omega
    replace P6 := Lib.hid ho; clear ho hb
    have t3 : ((1 + ((8 * m6 : Nat) : Int)) != (1 + ((8 * m6 : Nat) : Int))) = false := by simp
    obtain ⟨qA01, qA02, qA03⟩ := A0.out.cells
    obtain ⟨qA11, qA12, qA13⟩ := A1.out.cells
    obtain ⟨qW1, qW2, qW3⟩ := W.out.cells
    obtain ⟨qX01, qX02, qX03⟩ := X0.out.cells
    obtain ⟨qX11, qX12, qX13⟩ := X1.out.cells
    obtain ⟨qG1, qG2, qG3⟩ := G.out.cells
    go_wp2_with fail
    refine (heldNormal_any _ _ _ _ _ _ _ P6.out.reads hl6 (by omega) (by omega)).mono ?_
    rintro e v12 ⟨rfl, hb⟩
    clear qA01 qA02 qA03 qA11 qA12 qA13 qW1 qW2 qW3 qX01 qX02 qX03 qX11 qX12 qX13 qG1 qG2 qG3
    replace R0 := Lib.hid (R0.out.below hb)
    replace R1 := Lib.hid (R1.out.below hb)
    replace A0 := Lib.hid (A0.out.below hb)
    replace A1 := Lib.hid (A1.out.below hb)
    replace P3 := Lib.hid (P3.out.below hb)
    replace W := Lib.hid (W.out.below hb)
    replace X0 := Lib.hid (X0.out.below hb)
    replace X1 := Lib.hid (X1.out.below hb)
    replace P6 := Lib.hid (P6.out.below hb)
    replace G := Lib.hid (G.out.below hb)
    replace B := Lib.hid (below_go B.out hb B.out.size)
    have z12 : v11.heap.size + 0 ≤ v12.heap.size := by have := hb.size; (try simp at this); omega
    clear hb
    obtain ⟨qA01, qA02, qA03⟩ := A0.out.cells
    obtain ⟨qA11, qA12, qA13⟩ := A1.out.cells
    obtain ⟨qW1, qW2, qW3⟩ := W.out.cells
    obtain ⟨qX01, qX02, qX03⟩ := X0.out.cells
    obtain ⟨qX11, qX12, qX13⟩ := X1.out.cells
    obtain ⟨qG1, qG2, qG3⟩ := G.out.cells
    go_upto_region 31 with fail
    clear qA01 qA02 qA03 qA11 qA12 qA13 qW1 qW2 qW3 qX01 qX02 qX03 qX11 qX12 qX13 qG1 qG2 qG3
    go_cut [15, 16] from 94 to 101 (fun x6 x7 wx => ∃ g b m d, x6 = .pointer (some ⟨g, 0, none⟩) ∧ x7 = .int .i64 fc ∧ m ≤ 1048576 ∧ v12.heap.size ≤ g ∧ At3 wx g (.int .i64 fs) (.int .i64 fp) (.slice b m d) ∧ OwnSIn v12.heap.size wx.heap.size wx b m frs ∧ Below v12.heap.size v12 wx)
    case first =>
     have KB : Hid (Below v12.heap.size v12 v12.drew) := Lib.hid (Below.refl v12.heap.size v12).drew
     have zA : w.heap.size < v12.heap.size := A0.out.1
     have zB : w.heap.size + 1 < v12.heap.size := A1.out.1
     have SH : Hid (∀ W, Below v12.heap.size v12 W → (W.cell? ⟨w.heap.size, 0, none⟩ = some (.int .i64 s0) ∧ W.cell? ⟨w.heap.size, 1, none⟩ = some (.int .i64 p0) ∧ W.cell? ⟨w.heap.size, 2, none⟩ = some (.slice a0 n0 cap0)) ∧ (W.cell? ⟨w.heap.size + 1, 0, none⟩ = some (.int .i64 s1) ∧ W.cell? ⟨w.heap.size + 1, 1, none⟩ = some (.int .i64 p1) ∧ W.cell? ⟨w.heap.size + 1, 2, none⟩ = some (.slice a1 n1 cap1))) := Lib.hid fun W h => ⟨(A0.out.below h).cells, (A1.out.below h).cells⟩
     have SZ : Hid (∀ W, Below v12.heap.size v12 W → ∀ g, v12.heap.size ≤ g → ∀ u v x, ((((W.setCell ⟨g, 0, none⟩ u).setCell ⟨g, 1, none⟩ v).setCell ⟨g, 2, none⟩ x).cell? ⟨w.heap.size, 0, none⟩ = some (.int .i64 s0) ∧ (((W.setCell ⟨g, 0, none⟩ u).setCell ⟨g, 1, none⟩ v).setCell ⟨g, 2, none⟩ x).cell? ⟨w.heap.size, 1, none⟩ = some (.int .i64 p0) ∧ (((W.setCell ⟨g, 0, none⟩ u).setCell ⟨g, 1, none⟩ v).setCell ⟨g, 2, none⟩ x).cell? ⟨w.heap.size, 2, none⟩ = some (.slice a0 n0 cap0)) ∧ ((((W.setCell ⟨g, 0, none⟩ u).setCell ⟨g, 1, none⟩ v).setCell ⟨g, 2, none⟩ x).cell? ⟨w.heap.size + 1, 0, none⟩ = some (.int .i64 s1) ∧ (((W.setCell ⟨g, 0, none⟩ u).setCell ⟨g, 1, none⟩ v).setCell ⟨g, 2, none⟩ x).cell? ⟨w.heap.size + 1, 1, none⟩ = some (.int .i64 p1) ∧ (((W.setCell ⟨g, 0, none⟩ u).setCell ⟨g, 1, none⟩ v).setCell ⟨g, 2, none⟩ x).cell? ⟨w.heap.size + 1, 2, none⟩ = some (.slice a1 n1 cap1))) := Lib.hid fun W h g hg u v x => ⟨((A0.out.below h).set3 (g2 := g) (by omega) u v x).cells, ((A1.out.below h).set3 (g2 := g) (by omega) u v x).cells⟩
     refine wp_region_held_drew (S := (fun w' => (w'.cell? ⟨w.heap.size, 0, none⟩ = some (.int .i64 s0) ∧ w'.cell? ⟨w.heap.size, 1, none⟩ = some (.int .i64 p0) ∧ w'.cell? ⟨w.heap.size, 2, none⟩ = some (.slice a0 n0 cap0)) ∧ (w'.cell? ⟨w.heap.size + 1, 0, none⟩ = some (.int .i64 s1) ∧ w'.cell? ⟨w.heap.size + 1, 1, none⟩ = some (.int .i64 p1) ∧ w'.cell? ⟨w.heap.size + 1, 2, none⟩ = some (.slice a1 n1 cap1)))) (by kernel_rfl) ?_ (fun hHeld => ?_)
     ·first | with_reducible exact SH.out _ KB.out | with_reducible exact SZ.out _ KB.out _ zG.out _ _ _
     refine wpAnyH_take (i := 0) (oi := { dst := some 95, op := Op.load 43 (Operand.tmp 2), type := 43, pos := "exact.go:2161", after := #[], guard := none }) (v := ?_) rfl (by kernel_rfl) (by kernel_rfl) (by kernel_rfl) (fun _ _ _ h => h) (Or.inl ⟨by rfl, ?_⟩) (by assumption) ?_
     rotate_left
     ·intro w hSw
      (try dsimp only at hSw)
      go_simp
      try with_reducible rfl
     try simp only [Act.put, List.setIfInBounds_toArray, List.set_cons_zero, List.set_cons_succ]
     refine wpAnyH_take (i := 2) (oi := { dst := some 97, op := Op.load 43 (Operand.tmp 3), type := 43, pos := "exact.go:2161", after := #[], guard := none }) (v := ?_) rfl (by kernel_rfl) (by kernel_rfl) (by kernel_rfl) (fun _ _ _ h => h) (Or.inl ⟨by rfl, ?_⟩) (by assumption) ?_
     rotate_left
     ·intro w hSw
      (try dsimp only at hSw)
      go_simp
      try with_reducible rfl
     try simp only [Act.put, List.setIfInBounds_toArray, List.set_cons_zero, List.set_cons_succ]
     refine wpAnyH_ready (rs := [1, 8]) (by kernel_rfl) (by simp) ?_
     refine AllReadyH.cons (o := { dst := some 96, op := Op.call { callee := Callee.value (Operand.func 22), args := #[Operand.tmp 95], argTypes := #[43] }, type := 28, pos := "exact.go:2161", after := #[{ on := 0, ground := Ground.data }], guard := none }) rfl (fun K hK => ?_) ?_
     ·go_simp
      refine (toNormal_any _ _ _ _ _ rs0 _ (R0.out.1.below KB.out) h20).mono ?_
      rintro e u0 ⟨x0, y0, z0, rfl, ho, gg⟩
      have O0 : Hid (OwnA v12.heap.size u0 x0 y0 z0 rs0) := Lib.hid (ho.mono KB.out.size)
      replace KB := Lib.hid (below_go KB.out gg KB.out.size)
      clear ho gg
      go_wp2_with fail
      refine hK.out _ _ ?_ (fun hHeld => ?_)
      ·first | with_reducible exact SH.out _ KB.out | with_reducible exact SZ.out _ KB.out _ zG.out _ _ _
      clear hK K
      try simp only [Act.put, List.setIfInBounds_toArray, List.set_cons_zero, List.set_cons_succ]
      refine wpAnyH_ready (rs := [3, 8]) (by kernel_rfl) (by simp) ?_
      refine AllReadyH.cons (o := { dst := some 98, op := Op.call { callee := Callee.value (Operand.func 22), args := #[Operand.tmp 97], argTypes := #[43] }, type := 28, pos := "exact.go:2161", after := #[{ on := 2, ground := Ground.data }, { on := 1, ground := Ground.chain }], guard := none }) rfl (fun K hK => ?_) ?_
      ·go_simp
       refine (toNormal_any _ _ _ _ _ rs1 _ (R1.out.1.below KB.out) h21).mono ?_
       rintro e u1 ⟨x1, y1, z1, rfl, ho, gg⟩
       replace O0 := Lib.hid (O0.out.below gg)
       have O1 : Hid (OwnA v12.heap.size u1 x1 y1 z1 rs1) := Lib.hid (ho.mono KB.out.size)
       replace KB := Lib.hid (below_go KB.out gg KB.out.size)
       clear ho gg
       go_wp2_with fail
       refine hK.out _ _ ?_ (fun hHeld => ?_)
       ·first | with_reducible exact SH.out _ KB.out | with_reducible exact SZ.out _ KB.out _ zG.out _ _ _
       clear hK K
       try simp only [Act.put, List.setIfInBounds_toArray, List.set_cons_zero, List.set_cons_succ]
       refine wpAnyH_ready (rs := [4, 8]) (by kernel_rfl) (by simp) ?_
       refine AllReadyH.cons (o := { dst := some 99, op := Op.call { callee := Callee.value (Operand.func 23), args := #[Operand.tmp 96, Operand.tmp 98], argTypes := #[28, 28] }, type := 29, pos := "exact.go:2161", after := #[{ on := 1, ground := Ground.data }, { on := 3, ground := Ground.data }, { on := 3, ground := Ground.chain }], guard := none }) rfl (fun K hK => ?_) ?_
       ·go_simp
        refine (implConj_any s0 p0 _ _ _ rs0 s1 p1 _ _ _ rs1 _ O0.out.reads HY0.out (by have := O0.out.len; have := R0.out.1.len; omega) O1.out.reads HY1.out (by have := O1.out.len; have := R1.out.1.len; omega) _ _ _ _ HM.out).mono ?_
        rintro e uF ⟨bb, mm, dd, rfl, hlF, ho, gg⟩
        replace O0 := Lib.hid (O0.out.below gg)
        replace O1 := Lib.hid (O1.out.below gg)
        have P : Hid (OwnS v12.heap.size uF bb mm frs) := Lib.hid (ho.mono KB.out.size)
        replace KB := Lib.hid (below_go KB.out gg KB.out.size)
        clear ho gg
        go_wp2_with fail
        refine hK.out _ _ ?_ (fun hHeld => ?_)
        ·first | with_reducible exact SH.out _ KB.out | with_reducible exact SZ.out _ KB.out _ zG.out _ _ _
        clear hK K
        try simp only [Act.put, List.setIfInBounds_toArray, List.set_cons_zero, List.set_cons_succ]
        refine wpAnyH_take (i := 5) (oi := { dst := some 94, op := Op.move (Operand.tmp 99), type := 29, pos := "exact.go:2161", after := #[{ on := 4, ground := Ground.data }], guard := none }) (v := ?_) rfl (by kernel_rfl) (by kernel_rfl) (by kernel_rfl) (fun _ _ _ h => h) (Or.inl ⟨by rfl, ?_⟩) (by assumption) ?_
        rotate_left
        ·intro w hSw
         (try dsimp only at hSw)
         go_simp
         try with_reducible rfl
        try simp only [Act.put, List.setIfInBounds_toArray, List.set_cons_zero, List.set_cons_succ]
        refine wpAnyH_take (i := 6) (oi := { dst := some 100, op := Op.extract (Operand.tmp 94) 0, type := 28, pos := "exact.go:2161", after := #[{ on := 5, ground := Ground.data }], guard := none }) (v := ?_) rfl (by kernel_rfl) (by kernel_rfl) (by kernel_rfl) (fun _ _ _ h => h) (Or.inl ⟨by rfl, ?_⟩) (by assumption) ?_
        rotate_left
        ·intro w hSw
         (try dsimp only at hSw)
         go_simp
         try with_reducible rfl
        try simp only [Act.put, List.setIfInBounds_toArray, List.set_cons_zero, List.set_cons_succ]
        refine wpAnyH_take (i := 7) (oi := { dst := some 101, op := Op.extract (Operand.tmp 94) 1, type := 2, pos := "exact.go:2161", after := #[{ on := 5, ground := Ground.data }, { on := 9, ground := Ground.gcOnly Departure.lateStores }], guard := none }) (v := ?_) rfl (by kernel_rfl) (by kernel_rfl) (by kernel_rfl) (fun _ _ _ h => h) (Or.inl ⟨by rfl, ?_⟩) (by assumption) ?_
        rotate_left
        ·intro w hSw
         (try dsimp only at hSw)
         go_simp
         try with_reducible rfl
        try simp only [Act.put, List.setIfInBounds_toArray, List.set_cons_zero, List.set_cons_succ]
        refine wpAnyH_ready (rs := [8]) (by kernel_rfl) (by simp) ?_
        refine AllReadyH.cons (o := { dst := some 15, op := Op.alloc 28, type := 0, pos := "exact.go:2161", after := #[], guard := none }) rfl (fun K hK => ?_) ?_
        ·go_simp
         have PA := Lib.hid (P.out.apartHi (g := uF.heap.size) (Nat.le_refl _))
         replace O0 : Hid (OwnA v12.heap.size (uF.alloc (.cells #[.int .i64 0, .int .i64 0, .slice none 0 0] 28)) x0 y0 z0 rs0) := Lib.hid (O0.out.alloc (.cells #[.int .i64 0, .int .i64 0, .slice none 0 0] 28))
         replace O1 : Hid (OwnA v12.heap.size (uF.alloc (.cells #[.int .i64 0, .int .i64 0, .slice none 0 0] 28)) x1 y1 z1 rs1) := Lib.hid (O1.out.alloc (.cells #[.int .i64 0, .int .i64 0, .slice none 0 0] 28))
         replace P : Hid (OwnS v12.heap.size (uF.alloc (.cells #[.int .i64 0, .int .i64 0, .slice none 0 0] 28)) bb mm frs) := Lib.hid (P.out.alloc (.cells #[.int .i64 0, .int .i64 0, .slice none 0 0] 28))
         have Z : Hid (At3 (uF.alloc (.cells #[.int .i64 0, .int .i64 0, .slice none 0 0] 28)) (uF.heap.size) (.int .i64 0) (.int .i64 0) (.slice none 0 0)) := Lib.hid ((At3.place uF (.int .i64 0) (.int .i64 0) (.slice none 0 0) 28 (uF.heap.size) (by simp)))
         have zG : Hid (v12.heap.size ≤ uF.heap.size) := Lib.hid (by first | exact Nat.le_refl _ | exact KB.out.size)
         replace KB : Hid (Below v12.heap.size v12 (uF.alloc (.cells #[.int .i64 0, .int .i64 0, .slice none 0 0] 28))) := Lib.hid (KB.out.alloc KB.out.size (.cells #[.int .i64 0, .int .i64 0, .slice none 0 0] 28))
         obtain ⟨V8, hV8⟩ : ∃ V, V = (uF.alloc (.cells #[.int .i64 0, .int .i64 0, .slice none 0 0] 28)) := ⟨_, rfl⟩
         rw [← hV8] at KB O0 O1 P Z ⊢
         clear hV8
         refine hK.out _ _ ?_ (fun hHeld => ?_)
         ·first | with_reducible exact SH.out _ KB.out | with_reducible exact SZ.out _ KB.out _ zG.out _ _ _
         clear hK K
         try simp only [Act.put, List.setIfInBounds_toArray, List.set_cons_zero, List.set_cons_succ]
         refine wpAnyH_ready (rs := [9]) (by kernel_rfl) (by simp) ?_
         refine AllReadyH.cons (o := { dst := none, op := Op.store 28 (Operand.tmp 15) (Operand.tmp 100), type := 0, pos := "exact.go:2161", after := #[{ on := 8, ground := Ground.data }, { on := 6, ground := Ground.data }, { on := 4, ground := Ground.chain }, { on := 0, ground := Ground.phase }, { on := 1, ground := Ground.phase }, { on := 2, ground := Ground.phase }, { on := 3, ground := Ground.phase }, { on := 4, ground := Ground.phase }, { on := 5, ground := Ground.phase }, { on := 6, ground := Ground.phase }, { on := 7, ground := Ground.textOnly Departure.lateStores }, { on := 8, ground := Ground.phase }], guard := none }) rfl (fun K hK => ?_) ?_
         ·obtain ⟨y0, ⟨y1, y2, y3⟩, y4, y5, y6⟩ := Z.out
          go_simp
          clear y0 y1 y2 y3 y4 y5 y6
          replace Z := Lib.hid (Z.out.fill (.int .i64 fs) (.int .i64 fp) (.slice bb mm dd))
          replace P := Lib.hid (P.out.past3 PA.out (.int .i64 fs) (.int .i64 fp) (.slice bb mm dd))
          replace KB := Lib.hid (below_set3 KB.out zG.out (.int .i64 fs) (.int .i64 fp) (.slice bb mm dd))
          obtain ⟨V9, hV9⟩ : ∃ V, V = (((V8.setCell ⟨uF.heap.size, 0, none⟩ (.int .i64 fs)).setCell ⟨uF.heap.size, 1, none⟩ (.int .i64 fp)).setCell ⟨uF.heap.size, 2, none⟩ (.slice bb mm dd)) := ⟨_, rfl⟩
          rw [← hV9] at Z P KB ⊢
          clear hV9
          refine hK.out _ _ ?_ (fun hHeld => ?_)
          ·first | with_reducible exact SH.out _ KB.out | with_reducible exact SZ.out _ KB.out _ zG.out _ _ _
          clear hK K
          try simp only [Act.put, List.setIfInBounds_toArray, List.set_cons_zero, List.set_cons_succ]
          refine wpAnyH_ready (rs := [10]) (by kernel_rfl) (by simp) ?_
          refine AllReadyH.cons (o := { dst := some 16, op := Op.assign (Operand.tmp 101), type := 2, pos := "exact.go:2161", after := #[{ on := 7, ground := Ground.data }, { on := 9, ground := Ground.chain }, { on := 0, ground := Ground.phase }, { on := 1, ground := Ground.phase }, { on := 2, ground := Ground.phase }, { on := 3, ground := Ground.phase }, { on := 4, ground := Ground.phase }, { on := 5, ground := Ground.phase }, { on := 6, ground := Ground.phase }, { on := 7, ground := Ground.phase }, { on := 8, ground := Ground.phase }, { on := 9, ground := Ground.phase }], guard := none }) rfl (fun K hK => ?_) ?_
          ·go_simp
           refine hK.out _ _ ?_ (fun hHeld => ?_)
           ·first | with_reducible exact SH.out _ KB.out | with_reducible exact SZ.out _ KB.out _ zG.out _ _ _
           clear hK K
           try simp only [Act.put, List.setIfInBounds_toArray, List.set_cons_zero, List.set_cons_succ]
           refine wpAnyH_done (by kernel_rfl) ?_ _
           go_wp2_with fail
           go_meet
           exact ⟨_, _, _, _, rfl, rfl, hlF, zG.out, Z.out, P.out.within, KB.out⟩
          exact AllReadyH.nil
         exact AllReadyH.nil
        exact AllReadyH.nil
       refine AllReadyH.cons (o := { dst := some 15, op := Op.alloc 28, type := 0, pos := "exact.go:2161", after := #[], guard := none }) rfl (fun K hK => ?_) ?_
       ·go_simp
        replace O0 : Hid (OwnA v12.heap.size (u1.alloc (.cells #[.int .i64 0, .int .i64 0, .slice none 0 0] 28)) x0 y0 z0 rs0) := Lib.hid (O0.out.alloc (.cells #[.int .i64 0, .int .i64 0, .slice none 0 0] 28))
        replace O1 : Hid (OwnA v12.heap.size (u1.alloc (.cells #[.int .i64 0, .int .i64 0, .slice none 0 0] 28)) x1 y1 z1 rs1) := Lib.hid (O1.out.alloc (.cells #[.int .i64 0, .int .i64 0, .slice none 0 0] 28))
        have Z : Hid (At3 (u1.alloc (.cells #[.int .i64 0, .int .i64 0, .slice none 0 0] 28)) (u1.heap.size) (.int .i64 0) (.int .i64 0) (.slice none 0 0)) := Lib.hid ((At3.place u1 (.int .i64 0) (.int .i64 0) (.slice none 0 0) 28 (u1.heap.size) (by simp)))
        have zG : Hid (v12.heap.size ≤ u1.heap.size) := Lib.hid (by first | exact Nat.le_refl _ | exact KB.out.size)
        replace KB : Hid (Below v12.heap.size v12 (u1.alloc (.cells #[.int .i64 0, .int .i64 0, .slice none 0 0] 28))) := Lib.hid (KB.out.alloc KB.out.size (.cells #[.int .i64 0, .int .i64 0, .slice none 0 0] 28))
        obtain ⟨V8, hV8⟩ : ∃ V, V = (u1.alloc (.cells #[.int .i64 0, .int .i64 0, .slice none 0 0] 28)) := ⟨_, rfl⟩
        rw [← hV8] at KB O0 O1 Z ⊢
        clear hV8
        refine hK.out _ _ ?_ (fun hHeld => ?_)
        ·first | with_reducible exact SH.out _ KB.out | with_reducible exact SZ.out _ KB.out _ zG.out _ _ _
        clear hK K
        try simp only [Act.put, List.setIfInBounds_toArray, List.set_cons_zero, List.set_cons_succ]
        refine wpAnyH_ready (rs := [4]) (by kernel_rfl) (by simp) ?_
        refine AllReadyH.cons (o := { dst := some 99, op := Op.call { callee := Callee.value (Operand.func 23), args := #[Operand.tmp 96, Operand.tmp 98], argTypes := #[28, 28] }, type := 29, pos := "exact.go:2161", after := #[{ on := 1, ground := Ground.data }, { on := 3, ground := Ground.data }, { on := 3, ground := Ground.chain }], guard := none }) rfl (fun K hK => ?_) ?_
        ·go_simp
         refine (implConj_any s0 p0 _ _ _ rs0 s1 p1 _ _ _ rs1 _ O0.out.reads HY0.out (by have := O0.out.len; have := R0.out.1.len; omega) O1.out.reads HY1.out (by have := O1.out.len; have := R1.out.1.len; omega) _ _ _ _ HM.out).mono ?_
         rintro e uF ⟨bb, mm, dd, rfl, hlF, ho, gg⟩
         have PA := Lib.hid (ho.apart (g := u1.heap.size) Z.out.1)
         replace O0 := Lib.hid (O0.out.below gg)
         replace O1 := Lib.hid (O1.out.below gg)
         replace Z := Lib.hid (Z.out.below gg)
         have P : Hid (OwnS v12.heap.size uF bb mm frs) := Lib.hid (ho.mono KB.out.size)
         replace KB := Lib.hid (below_go KB.out gg KB.out.size)
         clear ho gg
         go_wp2_with fail
         refine hK.out _ _ ?_ (fun hHeld => ?_)
         ·first | with_reducible exact SH.out _ KB.out | with_reducible exact SZ.out _ KB.out _ zG.out _ _ _
         clear hK K
         try simp only [Act.put, List.setIfInBounds_toArray, List.set_cons_zero, List.set_cons_succ]
         refine wpAnyH_take (i := 5) (oi := { dst := some 94, op := Op.move (Operand.tmp 99), type := 29, pos := "exact.go:2161", after := #[{ on := 4, ground := Ground.data }], guard := none }) (v := ?_) rfl (by kernel_rfl) (by kernel_rfl) (by kernel_rfl) (fun _ _ _ h => h) (Or.inl ⟨by rfl, ?_⟩) (by assumption) ?_
         rotate_left
         ·intro w hSw
          (try dsimp only at hSw)
          go_simp
          try with_reducible rfl
         try simp only [Act.put, List.setIfInBounds_toArray, List.set_cons_zero, List.set_cons_succ]
         refine wpAnyH_take (i := 6) (oi := { dst := some 100, op := Op.extract (Operand.tmp 94) 0, type := 28, pos := "exact.go:2161", after := #[{ on := 5, ground := Ground.data }], guard := none }) (v := ?_) rfl (by kernel_rfl) (by kernel_rfl) (by kernel_rfl) (fun _ _ _ h => h) (Or.inl ⟨by rfl, ?_⟩) (by assumption) ?_
         rotate_left
         ·intro w hSw
          (try dsimp only at hSw)
          go_simp
          try with_reducible rfl
         try simp only [Act.put, List.setIfInBounds_toArray, List.set_cons_zero, List.set_cons_succ]
         refine wpAnyH_take (i := 7) (oi := { dst := some 101, op := Op.extract (Operand.tmp 94) 1, type := 2, pos := "exact.go:2161", after := #[{ on := 5, ground := Ground.data }, { on := 9, ground := Ground.gcOnly Departure.lateStores }], guard := none }) (v := ?_) rfl (by kernel_rfl) (by kernel_rfl) (by kernel_rfl) (fun _ _ _ h => h) (Or.inl ⟨by rfl, ?_⟩) (by assumption) ?_
         rotate_left
         ·intro w hSw
          (try dsimp only at hSw)
          go_simp
          try with_reducible rfl
         try simp only [Act.put, List.setIfInBounds_toArray, List.set_cons_zero, List.set_cons_succ]
         refine wpAnyH_ready (rs := [9]) (by kernel_rfl) (by simp) ?_
         refine AllReadyH.cons (o := { dst := none, op := Op.store 28 (Operand.tmp 15) (Operand.tmp 100), type := 0, pos := "exact.go:2161", after := #[{ on := 8, ground := Ground.data }, { on := 6, ground := Ground.data }, { on := 4, ground := Ground.chain }, { on := 0, ground := Ground.phase }, { on := 1, ground := Ground.phase }, { on := 2, ground := Ground.phase }, { on := 3, ground := Ground.phase }, { on := 4, ground := Ground.phase }, { on := 5, ground := Ground.phase }, { on := 6, ground := Ground.phase }, { on := 7, ground := Ground.textOnly Departure.lateStores }, { on := 8, ground := Ground.phase }], guard := none }) rfl (fun K hK => ?_) ?_
         ·obtain ⟨y0, ⟨y1, y2, y3⟩, y4, y5, y6⟩ := Z.out
          go_simp
          clear y0 y1 y2 y3 y4 y5 y6
          replace Z := Lib.hid (Z.out.fill (.int .i64 fs) (.int .i64 fp) (.slice bb mm dd))
          replace P := Lib.hid (P.out.past3 PA.out (.int .i64 fs) (.int .i64 fp) (.slice bb mm dd))
          replace KB := Lib.hid (below_set3 KB.out zG.out (.int .i64 fs) (.int .i64 fp) (.slice bb mm dd))
          obtain ⟨V9, hV9⟩ : ∃ V, V = (((uF.setCell ⟨u1.heap.size, 0, none⟩ (.int .i64 fs)).setCell ⟨u1.heap.size, 1, none⟩ (.int .i64 fp)).setCell ⟨u1.heap.size, 2, none⟩ (.slice bb mm dd)) := ⟨_, rfl⟩
          rw [← hV9] at Z P KB ⊢
          clear hV9
          refine hK.out _ _ ?_ (fun hHeld => ?_)
          ·first | with_reducible exact SH.out _ KB.out | with_reducible exact SZ.out _ KB.out _ zG.out _ _ _
          clear hK K
          try simp only [Act.put, List.setIfInBounds_toArray, List.set_cons_zero, List.set_cons_succ]
          refine wpAnyH_ready (rs := [10]) (by kernel_rfl) (by simp) ?_
          refine AllReadyH.cons (o := { dst := some 16, op := Op.assign (Operand.tmp 101), type := 2, pos := "exact.go:2161", after := #[{ on := 7, ground := Ground.data }, { on := 9, ground := Ground.chain }, { on := 0, ground := Ground.phase }, { on := 1, ground := Ground.phase }, { on := 2, ground := Ground.phase }, { on := 3, ground := Ground.phase }, { on := 4, ground := Ground.phase }, { on := 5, ground := Ground.phase }, { on := 6, ground := Ground.phase }, { on := 7, ground := Ground.phase }, { on := 8, ground := Ground.phase }, { on := 9, ground := Ground.phase }], guard := none }) rfl (fun K hK => ?_) ?_
          ·go_simp
           refine hK.out _ _ ?_ (fun hHeld => ?_)
           ·first | with_reducible exact SH.out _ KB.out | with_reducible exact SZ.out _ KB.out _ zG.out _ _ _
           clear hK K
           try simp only [Act.put, List.setIfInBounds_toArray, List.set_cons_zero, List.set_cons_succ]
           refine wpAnyH_done (by kernel_rfl) ?_ _
           go_wp2_with fail
           go_meet
           exact ⟨_, _, _, _, rfl, rfl, hlF, zG.out, Z.out, P.out.within, KB.out⟩
          exact AllReadyH.nil
         exact AllReadyH.nil
        exact AllReadyH.nil
       exact AllReadyH.nil
      refine AllReadyH.cons (o := { dst := some 15, op := Op.alloc 28, type := 0, pos := "exact.go:2161", after := #[], guard := none }) rfl (fun K hK => ?_) ?_
      ·go_simp
       replace O0 : Hid (OwnA v12.heap.size (u0.alloc (.cells #[.int .i64 0, .int .i64 0, .slice none 0 0] 28)) x0 y0 z0 rs0) := Lib.hid (O0.out.alloc (.cells #[.int .i64 0, .int .i64 0, .slice none 0 0] 28))
       have Z : Hid (At3 (u0.alloc (.cells #[.int .i64 0, .int .i64 0, .slice none 0 0] 28)) (u0.heap.size) (.int .i64 0) (.int .i64 0) (.slice none 0 0)) := Lib.hid ((At3.place u0 (.int .i64 0) (.int .i64 0) (.slice none 0 0) 28 (u0.heap.size) (by simp)))
       have zG : Hid (v12.heap.size ≤ u0.heap.size) := Lib.hid (by first | exact Nat.le_refl _ | exact KB.out.size)
       replace KB : Hid (Below v12.heap.size v12 (u0.alloc (.cells #[.int .i64 0, .int .i64 0, .slice none 0 0] 28))) := Lib.hid (KB.out.alloc KB.out.size (.cells #[.int .i64 0, .int .i64 0, .slice none 0 0] 28))
       obtain ⟨V8, hV8⟩ : ∃ V, V = (u0.alloc (.cells #[.int .i64 0, .int .i64 0, .slice none 0 0] 28)) := ⟨_, rfl⟩
       rw [← hV8] at KB O0 Z ⊢
       clear hV8
       refine hK.out _ _ ?_ (fun hHeld => ?_)
       ·first | with_reducible exact SH.out _ KB.out | with_reducible exact SZ.out _ KB.out _ zG.out _ _ _
       clear hK K
       try simp only [Act.put, List.setIfInBounds_toArray, List.set_cons_zero, List.set_cons_succ]
       refine wpAnyH_ready (rs := [3]) (by kernel_rfl) (by simp) ?_
       refine AllReadyH.cons (o := { dst := some 98, op := Op.call { callee := Callee.value (Operand.func 22), args := #[Operand.tmp 97], argTypes := #[43] }, type := 28, pos := "exact.go:2161", after := #[{ on := 2, ground := Ground.data }, { on := 1, ground := Ground.chain }], guard := none }) rfl (fun K hK => ?_) ?_
       ·go_simp
        refine (toNormal_any _ _ _ _ _ rs1 _ (R1.out.1.below KB.out) h21).mono ?_
        rintro e u1 ⟨x1, y1, z1, rfl, ho, gg⟩
        replace O0 := Lib.hid (O0.out.below gg)
        replace Z := Lib.hid (Z.out.below gg)
        have O1 : Hid (OwnA v12.heap.size u1 x1 y1 z1 rs1) := Lib.hid (ho.mono KB.out.size)
        replace KB := Lib.hid (below_go KB.out gg KB.out.size)
        clear ho gg
        go_wp2_with fail
        refine hK.out _ _ ?_ (fun hHeld => ?_)
        ·first | with_reducible exact SH.out _ KB.out | with_reducible exact SZ.out _ KB.out _ zG.out _ _ _
        clear hK K
        try simp only [Act.put, List.setIfInBounds_toArray, List.set_cons_zero, List.set_cons_succ]
        refine wpAnyH_ready (rs := [4]) (by kernel_rfl) (by simp) ?_
        refine AllReadyH.cons (o := { dst := some 99, op := Op.call { callee := Callee.value (Operand.func 23), args := #[Operand.tmp 96, Operand.tmp 98], argTypes := #[28, 28] }, type := 29, pos := "exact.go:2161", after := #[{ on := 1, ground := Ground.data }, { on := 3, ground := Ground.data }, { on := 3, ground := Ground.chain }], guard := none }) rfl (fun K hK => ?_) ?_
        ·go_simp
         refine (implConj_any s0 p0 _ _ _ rs0 s1 p1 _ _ _ rs1 _ O0.out.reads HY0.out (by have := O0.out.len; have := R0.out.1.len; omega) O1.out.reads HY1.out (by have := O1.out.len; have := R1.out.1.len; omega) _ _ _ _ HM.out).mono ?_
         rintro e uF ⟨bb, mm, dd, rfl, hlF, ho, gg⟩
         have PA := Lib.hid (ho.apart (g := u0.heap.size) Z.out.1)
         replace O0 := Lib.hid (O0.out.below gg)
         replace O1 := Lib.hid (O1.out.below gg)
         replace Z := Lib.hid (Z.out.below gg)
         have P : Hid (OwnS v12.heap.size uF bb mm frs) := Lib.hid (ho.mono KB.out.size)
         replace KB := Lib.hid (below_go KB.out gg KB.out.size)
         clear ho gg
         go_wp2_with fail
         refine hK.out _ _ ?_ (fun hHeld => ?_)
         ·first | with_reducible exact SH.out _ KB.out | with_reducible exact SZ.out _ KB.out _ zG.out _ _ _
         clear hK K
         try simp only [Act.put, List.setIfInBounds_toArray, List.set_cons_zero, List.set_cons_succ]
         refine wpAnyH_take (i := 5) (oi := { dst := some 94, op := Op.move (Operand.tmp 99), type := 29, pos := "exact.go:2161", after := #[{ on := 4, ground := Ground.data }], guard := none }) (v := ?_) rfl (by kernel_rfl) (by kernel_rfl) (by kernel_rfl) (fun _ _ _ h => h) (Or.inl ⟨by rfl, ?_⟩) (by assumption) ?_
         rotate_left
         ·intro w hSw
          (try dsimp only at hSw)
          go_simp
          try with_reducible rfl
         try simp only [Act.put, List.setIfInBounds_toArray, List.set_cons_zero, List.set_cons_succ]
         refine wpAnyH_take (i := 6) (oi := { dst := some 100, op := Op.extract (Operand.tmp 94) 0, type := 28, pos := "exact.go:2161", after := #[{ on := 5, ground := Ground.data }], guard := none }) (v := ?_) rfl (by kernel_rfl) (by kernel_rfl) (by kernel_rfl) (fun _ _ _ h => h) (Or.inl ⟨by rfl, ?_⟩) (by assumption) ?_
         rotate_left
         ·intro w hSw
          (try dsimp only at hSw)
          go_simp
          try with_reducible rfl
         try simp only [Act.put, List.setIfInBounds_toArray, List.set_cons_zero, List.set_cons_succ]
         refine wpAnyH_take (i := 7) (oi := { dst := some 101, op := Op.extract (Operand.tmp 94) 1, type := 2, pos := "exact.go:2161", after := #[{ on := 5, ground := Ground.data }, { on := 9, ground := Ground.gcOnly Departure.lateStores }], guard := none }) (v := ?_) rfl (by kernel_rfl) (by kernel_rfl) (by kernel_rfl) (fun _ _ _ h => h) (Or.inl ⟨by rfl, ?_⟩) (by assumption) ?_
         rotate_left
         ·intro w hSw
          (try dsimp only at hSw)
          go_simp
          try with_reducible rfl
         try simp only [Act.put, List.setIfInBounds_toArray, List.set_cons_zero, List.set_cons_succ]
         refine wpAnyH_ready (rs := [9]) (by kernel_rfl) (by simp) ?_
         refine AllReadyH.cons (o := { dst := none, op := Op.store 28 (Operand.tmp 15) (Operand.tmp 100), type := 0, pos := "exact.go:2161", after := #[{ on := 8, ground := Ground.data }, { on := 6, ground := Ground.data }, { on := 4, ground := Ground.chain }, { on := 0, ground := Ground.phase }, { on := 1, ground := Ground.phase }, { on := 2, ground := Ground.phase }, { on := 3, ground := Ground.phase }, { on := 4, ground := Ground.phase }, { on := 5, ground := Ground.phase }, { on := 6, ground := Ground.phase }, { on := 7, ground := Ground.textOnly Departure.lateStores }, { on := 8, ground := Ground.phase }], guard := none }) rfl (fun K hK => ?_) ?_
         ·obtain ⟨y0, ⟨y1, y2, y3⟩, y4, y5, y6⟩ := Z.out
          go_simp
          clear y0 y1 y2 y3 y4 y5 y6
          replace Z := Lib.hid (Z.out.fill (.int .i64 fs) (.int .i64 fp) (.slice bb mm dd))
          replace P := Lib.hid (P.out.past3 PA.out (.int .i64 fs) (.int .i64 fp) (.slice bb mm dd))
          replace KB := Lib.hid (below_set3 KB.out zG.out (.int .i64 fs) (.int .i64 fp) (.slice bb mm dd))
          obtain ⟨V9, hV9⟩ : ∃ V, V = (((uF.setCell ⟨u0.heap.size, 0, none⟩ (.int .i64 fs)).setCell ⟨u0.heap.size, 1, none⟩ (.int .i64 fp)).setCell ⟨u0.heap.size, 2, none⟩ (.slice bb mm dd)) := ⟨_, rfl⟩
          rw [← hV9] at Z P KB ⊢
          clear hV9
          refine hK.out _ _ ?_ (fun hHeld => ?_)
          ·first | with_reducible exact SH.out _ KB.out | with_reducible exact SZ.out _ KB.out _ zG.out _ _ _
          clear hK K
          try simp only [Act.put, List.setIfInBounds_toArray, List.set_cons_zero, List.set_cons_succ]
          refine wpAnyH_ready (rs := [10]) (by kernel_rfl) (by simp) ?_
          refine AllReadyH.cons (o := { dst := some 16, op := Op.assign (Operand.tmp 101), type := 2, pos := "exact.go:2161", after := #[{ on := 7, ground := Ground.data }, { on := 9, ground := Ground.chain }, { on := 0, ground := Ground.phase }, { on := 1, ground := Ground.phase }, { on := 2, ground := Ground.phase }, { on := 3, ground := Ground.phase }, { on := 4, ground := Ground.phase }, { on := 5, ground := Ground.phase }, { on := 6, ground := Ground.phase }, { on := 7, ground := Ground.phase }, { on := 8, ground := Ground.phase }, { on := 9, ground := Ground.phase }], guard := none }) rfl (fun K hK => ?_) ?_
          ·go_simp
           refine hK.out _ _ ?_ (fun hHeld => ?_)
           ·first | with_reducible exact SH.out _ KB.out | with_reducible exact SZ.out _ KB.out _ zG.out _ _ _
           clear hK K
           try simp only [Act.put, List.setIfInBounds_toArray, List.set_cons_zero, List.set_cons_succ]
           refine wpAnyH_done (by kernel_rfl) ?_ _
           go_wp2_with fail
           go_meet
           exact ⟨_, _, _, _, rfl, rfl, hlF, zG.out, Z.out, P.out.within, KB.out⟩
          exact AllReadyH.nil
         exact AllReadyH.nil
        exact AllReadyH.nil
       exact AllReadyH.nil
      exact AllReadyH.nil
     refine AllReadyH.cons (o := { dst := some 15, op := Op.alloc 28, type := 0, pos := "exact.go:2161", after := #[], guard := none }) rfl (fun K hK => ?_) ?_
     ·go_simp
      have Z : Hid (At3 (v12.alloc (.cells #[.int .i64 0, .int .i64 0, .slice none 0 0] 28)).drew (v12.heap.size) (.int .i64 0) (.int .i64 0) (.slice none 0 0)) := Lib.hid ((At3.place v12 (.int .i64 0) (.int .i64 0) (.slice none 0 0) 28 (v12.heap.size) (by simp)).drew)
      have zG : Hid (v12.heap.size ≤ v12.heap.size) := Lib.hid (by first | exact Nat.le_refl _ | exact KB.out.size)
      replace KB : Hid (Below v12.heap.size v12 (v12.alloc (.cells #[.int .i64 0, .int .i64 0, .slice none 0 0] 28)).drew) := Lib.hid (KB.out.alloc KB.out.size (.cells #[.int .i64 0, .int .i64 0, .slice none 0 0] 28))
      refine hK.out _ _ ?_ (fun hHeld => ?_)
      ·first | with_reducible exact SH.out _ KB.out | with_reducible exact SZ.out _ KB.out _ zG.out _ _ _
      clear hK K
      try simp only [Act.put, List.setIfInBounds_toArray, List.set_cons_zero, List.set_cons_succ]
      refine wpAnyH_ready (rs := [1]) (by kernel_rfl) (by simp) ?_
      refine AllReadyH.cons (o := { dst := some 96, op := Op.call { callee := Callee.value (Operand.func 22), args := #[Operand.tmp 95], argTypes := #[43] }, type := 28, pos := "exact.go:2161", after := #[{ on := 0, ground := Ground.data }], guard := none }) rfl (fun K hK => ?_) ?_
      ·go_simp
       refine (toNormal_any _ _ _ _ _ rs0 _ (R0.out.1.below KB.out) h20).mono ?_
       rintro e u0 ⟨x0, y0, z0, rfl, ho, gg⟩
       replace Z := Lib.hid (Z.out.below gg)
       have O0 : Hid (OwnA v12.heap.size u0 x0 y0 z0 rs0) := Lib.hid (ho.mono KB.out.size)
       replace KB := Lib.hid (below_go KB.out gg KB.out.size)
       clear ho gg
       go_wp2_with fail
       refine hK.out _ _ ?_ (fun hHeld => ?_)
       ·first | with_reducible exact SH.out _ KB.out | with_reducible exact SZ.out _ KB.out _ zG.out _ _ _
       clear hK K
       try simp only [Act.put, List.setIfInBounds_toArray, List.set_cons_zero, List.set_cons_succ]
       refine wpAnyH_ready (rs := [3]) (by kernel_rfl) (by simp) ?_
       refine AllReadyH.cons (o := { dst := some 98, op := Op.call { callee := Callee.value (Operand.func 22), args := #[Operand.tmp 97], argTypes := #[43] }, type := 28, pos := "exact.go:2161", after := #[{ on := 2, ground := Ground.data }, { on := 1, ground := Ground.chain }], guard := none }) rfl (fun K hK => ?_) ?_
       ·go_simp
        refine (toNormal_any _ _ _ _ _ rs1 _ (R1.out.1.below KB.out) h21).mono ?_
        rintro e u1 ⟨x1, y1, z1, rfl, ho, gg⟩
        replace O0 := Lib.hid (O0.out.below gg)
        replace Z := Lib.hid (Z.out.below gg)
        have O1 : Hid (OwnA v12.heap.size u1 x1 y1 z1 rs1) := Lib.hid (ho.mono KB.out.size)
        replace KB := Lib.hid (below_go KB.out gg KB.out.size)
        clear ho gg
        go_wp2_with fail
        refine hK.out _ _ ?_ (fun hHeld => ?_)
        ·first | with_reducible exact SH.out _ KB.out | with_reducible exact SZ.out _ KB.out _ zG.out _ _ _
        clear hK K
        try simp only [Act.put, List.setIfInBounds_toArray, List.set_cons_zero, List.set_cons_succ]
        refine wpAnyH_ready (rs := [4]) (by kernel_rfl) (by simp) ?_
        refine AllReadyH.cons (o := { dst := some 99, op := Op.call { callee := Callee.value (Operand.func 23), args := #[Operand.tmp 96, Operand.tmp 98], argTypes := #[28, 28] }, type := 29, pos := "exact.go:2161", after := #[{ on := 1, ground := Ground.data }, { on := 3, ground := Ground.data }, { on := 3, ground := Ground.chain }], guard := none }) rfl (fun K hK => ?_) ?_
        ·go_simp
         refine (implConj_any s0 p0 _ _ _ rs0 s1 p1 _ _ _ rs1 _ O0.out.reads HY0.out (by have := O0.out.len; have := R0.out.1.len; omega) O1.out.reads HY1.out (by have := O1.out.len; have := R1.out.1.len; omega) _ _ _ _ HM.out).mono ?_
         rintro e uF ⟨bb, mm, dd, rfl, hlF, ho, gg⟩
         have PA := Lib.hid (ho.apart (g := v12.heap.size) Z.out.1)
         replace O0 := Lib.hid (O0.out.below gg)
         replace O1 := Lib.hid (O1.out.below gg)
         replace Z := Lib.hid (Z.out.below gg)
         have P : Hid (OwnS v12.heap.size uF bb mm frs) := Lib.hid (ho.mono KB.out.size)
         replace KB := Lib.hid (below_go KB.out gg KB.out.size)
         clear ho gg
         go_wp2_with fail
         refine hK.out _ _ ?_ (fun hHeld => ?_)
         ·first | with_reducible exact SH.out _ KB.out | with_reducible exact SZ.out _ KB.out _ zG.out _ _ _
         clear hK K
         try simp only [Act.put, List.setIfInBounds_toArray, List.set_cons_zero, List.set_cons_succ]
         refine wpAnyH_take (i := 5) (oi := { dst := some 94, op := Op.move (Operand.tmp 99), type := 29, pos := "exact.go:2161", after := #[{ on := 4, ground := Ground.data }], guard := none }) (v := ?_) rfl (by kernel_rfl) (by kernel_rfl) (by kernel_rfl) (fun _ _ _ h => h) (Or.inl ⟨by rfl, ?_⟩) (by assumption) ?_
         rotate_left
         ·intro w hSw
          (try dsimp only at hSw)
          go_simp
          try with_reducible rfl
         try simp only [Act.put, List.setIfInBounds_toArray, List.set_cons_zero, List.set_cons_succ]
         refine wpAnyH_take (i := 6) (oi := { dst := some 100, op := Op.extract (Operand.tmp 94) 0, type := 28, pos := "exact.go:2161", after := #[{ on := 5, ground := Ground.data }], guard := none }) (v := ?_) rfl (by kernel_rfl) (by kernel_rfl) (by kernel_rfl) (fun _ _ _ h => h) (Or.inl ⟨by rfl, ?_⟩) (by assumption) ?_
         rotate_left
         ·intro w hSw
          (try dsimp only at hSw)
          go_simp
          try with_reducible rfl
         try simp only [Act.put, List.setIfInBounds_toArray, List.set_cons_zero, List.set_cons_succ]
         refine wpAnyH_take (i := 7) (oi := { dst := some 101, op := Op.extract (Operand.tmp 94) 1, type := 2, pos := "exact.go:2161", after := #[{ on := 5, ground := Ground.data }, { on := 9, ground := Ground.gcOnly Departure.lateStores }], guard := none }) (v := ?_) rfl (by kernel_rfl) (by kernel_rfl) (by kernel_rfl) (fun _ _ _ h => h) (Or.inl ⟨by rfl, ?_⟩) (by assumption) ?_
         rotate_left
         ·intro w hSw
          (try dsimp only at hSw)
          go_simp
          try with_reducible rfl
         try simp only [Act.put, List.setIfInBounds_toArray, List.set_cons_zero, List.set_cons_succ]
         refine wpAnyH_ready (rs := [9]) (by kernel_rfl) (by simp) ?_
         refine AllReadyH.cons (o := { dst := none, op := Op.store 28 (Operand.tmp 15) (Operand.tmp 100), type := 0, pos := "exact.go:2161", after := #[{ on := 8, ground := Ground.data }, { on := 6, ground := Ground.data }, { on := 4, ground := Ground.chain }, { on := 0, ground := Ground.phase }, { on := 1, ground := Ground.phase }, { on := 2, ground := Ground.phase }, { on := 3, ground := Ground.phase }, { on := 4, ground := Ground.phase }, { on := 5, ground := Ground.phase }, { on := 6, ground := Ground.phase }, { on := 7, ground := Ground.textOnly Departure.lateStores }, { on := 8, ground := Ground.phase }], guard := none }) rfl (fun K hK => ?_) ?_
         ·obtain ⟨y0, ⟨y1, y2, y3⟩, y4, y5, y6⟩ := Z.out
          go_simp
          clear y0 y1 y2 y3 y4 y5 y6
          replace Z := Lib.hid (Z.out.fill (.int .i64 fs) (.int .i64 fp) (.slice bb mm dd))
          replace P := Lib.hid (P.out.past3 PA.out (.int .i64 fs) (.int .i64 fp) (.slice bb mm dd))
          replace KB := Lib.hid (below_set3 KB.out zG.out (.int .i64 fs) (.int .i64 fp) (.slice bb mm dd))
          obtain ⟨V9, hV9⟩ : ∃ V, V = (((uF.setCell ⟨v12.heap.size, 0, none⟩ (.int .i64 fs)).setCell ⟨v12.heap.size, 1, none⟩ (.int .i64 fp)).setCell ⟨v12.heap.size, 2, none⟩ (.slice bb mm dd)) := ⟨_, rfl⟩
          rw [← hV9] at Z P KB ⊢
          clear hV9
          refine hK.out _ _ ?_ (fun hHeld => ?_)
          ·first | with_reducible exact SH.out _ KB.out | with_reducible exact SZ.out _ KB.out _ zG.out _ _ _
          clear hK K
          try simp only [Act.put, List.setIfInBounds_toArray, List.set_cons_zero, List.set_cons_succ]
          refine wpAnyH_ready (rs := [10]) (by kernel_rfl) (by simp) ?_
          refine AllReadyH.cons (o := { dst := some 16, op := Op.assign (Operand.tmp 101), type := 2, pos := "exact.go:2161", after := #[{ on := 7, ground := Ground.data }, { on := 9, ground := Ground.chain }, { on := 0, ground := Ground.phase }, { on := 1, ground := Ground.phase }, { on := 2, ground := Ground.phase }, { on := 3, ground := Ground.phase }, { on := 4, ground := Ground.phase }, { on := 5, ground := Ground.phase }, { on := 6, ground := Ground.phase }, { on := 7, ground := Ground.phase }, { on := 8, ground := Ground.phase }, { on := 9, ground := Ground.phase }], guard := none }) rfl (fun K hK => ?_) ?_
          ·go_simp
           refine hK.out _ _ ?_ (fun hHeld => ?_)
           ·first | with_reducible exact SH.out _ KB.out | with_reducible exact SZ.out _ KB.out _ zG.out _ _ _
           clear hK K
           try simp only [Act.put, List.setIfInBounds_toArray, List.set_cons_zero, List.set_cons_succ]
           refine wpAnyH_done (by kernel_rfl) ?_ _
           go_wp2_with fail
           go_meet
           exact ⟨_, _, _, _, rfl, rfl, hlF, zG.out, Z.out, P.out.within, KB.out⟩
          exact AllReadyH.nil
         exact AllReadyH.nil
        exact AllReadyH.nil
       exact AllReadyH.nil
      exact AllReadyH.nil
     exact AllReadyH.nil
    case rest =>
     obtain ⟨v13, hwc⟩ : ∃ x, x = wc := ⟨_, rfl⟩; subst hwc
     obtain ⟨g13, b13, m13, d13, rfl, rfl, hl13, hg13, hW, hP, hb⟩ := hcut
     replace R0 := Lib.hid (R0.out.below hb)
     replace R1 := Lib.hid (R1.out.below hb)
     replace A0 := Lib.hid (A0.out.below hb)
     replace A1 := Lib.hid (A1.out.below hb)
     replace P3 := Lib.hid (P3.out.below hb)
     replace W := Lib.hid (W.out.below hb)
     replace X0 := Lib.hid (X0.out.below hb)
     replace X1 := Lib.hid (X1.out.below hb)
     replace P6 := Lib.hid (P6.out.below hb)
     replace G := Lib.hid (G.out.below hb)
     replace B := Lib.hid (below_go B.out hb B.out.size)
     have z13 : v12.heap.size ≤ v13.heap.size := hb.size
     have zz13 : g13 < v13.heap.size := hW.1
     have H := Lib.hid hW; have P13 := Lib.hid hP; clear hW hP hb
     obtain ⟨qA01, qA02, qA03⟩ := A0.out.cells
     obtain ⟨qA11, qA12, qA13⟩ := A1.out.cells
     obtain ⟨qW1, qW2, qW3⟩ := W.out.cells
     obtain ⟨qX01, qX02, qX03⟩ := X0.out.cells
     obtain ⟨qX11, qX12, qX13⟩ := X1.out.cells
     obtain ⟨qG1, qG2, qG3⟩ := G.out.cells
     obtain ⟨qH1, qH2, qH3⟩ := H.out.cells
     go_wp2_with fail
     refine (eqNormal_yesn _ _ _ _ _ _ _ _ frs _ P13.out.reads P3.out.reads hl13).mono ?_
     rintro e v14 ⟨rfl, hb⟩
     clear qA01 qA02 qA03 qA11 qA12 qA13 qW1 qW2 qW3 qX01 qX02 qX03 qX11 qX12 qX13 qG1 qG2 qG3 qH1 qH2 qH3
     replace R0 := Lib.hid (R0.out.below hb)
     replace R1 := Lib.hid (R1.out.below hb)
     replace A0 := Lib.hid (A0.out.below hb)
     replace A1 := Lib.hid (A1.out.below hb)
     replace P3 := Lib.hid (P3.out.below hb)
     replace W := Lib.hid (W.out.below hb)
     replace X0 := Lib.hid (X0.out.below hb)
     replace X1 := Lib.hid (X1.out.below hb)
     replace P6 := Lib.hid (P6.out.below hb)
     replace G := Lib.hid (G.out.below hb)
     replace P13 := Lib.hid (P13.out.below hb)
     replace H := Lib.hid (H.out.below hb)
     replace B := Lib.hid (below_go B.out hb B.out.size)
     have z14 : v13.heap.size + 0 ≤ v14.heap.size := by have := hb.size; (try simp at this); omega
     clear hb
     obtain ⟨qA01, qA02, qA03⟩ := A0.out.cells
     obtain ⟨qA11, qA12, qA13⟩ := A1.out.cells
     obtain ⟨qW1, qW2, qW3⟩ := W.out.cells
     obtain ⟨qX01, qX02, qX03⟩ := X0.out.cells
     obtain ⟨qX11, qX12, qX13⟩ := X1.out.cells
     obtain ⟨qG1, qG2, qG3⟩ := G.out.cells
     obtain ⟨qH1, qH2, qH3⟩ := H.out.cells
     go_wp2_with fail
     refine (heldNormal_any _ _ _ _ _ _ _ P6.out.reads hl6 (by omega) (by omega)).mono ?_
     rintro e v15 ⟨rfl, hb⟩
     clear qA01 qA02 qA03 qA11 qA12 qA13 qW1 qW2 qW3 qX01 qX02 qX03 qX11 qX12 qX13 qG1 qG2 qG3 qH1 qH2 qH3
     replace R0 := Lib.hid (R0.out.below hb)
     replace R1 := Lib.hid (R1.out.below hb)
     replace A0 := Lib.hid (A0.out.below hb)
     replace A1 := Lib.hid (A1.out.below hb)
     replace P3 := Lib.hid (P3.out.below hb)
     replace W := Lib.hid (W.out.below hb)
     replace X0 := Lib.hid (X0.out.below hb)
     replace X1 := Lib.hid (X1.out.below hb)
     replace P6 := Lib.hid (P6.out.below hb)
     replace G := Lib.hid (G.out.below hb)
     replace P13 := Lib.hid (P13.out.below hb)
     replace H := Lib.hid (H.out.below hb)
     replace B := Lib.hid (below_go B.out hb B.out.size)
     have z15 : v14.heap.size + 0 ≤ v15.heap.size := by have := hb.size; (try simp at this); omega
     clear hb
     go_wp2
     go_ret
     exact ⟨rfl, B.out⟩
  ·skip
   have h0 : (1048576 : Int) - (n0 : Int) < (n1 : Int) := by omega
   go_enter Try.func5, Try.ntmps5
   have A0 := Lib.hid ((At3.place w (.int .i64 s0) (.int .i64 p0) (.slice a0 n0 cap0) 43 (w.heap.size) (by simp)).alloc (.cells #[.int .i64 s1, .int .i64 p1, .slice a1 n1 cap1] 43))
   replace R0 := Lib.hid ((R0.out.alloc (.cells #[.int .i64 s0, .int .i64 p0, .slice a0 n0 cap0] 43)).alloc (.cells #[.int .i64 s1, .int .i64 p1, .slice a1 n1 cap1] 43))
   have A1 := Lib.hid (At3.place (w.alloc (.cells #[.int .i64 s0, .int .i64 p0, .slice a0 n0 cap0] 43)) (.int .i64 s1) (.int .i64 p1) (.slice a1 n1 cap1) 43 (w.heap.size + 1) (by simp))
   replace R1 := Lib.hid ((R1.out.alloc (.cells #[.int .i64 s0, .int .i64 p0, .slice a0 n0 cap0] 43)).alloc (.cells #[.int .i64 s1, .int .i64 p1, .slice a1 n1 cap1] 43))
   have B := Lib.hid ((below1 w (.cells #[.int .i64 s0, .int .i64 p0, .slice a0 n0 cap0] 43)).alloc (by simp; try omega) (.cells #[.int .i64 s1, .int .i64 p1, .slice a1 n1 cap1] 43))
   obtain ⟨qA01, qA02, qA03⟩ := A0.out.cells
   obtain ⟨qA11, qA12, qA13⟩ := A1.out.cells
   go_wp2_with fail
   refine (szNormal_fit _ _ _ _ _ 1048576 _ (by omega) (by omega)).mono ?_
   rintro e w1 ⟨rfl, hb1⟩
   clear qA01 qA02 qA03 qA11 qA12 qA13
   replace A0 := Lib.hid (A0.out.below hb1)
   replace A1 := Lib.hid (A1.out.below hb1)
   replace B := Lib.hid (below_go B.out hb1 B.out.size)
   obtain ⟨qA01, qA02, qA03⟩ := A0.out.cells
   obtain ⟨qA11, qA12, qA13⟩ := A1.out.cells
   go_wp2_with fail
   refine (szNormal_big _ _ _ _ _ _ _ h0 (by omega) hn1).mono ?_
   rintro e w2 ⟨rfl, hb2⟩
   replace B := Lib.hid (below_go B.out hb2 B.out.size)
   go_wp2
   go_ret
   exact ⟨rfl, B.out⟩
 ·skip
  have h0 : (1048576 : Int) < (n0 : Int) := by omega
  go_enter Try.func5, Try.ntmps5
  have A0 := Lib.hid ((At3.place w (.int .i64 s0) (.int .i64 p0) (.slice a0 n0 cap0) 43 (w.heap.size) (by simp)).alloc (.cells #[.int .i64 s1, .int .i64 p1, .slice a1 n1 cap1] 43))
  replace R0 := Lib.hid ((R0.out.alloc (.cells #[.int .i64 s0, .int .i64 p0, .slice a0 n0 cap0] 43)).alloc (.cells #[.int .i64 s1, .int .i64 p1, .slice a1 n1 cap1] 43))
  have A1 := Lib.hid (At3.place (w.alloc (.cells #[.int .i64 s0, .int .i64 p0, .slice a0 n0 cap0] 43)) (.int .i64 s1) (.int .i64 p1) (.slice a1 n1 cap1) 43 (w.heap.size + 1) (by simp))
  replace R1 := Lib.hid ((R1.out.alloc (.cells #[.int .i64 s0, .int .i64 p0, .slice a0 n0 cap0] 43)).alloc (.cells #[.int .i64 s1, .int .i64 p1, .slice a1 n1 cap1] 43))
  have B := Lib.hid ((below1 w (.cells #[.int .i64 s0, .int .i64 p0, .slice a0 n0 cap0] 43)).alloc (by simp; try omega) (.cells #[.int .i64 s1, .int .i64 p1, .slice a1 n1 cap1] 43))
  obtain ⟨qA01, qA02, qA03⟩ := A0.out.cells
  obtain ⟨qA11, qA12, qA13⟩ := A1.out.cells
  go_wp2_with fail
  refine (szNormal_big _ _ _ _ _ _ _ h0 (by omega) hn0).mono ?_
  rintro e w1 ⟨rfl, hb1⟩
  replace B := Lib.hid (below_go B.out hb1 B.out.size)
  go_wp2
  go_ret
  exact ⟨rfl, B.out⟩
end Go.Proofs.Ytleoohplnkdbdab

