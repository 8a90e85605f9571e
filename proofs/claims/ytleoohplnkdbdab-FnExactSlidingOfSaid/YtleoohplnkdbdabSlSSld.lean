/- The model: sliding. -/
import Derived.Test.YtleoohplnkdbdabSlPQ
import Derived.Test.YtleoohplnkdbdabSlSDec
import Derived.Test.YtleoohplnkdbdabSlSTim
namespace Go.Proofs.Ytleoohplnkdbdab
open Go.RowKit Go.ChangeShapes

set_option maxRecDepth 100000 in
set_option maxHeartbeats 1000000 in
theorem l03Less_any (m : Nat) (m1 : 1 ≤ m) (m8 : m ≤ 8) (p : Int) (hp : -100000 ≤ p ∧ p ≤ 100000) (a : Option Addr) (n cap : Nat) (l : List (List Int)) (s : List Int) (w : World) (hr : ReadsA w a n l) (hl : Sims m l) (hss : Sim m s) (hn : n ≤ 50000) (e : Int) (kf : List (List Int)) (hM : lessN m p l s = (e, kf)) :
  Calls Try.prog 119 #[.agg #[.int .i64 m, .int .i64 p, .slice a n cap], arr8 .u8 s] w (RetNormal w m e kf) := by
 obtain ⟨i0, hi, hz0, hz1, hz2⟩ := info_parts infoSimple
 have HN := Lib.hid hr.len
 have HRR := Lib.hid hr
 have HL := Lib.hid hl
 have SS := Lib.hid hss
 have S8 := Lib.hid hss.len
 clear hl hr hss
 have HM : Hid (mkN m (p - 1) (turnK m p (leftR m s) :: l) = (e, kf)) := Lib.hid hM
 have SL := Lib.hid (leftR_sim SS.out)
 have L8 := Lib.hid SL.out.len
 clear hM
 go_enter Try.func119, Try.ntmps119
 have A := Lib.hid (((At3.place w (.int .i64 m) (.int .i64 p) (.slice a n cap) 28 w.heap.size rfl).alloc (.cells #[.int .u8 (at8 s 0), .int .u8 (at8 s 1), .int .u8 (at8 s 2), .int .u8 (at8 s 3), .int .u8 (at8 s 4), .int .u8 (at8 s 5), .int .u8 (at8 s 6), .int .u8 (at8 s 7)] 54)).alloc (.cells #[.int .i64 0, .int .i64 0, .slice none 0 0] 28))
 have X := Lib.hid ((Row8.place (w.alloc (.cells #[.int .i64 m, .int .i64 p, .slice a n cap] 28)) .u8 s 54 (w.heap.size + 1) (by simp) S8.out).alloc (.cells #[.int .i64 0, .int .i64 0, .slice none 0 0] 28))
 have Z := Lib.hid (At3.place ((w.alloc (.cells #[.int .i64 m, .int .i64 p, .slice a n cap] 28)).alloc (.cells #[.int .u8 (at8 s 0), .int .u8 (at8 s 1), .int .u8 (at8 s 2), .int .u8 (at8 s 3), .int .u8 (at8 s 4), .int .u8 (at8 s 5), .int .u8 (at8 s 6), .int .u8 (at8 s 7)] 54)) (.int .i64 0) (.int .i64 0) (.slice none 0 0) 28 (w.heap.size + 1 + 1) (by simp))
 have B := Lib.hid (((below1 w (.cells #[.int .i64 m, .int .i64 p, .slice a n cap] 28)).alloc (by simp) (.cells #[.int .u8 (at8 s 0), .int .u8 (at8 s 1), .int .u8 (at8 s 2), .int .u8 (at8 s 3), .int .u8 (at8 s 4), .int .u8 (at8 s 5), .int .u8 (at8 s 6), .int .u8 (at8 s 7)] 54)).alloc (by simp; omega) (.cells #[.int .i64 0, .int .i64 0, .slice none 0 0] 28))
 go_upto_region 1 with fail
 obtain ⟨W0, hW0⟩ : ∃ W0, W0 = (((w.alloc (.cells #[.int .i64 m, .int .i64 p, .slice a n cap] 28)).alloc (.cells #[.int .u8 (at8 s 0), .int .u8 (at8 s 1), .int .u8 (at8 s 2), .int .u8 (at8 s 3), .int .u8 (at8 s 4), .int .u8 (at8 s 5), .int .u8 (at8 s 6), .int .u8 (at8 s 7)] 54)).alloc (.cells #[.int .i64 0, .int .i64 0, .slice none 0 0] 28)) := ⟨_, rfl⟩
 have zz : Hid (W0.heap.size = w.heap.size + 1 + 1 + 1) := Lib.hid (by rw [hW0]; simp)
 rw [← hW0] at A X Z B ⊢
 clear hW0
 obtain ⟨q1, q2, q3⟩ := A.out.all
 have t0 := tmod_even p
 have hwp : IntKind.i64.wrap (p - 1) = p - 1 := IntWalk.i64_in _ (by omega)
 go_upto_region 2 with fail
 clear q1 q2 q3
 have KB : Hid (Below W0.heap.size W0 W0.drew) := Lib.hid (Below.refl W0.heap.size W0).drew
 have SH : Hid (∀ W, Below W0.heap.size W0 W → (W.cell? ⟨w.heap.size, 0, none⟩ = some (.int .i64 m) ∧ W.cell? ⟨w.heap.size, 1, none⟩ = some (.int .i64 p) ∧ W.cell? ⟨w.heap.size, 2, none⟩ = some (.slice a n cap)) ∧ (W.cell? ⟨w.heap.size + 1, 0, none⟩ = some (.int .u8 (at8 s 0)) ∧ W.cell? ⟨w.heap.size + 1, 1, none⟩ = some (.int .u8 (at8 s 1)) ∧ W.cell? ⟨w.heap.size + 1, 2, none⟩ = some (.int .u8 (at8 s 2)) ∧ W.cell? ⟨w.heap.size + 1, 3, none⟩ = some (.int .u8 (at8 s 3)) ∧ W.cell? ⟨w.heap.size + 1, 4, none⟩ = some (.int .u8 (at8 s 4)) ∧ W.cell? ⟨w.heap.size + 1, 5, none⟩ = some (.int .u8 (at8 s 5)) ∧ W.cell? ⟨w.heap.size + 1, 6, none⟩ = some (.int .u8 (at8 s 6)) ∧ W.cell? ⟨w.heap.size + 1, 7, none⟩ = some (.int .u8 (at8 s 7)))) := Lib.hid fun W h => ⟨(A.out.below h).all, (X.out.below h).flat⟩
 have SZ : Hid (∀ W, Below W0.heap.size W0 W → ∀ u v x, ((((W.setCell ⟨w.heap.size + 1 + 1, 0, none⟩ u).setCell ⟨w.heap.size + 1 + 1, 1, none⟩ v).setCell ⟨w.heap.size + 1 + 1, 2, none⟩ x).cell? ⟨w.heap.size, 0, none⟩ = some (.int .i64 m) ∧ (((W.setCell ⟨w.heap.size + 1 + 1, 0, none⟩ u).setCell ⟨w.heap.size + 1 + 1, 1, none⟩ v).setCell ⟨w.heap.size + 1 + 1, 2, none⟩ x).cell? ⟨w.heap.size, 1, none⟩ = some (.int .i64 p) ∧ (((W.setCell ⟨w.heap.size + 1 + 1, 0, none⟩ u).setCell ⟨w.heap.size + 1 + 1, 1, none⟩ v).setCell ⟨w.heap.size + 1 + 1, 2, none⟩ x).cell? ⟨w.heap.size, 2, none⟩ = some (.slice a n cap)) ∧ ((((W.setCell ⟨w.heap.size + 1 + 1, 0, none⟩ u).setCell ⟨w.heap.size + 1 + 1, 1, none⟩ v).setCell ⟨w.heap.size + 1 + 1, 2, none⟩ x).cell? ⟨w.heap.size + 1, 0, none⟩ = some (.int .u8 (at8 s 0)) ∧ (((W.setCell ⟨w.heap.size + 1 + 1, 0, none⟩ u).setCell ⟨w.heap.size + 1 + 1, 1, none⟩ v).setCell ⟨w.heap.size + 1 + 1, 2, none⟩ x).cell? ⟨w.heap.size + 1, 1, none⟩ = some (.int .u8 (at8 s 1)) ∧ (((W.setCell ⟨w.heap.size + 1 + 1, 0, none⟩ u).setCell ⟨w.heap.size + 1 + 1, 1, none⟩ v).setCell ⟨w.heap.size + 1 + 1, 2, none⟩ x).cell? ⟨w.heap.size + 1, 2, none⟩ = some (.int .u8 (at8 s 2)) ∧ (((W.setCell ⟨w.heap.size + 1 + 1, 0, none⟩ u).setCell ⟨w.heap.size + 1 + 1, 1, none⟩ v).setCell ⟨w.heap.size + 1 + 1, 2, none⟩ x).cell? ⟨w.heap.size + 1, 3, none⟩ = some (.int .u8 (at8 s 3)) ∧ (((W.setCell ⟨w.heap.size + 1 + 1, 0, none⟩ u).setCell ⟨w.heap.size + 1 + 1, 1, none⟩ v).setCell ⟨w.heap.size + 1 + 1, 2, none⟩ x).cell? ⟨w.heap.size + 1, 4, none⟩ = some (.int .u8 (at8 s 4)) ∧ (((W.setCell ⟨w.heap.size + 1 + 1, 0, none⟩ u).setCell ⟨w.heap.size + 1 + 1, 1, none⟩ v).setCell ⟨w.heap.size + 1 + 1, 2, none⟩ x).cell? ⟨w.heap.size + 1, 5, none⟩ = some (.int .u8 (at8 s 5)) ∧ (((W.setCell ⟨w.heap.size + 1 + 1, 0, none⟩ u).setCell ⟨w.heap.size + 1 + 1, 1, none⟩ v).setCell ⟨w.heap.size + 1 + 1, 2, none⟩ x).cell? ⟨w.heap.size + 1, 6, none⟩ = some (.int .u8 (at8 s 6)) ∧ (((W.setCell ⟨w.heap.size + 1 + 1, 0, none⟩ u).setCell ⟨w.heap.size + 1 + 1, 1, none⟩ v).setCell ⟨w.heap.size + 1 + 1, 2, none⟩ x).cell? ⟨w.heap.size + 1, 7, none⟩ = some (.int .u8 (at8 s 7)))) := Lib.hid fun W h u v x => ⟨((A.out.below h).set3 (g2 := w.heap.size + 1 + 1) (by omega) u v x).all, ((X.out.below h).set3 (g2 := w.heap.size + 1 + 1) (by omega) u v x).flat⟩
 refine wp_region_held_drew (S := (fun w' => (w'.cell? ⟨w.heap.size, 0, none⟩ = some (.int .i64 m) ∧ w'.cell? ⟨w.heap.size, 1, none⟩ = some (.int .i64 p) ∧ w'.cell? ⟨w.heap.size, 2, none⟩ = some (.slice a n cap)) ∧ (w'.cell? ⟨w.heap.size + 1, 0, none⟩ = some (.int .u8 (at8 s 0)) ∧ w'.cell? ⟨w.heap.size + 1, 1, none⟩ = some (.int .u8 (at8 s 1)) ∧ w'.cell? ⟨w.heap.size + 1, 2, none⟩ = some (.int .u8 (at8 s 2)) ∧ w'.cell? ⟨w.heap.size + 1, 3, none⟩ = some (.int .u8 (at8 s 3)) ∧ w'.cell? ⟨w.heap.size + 1, 4, none⟩ = some (.int .u8 (at8 s 4)) ∧ w'.cell? ⟨w.heap.size + 1, 5, none⟩ = some (.int .u8 (at8 s 5)) ∧ w'.cell? ⟨w.heap.size + 1, 6, none⟩ = some (.int .u8 (at8 s 6)) ∧ w'.cell? ⟨w.heap.size + 1, 7, none⟩ = some (.int .u8 (at8 s 7))))) (by kernel_rfl) ?_ (fun hHeld => ?_)
 ·first | with_reducible exact SH.out _ KB.out | with_reducible exact SZ.out _ KB.out _ _ _
 refine wpAnyH_take (i := 0) (oi := { dst := some 9, op := Op.load 54 (Operand.tmp 3), type := 54, pos := "l03_normal.go:284", after := #[], guard := none }) (v := ?_) rfl (by kernel_rfl) (by kernel_rfl) (by kernel_rfl) (fun _ _ _ h => h) (Or.inl ⟨by rfl, ?_⟩) (by assumption) ?_
 rotate_left
 ·intro w hSw
  (try dsimp only at hSw)
  go_simp
  try with_reducible rfl
 try simp only [Act.put, List.setIfInBounds_toArray, List.set_cons_zero, List.set_cons_succ]
 refine wpAnyH_take (i := 1) (oi := { dst := some 10, op := Op.move (Operand.tmp 5), type := 2, pos := "l03_normal.go:284", after := #[], guard := none }) (v := ?_) rfl (by kernel_rfl) (by kernel_rfl) (by kernel_rfl) (fun _ _ _ h => h) (Or.inl ⟨by rfl, ?_⟩) (by assumption) ?_
 rotate_left
 ·intro w hSw
  (try dsimp only at hSw)
  go_simp
  try with_reducible rfl
 try simp only [Act.put, List.setIfInBounds_toArray, List.set_cons_zero, List.set_cons_succ]
 refine wpAnyH_take (i := 4) (oi := { dst := some 13, op := Op.fieldAddr 28 (Operand.tmp 2) 2, type := 0, pos := "l03_normal.go:284", after := #[], guard := none }) (v := ?_) rfl (by kernel_rfl) (by kernel_rfl) (by kernel_rfl) (fun _ _ _ h => h) (Or.inl ⟨by rfl, ?_⟩) (by assumption) ?_
 rotate_left
 ·intro w hSw
  (try dsimp only at hSw)
  go_simp
  try with_reducible rfl
 try simp only [Act.put, List.setIfInBounds_toArray, List.set_cons_zero, List.set_cons_succ]
 refine wpAnyH_take (i := 5) (oi := { dst := some 14, op := Op.load 26 (Operand.tmp 13), type := 26, pos := "l03_normal.go:284", after := #[{ on := 4, ground := Ground.data }], guard := none }) (v := ?_) rfl (by kernel_rfl) (by kernel_rfl) (by kernel_rfl) (fun _ _ _ h => h) (Or.inl ⟨by rfl, ?_⟩) (by assumption) ?_
 rotate_left
 ·intro w hSw
  (try dsimp only at hSw)
  go_simp
  try with_reducible rfl
 try simp only [Act.put, List.setIfInBounds_toArray, List.set_cons_zero, List.set_cons_succ]
 refine wpAnyH_ready (rs := [2]) (by kernel_rfl) (by simp) ?_
 refine AllReadyH.cons (o := { dst := some 11, op := Op.call { callee := Callee.value (Operand.func 106), args := #[Operand.tmp 9, Operand.tmp 10], argTypes := #[54, 2] }, type := 54, pos := "l03_normal.go:284", after := #[{ on := 0, ground := Ground.data }, { on := 1, ground := Ground.data }], guard := none }) rfl (fun K hK => ?_) ?_
 ·go_simp
  refine (l02Left_left m s SS.out _).mono ?_
  rintro e3 w3 ⟨rfl, gg⟩
  replace KB := Lib.hid (below_go KB.out gg KB.out.size)
  clear gg
  go_wp2_with fail
  refine hK.out _ _ ?_ (fun hHeld => ?_)
  ·first | with_reducible exact SH.out _ KB.out | with_reducible exact SZ.out _ KB.out _ _ _
  clear hK K
  try simp only [Act.put, List.setIfInBounds_toArray, List.set_cons_zero, List.set_cons_succ]
  refine wpAnyH_ready (rs := [3]) (by kernel_rfl) (by simp) ?_
  refine AllReadyH.cons (o := { dst := some 12, op := Op.buildSlice 26 1 #[(0, Operand.tmp 11)], type := 26, pos := "l03_normal.go:284", after := #[{ on := 2, ground := Ground.data }], guard := none }) rfl (fun K hK => ?_) ?_
  ·go_simp
   have O := Lib.hid (OwnAV.one w3 (leftR m s) L8.out)
   replace O : Hid (OwnAV W0.heap.size (w3.alloc (.cells #[.int .u8 (at8 (leftR m s) 0), .int .u8 (at8 (leftR m s) 1), .int .u8 (at8 (leftR m s) 2), .int .u8 (at8 (leftR m s) 3), .int .u8 (at8 (leftR m s) 4), .int .u8 (at8 (leftR m s) 5), .int .u8 (at8 (leftR m s) 6), .int .u8 (at8 (leftR m s) 7)] 54)) (.slice (some ⟨w3.heap.size, 0, none⟩) 1 1) 1 [(leftR m s)]) := Lib.hid (O.out.low KB.out.size)
   replace KB : Hid (Below W0.heap.size W0 (w3.alloc (.cells #[.int .u8 (at8 (leftR m s) 0), .int .u8 (at8 (leftR m s) 1), .int .u8 (at8 (leftR m s) 2), .int .u8 (at8 (leftR m s) 3), .int .u8 (at8 (leftR m s) 4), .int .u8 (at8 (leftR m s) 5), .int .u8 (at8 (leftR m s) 6), .int .u8 (at8 (leftR m s) 7)] 54))) := Lib.hid (KB.out.alloc KB.out.size (.cells #[.int .u8 (at8 (leftR m s) 0), .int .u8 (at8 (leftR m s) 1), .int .u8 (at8 (leftR m s) 2), .int .u8 (at8 (leftR m s) 3), .int .u8 (at8 (leftR m s) 4), .int .u8 (at8 (leftR m s) 5), .int .u8 (at8 (leftR m s) 6), .int .u8 (at8 (leftR m s) 7)] 54))
   obtain ⟨V4, hV4⟩ : ∃ Vx, Vx = w3.alloc (.cells #[.int .u8 (at8 (leftR m s) 0), .int .u8 (at8 (leftR m s) 1), .int .u8 (at8 (leftR m s) 2), .int .u8 (at8 (leftR m s) 3), .int .u8 (at8 (leftR m s) 4), .int .u8 (at8 (leftR m s) 5), .int .u8 (at8 (leftR m s) 6), .int .u8 (at8 (leftR m s) 7)] 54) := ⟨_, rfl⟩
   rw [← hV4] at O KB ⊢
   clear hV4
   refine hK.out _ _ ?_ (fun hHeld => ?_)
   ·first | with_reducible exact SH.out _ KB.out | with_reducible exact SZ.out _ KB.out _ _ _
   clear hK K
   try simp only [Act.put, List.setIfInBounds_toArray, List.set_cons_zero, List.set_cons_succ]
   refine wpAnyH_ready (rs := [6]) (by kernel_rfl) (by simp) ?_
   refine AllReadyH.cons (o := { dst := some 15, op := Op.call { callee := Callee.builtin Builtin.append, args := #[Operand.tmp 12, Operand.tmp 14], argTypes := #[26, 26] }, type := 26, pos := "l03_normal.go:284", after := #[{ on := 3, ground := Ground.data }, { on := 5, ground := Ground.data }, { on := 2, ground := Ground.chain }], guard := none }) rfl (fun K hK => ?_) ?_
   ·refine step_append_rows_at rfl _ _ 26 rfl W0.heap.size i0 Try.underlying26 hi hz0 hz1 hz2 _ _ _ rfl O.out _ _ _ l rfl (HRR.out.below (below_go B.out KB.out (by have := zz.out; omega))) (by omega) KB.out.size ?_
    intro v' w5 ho' hg hv
    replace KB := Lib.hid (below_ownA KB.out KB.out.size (Nat.le_refl _) O.out hg)
    rw [List.singleton_append] at ho'
    obtain ⟨a5, c5, rfl, ho5⟩ := ho'.form
    have P := Lib.hid ho5
    clear ho' hg hv ho5
    refine hK.out _ _ ?_ (fun hHeld => ?_)
    ·first | with_reducible exact SH.out _ KB.out | with_reducible exact SZ.out _ KB.out _ _ _
    clear hK K
    try simp only [Act.put, List.setIfInBounds_toArray, List.set_cons_zero, List.set_cons_succ]
    refine wpAnyH_ready (rs := [7]) (by kernel_rfl) (by simp) ?_
    refine AllReadyH.cons (o := { dst := some 6, op := Op.assign (Operand.tmp 15), type := 26, pos := "l03_normal.go:284", after := #[{ on := 6, ground := Ground.data }, { on := 6, ground := Ground.chain }, { on := 0, ground := Ground.phase }, { on := 1, ground := Ground.phase }, { on := 2, ground := Ground.phase }, { on := 3, ground := Ground.phase }, { on := 4, ground := Ground.phase }, { on := 5, ground := Ground.phase }, { on := 6, ground := Ground.phase }], guard := none }) rfl (fun K hK => ?_) ?_
    ·go_simp
     refine hK.out _ _ ?_ (fun hHeld => ?_)
     ·first | with_reducible exact SH.out _ KB.out | with_reducible exact SZ.out _ KB.out _ _ _
     clear hK K
     try simp only [Act.put, List.setIfInBounds_toArray, List.set_cons_zero, List.set_cons_succ]
     refine wpAnyH_done (by kernel_rfl) ?_ _
     go_upto_region 3 with fail
     clear SH SZ
     replace A := Lib.hid (A.out.below KB.out)
     replace Z := Lib.hid (Z.out.below KB.out)
     replace B := Lib.hid (below_go B.out KB.out (by have := zz.out; omega))
     have hz5 : w.heap.size + 1 + 1 + 1 ≤ w5.heap.size := by rw [← zz.out]; exact KB.out.size
     obtain ⟨q1, q2, q3⟩ := A.out.all
     have hzw := zz.out
     have HZW := Lib.hid hzw
     clear hzw
     by_cases hk : p % 2 = 0
     ·have e1 : turnK m p (leftR m s) = (leftR m s) := by unfold turnK; rw [if_pos hk]
      rw [e1] at HM
      have SM : Hid (Sims m ((leftR m s) :: l)) := Lib.hid (Sims.cons SL.out HL.out)
      have t1 : (p.tmod 2 != 0) = false := by rw [bne, t0, decide_eq_true hk]; rfl
      clear t0 hk e1
      go_wp2_with fail
      refine (l03Make_any m m1 m8 (p - 1) (by omega) _ _ _ ((leftR m s) :: l) _ P.out.reads SM.out (by omega) e kf HM.out).mono ?_
      rintro e8 w8 ⟨a8, n8, c8, rfl, ho, gg⟩
      have hz8 : w5.heap.size ≤ w8.heap.size := gg.size
      replace Z := Lib.hid (Z.out.below gg)
      replace B := Lib.hid (below_go B.out gg B.out.size)
      have O8 := Lib.hid ho
      clear ho gg q1 q2 q3
      obtain ⟨x0, ⟨x1, x2, x3⟩, y1, y2, y3⟩ := Z.out
      obtain ⟨_, ⟨z1, z2, z3⟩, _⟩ := Z.out.fill (.int .i64 m) (.int .i64 e) (.slice a8 n8 c8)
      go_wp2
      try rw [Exit.noGoto_ret]
      exact bodyPost_ret (v := .agg #[.int .i64 m, .int .i64 e, .slice a8 n8 c8]) (by simp [results, Try.results119, go_sem, z1, z2, z3]) rfl ⟨a8, n8, c8, rfl, (O8.out.set3 (by omega) _ _ _).mono (by omega), below_set3 B.out (by omega) _ _ _⟩
     ·have e1 : turnK m p (leftR m s) = turnR m (leftR m s) := by unfold turnK; rw [if_neg hk]
      rw [e1] at HM
      have ST := Lib.hid (turnR_sim SL.out)
      have T8 := Lib.hid ST.out.len
      have SM : Hid (Sims m ((turnR m (leftR m s)) :: l)) := Lib.hid (Sims.cons ST.out HL.out)
      have t1 : (p.tmod 2 != 0) = true := by rw [bne, t0, decide_eq_false hk]; rfl
      clear t0 hk e1
      obtain ⟨g5, rfl, hg5⟩ := P.out.block (by omega)
      have hg5' := Lib.hid hg5
      clear hg5
      have hc0 := P.out.cellAt 0 (by omega)
      rw [Nat.zero_mul] at hc0
      obtain ⟨c0, c1, c2, c3, c4, c5', c6, c7⟩ := hc0.flat
      clear hc0
      have hi0 : (0 : Int) < ((1 + n : Nat) : Int) := by omega
      have hi0' : (0 : Int) < 1 + (n : Int) := by omega
      go_wp2_with fail
      refine (l02Turn_turnR m (leftR m s) SL.out _).mono ?_
      rintro e6 w6 ⟨rfl, gg⟩
      have hz6 : w5.heap.size ≤ w6.heap.size := gg.size
      replace A := Lib.hid (A.out.below gg)
      replace Z := Lib.hid (Z.out.below gg)
      replace B := Lib.hid (below_go B.out gg B.out.size)
      replace P := Lib.hid (P.out.below gg)
      clear gg q1 q2 q3 c0 c1 c2 c3 c4 c5' c6 c7
      have hc0 := P.out.cellAt 0 (by omega)
      rw [Nat.zero_mul] at hc0
      obtain ⟨c0, c1, c2, c3, c4, c5', c6, c7⟩ := hc0.flat
      clear hc0
      have f0 := P.out.frozenAt 0
      have f1 := P.out.frozenAt 1
      have f2 := P.out.frozenAt 2
      have f3 := P.out.frozenAt 3
      have f4 := P.out.frozenAt 4
      have f5 := P.out.frozenAt 5
      have f6 := P.out.frozenAt 6
      have f7 := P.out.frozenAt 7
      have hne : w.heap.size + 1 + 1 + 1 ≤ g5 := by have := hg5'.out.1; rw [HZW.out] at this; exact this
      have vals := Lib.hid hne
      replace P := Lib.hid (P.out.store 0 (by omega) (turnR m (leftR m s)) T8.out)
      simp only [Nat.zero_mul, Nat.zero_add, List.set_cons_zero] at P
      replace A := Lib.hid (A.out.set8 (g2 := g5) (o := 0) (by omega) (.int .u8 (at8 (turnR m (leftR m s)) 0)) (.int .u8 (at8 (turnR m (leftR m s)) 1)) (.int .u8 (at8 (turnR m (leftR m s)) 2)) (.int .u8 (at8 (turnR m (leftR m s)) 3)) (.int .u8 (at8 (turnR m (leftR m s)) 4)) (.int .u8 (at8 (turnR m (leftR m s)) 5)) (.int .u8 (at8 (turnR m (leftR m s)) 6)) (.int .u8 (at8 (turnR m (leftR m s)) 7)))
      replace Z := Lib.hid (Z.out.set8 (g2 := g5) (o := 0) (by omega) (.int .u8 (at8 (turnR m (leftR m s)) 0)) (.int .u8 (at8 (turnR m (leftR m s)) 1)) (.int .u8 (at8 (turnR m (leftR m s)) 2)) (.int .u8 (at8 (turnR m (leftR m s)) 3)) (.int .u8 (at8 (turnR m (leftR m s)) 4)) (.int .u8 (at8 (turnR m (leftR m s)) 5)) (.int .u8 (at8 (turnR m (leftR m s)) 6)) (.int .u8 (at8 (turnR m (leftR m s)) 7)))
      replace B := Lib.hid (below_fill8 B.out g5 (by omega) (.int .u8 (at8 (turnR m (leftR m s)) 0)) (.int .u8 (at8 (turnR m (leftR m s)) 1)) (.int .u8 (at8 (turnR m (leftR m s)) 2)) (.int .u8 (at8 (turnR m (leftR m s)) 3)) (.int .u8 (at8 (turnR m (leftR m s)) 4)) (.int .u8 (at8 (turnR m (leftR m s)) 5)) (.int .u8 (at8 (turnR m (leftR m s)) 6)) (.int .u8 (at8 (turnR m (leftR m s)) 7)))
      go_upto_region 5 with fail
      obtain ⟨V, hV⟩ : ∃ Vx, Vx = ((((((((w6.setCell ⟨g5, 0, none⟩ (.int .u8 (at8 (turnR m (leftR m s)) 0))).setCell ⟨g5, 1, none⟩ (.int .u8 (at8 (turnR m (leftR m s)) 1))).setCell ⟨g5, 2, none⟩ (.int .u8 (at8 (turnR m (leftR m s)) 2))).setCell ⟨g5, 3, none⟩ (.int .u8 (at8 (turnR m (leftR m s)) 3))).setCell ⟨g5, 4, none⟩ (.int .u8 (at8 (turnR m (leftR m s)) 4))).setCell ⟨g5, 5, none⟩ (.int .u8 (at8 (turnR m (leftR m s)) 5))).setCell ⟨g5, 6, none⟩ (.int .u8 (at8 (turnR m (leftR m s)) 6))).setCell ⟨g5, 7, none⟩ (.int .u8 (at8 (turnR m (leftR m s)) 7))) := ⟨_, rfl⟩
      have hzV : w.heap.size + 1 + 1 + 1 ≤ V.heap.size := by rw [hV]; simp [World.setCell]; omega
      rw [← hV] at A Z B P ⊢
      clear hV c0 c1 c2 c3 c4 c5' c6 c7 f0 f1 f2 f3 f4 f5 f6 f7
      obtain ⟨q1, q2, q3⟩ := A.out.all
      go_wp2_with fail
      refine (l03Make_any m m1 m8 (p - 1) (by omega) _ _ _ ((turnR m (leftR m s)) :: l) _ P.out.reads SM.out (by omega) e kf HM.out).mono ?_
      rintro e8 w8 ⟨a8, n8, c8, rfl, ho, gg⟩
      have hz8 : V.heap.size ≤ w8.heap.size := gg.size
      replace Z := Lib.hid (Z.out.below gg)
      replace B := Lib.hid (below_go B.out gg B.out.size)
      have O8 := Lib.hid ho
      clear ho gg q1 q2 q3
      obtain ⟨x0, ⟨x1, x2, x3⟩, y1, y2, y3⟩ := Z.out
      obtain ⟨_, ⟨z1, z2, z3⟩, _⟩ := Z.out.fill (.int .i64 m) (.int .i64 e) (.slice a8 n8 c8)
      go_wp2
      try rw [Exit.noGoto_ret]
      exact bodyPost_ret (v := .agg #[.int .i64 m, .int .i64 e, .slice a8 n8 c8]) (by simp [results, Try.results119, go_sem, z1, z2, z3]) rfl ⟨a8, n8, c8, rfl, (O8.out.set3 (by omega) _ _ _).mono (by omega), below_set3 B.out (by omega) _ _ _⟩
    exact AllReadyH.nil
   exact AllReadyH.nil
  exact AllReadyH.nil
 exact AllReadyH.nil

set_option maxRecDepth 100000 in
set_option maxHeartbeats 1000000 in
theorem l04Conjugate_any (m : Nat) (m1 : 1 ≤ m) (m8 : m ≤ 8) (p : Int) (hp : -100000 ≤ p ∧ p ≤ 100000) (a : Option Addr) (n cap : Nat) (l : List (List Int)) (s : List Int) (w : World) (hr : ReadsA w a n l) (hl : Sims m l) (hss : Sim m s) (hn : n ≤ 50000) (e : Int) (kf : List (List Int)) (hM : cjsN m p l s = (e, kf)) :
  Calls Try.prog 101 #[.agg #[.int .i64 m, .int .i64 p, .slice a n cap], arr8 .u8 s] w (RetNormal w m e kf) := by
 have HN := Lib.hid hr.len
 have HRR := Lib.hid hr
 have HL := Lib.hid hl
 have SS := Lib.hid hss
 have S8 := Lib.hid hss.len
 clear hl hr hss
 obtain ⟨e1, l1, h1⟩ : ∃ e1 l1, lessN m p l s = (e1, l1) := ⟨_, _, rfl⟩
 have H1 := Lib.hid h1
 have HB1 := Lib.hid (lessN_len m p l s)
 have HN1 := Lib.hid (lessN_nl (p := p) HL.out SS.out)
 rw [h1] at HB1 HN1
 have HM : Hid (mkN m e1 (l1 ++ [s]) = (e, kf)) := Lib.hid (by unfold cjsN at hM; rw [h1] at hM; exact hM)
 clear hM h1
 go_enter Try.func101, Try.ntmps101
 have A := Lib.hid (((At3.place w (.int .i64 m) (.int .i64 p) (.slice a n cap) 28 w.heap.size rfl).alloc (.cells #[.int .u8 (at8 s 0), .int .u8 (at8 s 1), .int .u8 (at8 s 2), .int .u8 (at8 s 3), .int .u8 (at8 s 4), .int .u8 (at8 s 5), .int .u8 (at8 s 6), .int .u8 (at8 s 7)] 54)).alloc (.cells #[.int .i64 0, .int .i64 0, .slice none 0 0] 28))
 have X := Lib.hid ((Row8.place (w.alloc (.cells #[.int .i64 m, .int .i64 p, .slice a n cap] 28)) .u8 s 54 (w.heap.size + 1) (by simp) S8.out).alloc (.cells #[.int .i64 0, .int .i64 0, .slice none 0 0] 28))
 have Z := Lib.hid (At3.place ((w.alloc (.cells #[.int .i64 m, .int .i64 p, .slice a n cap] 28)).alloc (.cells #[.int .u8 (at8 s 0), .int .u8 (at8 s 1), .int .u8 (at8 s 2), .int .u8 (at8 s 3), .int .u8 (at8 s 4), .int .u8 (at8 s 5), .int .u8 (at8 s 6), .int .u8 (at8 s 7)] 54)) (.int .i64 0) (.int .i64 0) (.slice none 0 0) 28 (w.heap.size + 1 + 1) (by simp))
 have B := Lib.hid (((below1 w (.cells #[.int .i64 m, .int .i64 p, .slice a n cap] 28)).alloc (by simp) (.cells #[.int .u8 (at8 s 0), .int .u8 (at8 s 1), .int .u8 (at8 s 2), .int .u8 (at8 s 3), .int .u8 (at8 s 4), .int .u8 (at8 s 5), .int .u8 (at8 s 6), .int .u8 (at8 s 7)] 54)).alloc (by simp; omega) (.cells #[.int .i64 0, .int .i64 0, .slice none 0 0] 28))
 go_upto_region 1 with fail
 obtain ⟨W0, hW0⟩ : ∃ W0, W0 = (((w.alloc (.cells #[.int .i64 m, .int .i64 p, .slice a n cap] 28)).alloc (.cells #[.int .u8 (at8 s 0), .int .u8 (at8 s 1), .int .u8 (at8 s 2), .int .u8 (at8 s 3), .int .u8 (at8 s 4), .int .u8 (at8 s 5), .int .u8 (at8 s 6), .int .u8 (at8 s 7)] 54)).alloc (.cells #[.int .i64 0, .int .i64 0, .slice none 0 0] 28)) := ⟨_, rfl⟩
 have zz : Hid (W0.heap.size = w.heap.size + 1 + 1 + 1) := Lib.hid (by rw [hW0]; simp)
 rw [← hW0] at A X Z B ⊢
 clear hW0
 have KB : Hid (Below W0.heap.size W0 W0.drew) := Lib.hid (Below.refl W0.heap.size W0).drew
 have SH : Hid (∀ W, Below W0.heap.size W0 W → (W.cell? ⟨w.heap.size, 0, none⟩ = some (.int .i64 m) ∧ W.cell? ⟨w.heap.size, 1, none⟩ = some (.int .i64 p) ∧ W.cell? ⟨w.heap.size, 2, none⟩ = some (.slice a n cap)) ∧ (W.cell? ⟨w.heap.size + 1, 0, none⟩ = some (.int .u8 (at8 s 0)) ∧ W.cell? ⟨w.heap.size + 1, 1, none⟩ = some (.int .u8 (at8 s 1)) ∧ W.cell? ⟨w.heap.size + 1, 2, none⟩ = some (.int .u8 (at8 s 2)) ∧ W.cell? ⟨w.heap.size + 1, 3, none⟩ = some (.int .u8 (at8 s 3)) ∧ W.cell? ⟨w.heap.size + 1, 4, none⟩ = some (.int .u8 (at8 s 4)) ∧ W.cell? ⟨w.heap.size + 1, 5, none⟩ = some (.int .u8 (at8 s 5)) ∧ W.cell? ⟨w.heap.size + 1, 6, none⟩ = some (.int .u8 (at8 s 6)) ∧ W.cell? ⟨w.heap.size + 1, 7, none⟩ = some (.int .u8 (at8 s 7)))) := Lib.hid fun W h => ⟨(A.out.below h).all, (X.out.below h).flat⟩
 have SZ : Hid (∀ W, Below W0.heap.size W0 W → ∀ u v x, ((((W.setCell ⟨w.heap.size + 1 + 1, 0, none⟩ u).setCell ⟨w.heap.size + 1 + 1, 1, none⟩ v).setCell ⟨w.heap.size + 1 + 1, 2, none⟩ x).cell? ⟨w.heap.size, 0, none⟩ = some (.int .i64 m) ∧ (((W.setCell ⟨w.heap.size + 1 + 1, 0, none⟩ u).setCell ⟨w.heap.size + 1 + 1, 1, none⟩ v).setCell ⟨w.heap.size + 1 + 1, 2, none⟩ x).cell? ⟨w.heap.size, 1, none⟩ = some (.int .i64 p) ∧ (((W.setCell ⟨w.heap.size + 1 + 1, 0, none⟩ u).setCell ⟨w.heap.size + 1 + 1, 1, none⟩ v).setCell ⟨w.heap.size + 1 + 1, 2, none⟩ x).cell? ⟨w.heap.size, 2, none⟩ = some (.slice a n cap)) ∧ ((((W.setCell ⟨w.heap.size + 1 + 1, 0, none⟩ u).setCell ⟨w.heap.size + 1 + 1, 1, none⟩ v).setCell ⟨w.heap.size + 1 + 1, 2, none⟩ x).cell? ⟨w.heap.size + 1, 0, none⟩ = some (.int .u8 (at8 s 0)) ∧ (((W.setCell ⟨w.heap.size + 1 + 1, 0, none⟩ u).setCell ⟨w.heap.size + 1 + 1, 1, none⟩ v).setCell ⟨w.heap.size + 1 + 1, 2, none⟩ x).cell? ⟨w.heap.size + 1, 1, none⟩ = some (.int .u8 (at8 s 1)) ∧ (((W.setCell ⟨w.heap.size + 1 + 1, 0, none⟩ u).setCell ⟨w.heap.size + 1 + 1, 1, none⟩ v).setCell ⟨w.heap.size + 1 + 1, 2, none⟩ x).cell? ⟨w.heap.size + 1, 2, none⟩ = some (.int .u8 (at8 s 2)) ∧ (((W.setCell ⟨w.heap.size + 1 + 1, 0, none⟩ u).setCell ⟨w.heap.size + 1 + 1, 1, none⟩ v).setCell ⟨w.heap.size + 1 + 1, 2, none⟩ x).cell? ⟨w.heap.size + 1, 3, none⟩ = some (.int .u8 (at8 s 3)) ∧ (((W.setCell ⟨w.heap.size + 1 + 1, 0, none⟩ u).setCell ⟨w.heap.size + 1 + 1, 1, none⟩ v).setCell ⟨w.heap.size + 1 + 1, 2, none⟩ x).cell? ⟨w.heap.size + 1, 4, none⟩ = some (.int .u8 (at8 s 4)) ∧ (((W.setCell ⟨w.heap.size + 1 + 1, 0, none⟩ u).setCell ⟨w.heap.size + 1 + 1, 1, none⟩ v).setCell ⟨w.heap.size + 1 + 1, 2, none⟩ x).cell? ⟨w.heap.size + 1, 5, none⟩ = some (.int .u8 (at8 s 5)) ∧ (((W.setCell ⟨w.heap.size + 1 + 1, 0, none⟩ u).setCell ⟨w.heap.size + 1 + 1, 1, none⟩ v).setCell ⟨w.heap.size + 1 + 1, 2, none⟩ x).cell? ⟨w.heap.size + 1, 6, none⟩ = some (.int .u8 (at8 s 6)) ∧ (((W.setCell ⟨w.heap.size + 1 + 1, 0, none⟩ u).setCell ⟨w.heap.size + 1 + 1, 1, none⟩ v).setCell ⟨w.heap.size + 1 + 1, 2, none⟩ x).cell? ⟨w.heap.size + 1, 7, none⟩ = some (.int .u8 (at8 s 7)))) := Lib.hid fun W h u v x => ⟨((A.out.below h).set3 (g2 := w.heap.size + 1 + 1) (by omega) u v x).all, ((X.out.below h).set3 (g2 := w.heap.size + 1 + 1) (by omega) u v x).flat⟩
 refine wp_region_held_drew (S := (fun w' => (w'.cell? ⟨w.heap.size, 0, none⟩ = some (.int .i64 m) ∧ w'.cell? ⟨w.heap.size, 1, none⟩ = some (.int .i64 p) ∧ w'.cell? ⟨w.heap.size, 2, none⟩ = some (.slice a n cap)) ∧ (w'.cell? ⟨w.heap.size + 1, 0, none⟩ = some (.int .u8 (at8 s 0)) ∧ w'.cell? ⟨w.heap.size + 1, 1, none⟩ = some (.int .u8 (at8 s 1)) ∧ w'.cell? ⟨w.heap.size + 1, 2, none⟩ = some (.int .u8 (at8 s 2)) ∧ w'.cell? ⟨w.heap.size + 1, 3, none⟩ = some (.int .u8 (at8 s 3)) ∧ w'.cell? ⟨w.heap.size + 1, 4, none⟩ = some (.int .u8 (at8 s 4)) ∧ w'.cell? ⟨w.heap.size + 1, 5, none⟩ = some (.int .u8 (at8 s 5)) ∧ w'.cell? ⟨w.heap.size + 1, 6, none⟩ = some (.int .u8 (at8 s 6)) ∧ w'.cell? ⟨w.heap.size + 1, 7, none⟩ = some (.int .u8 (at8 s 7))))) (by kernel_rfl) ?_ (fun hHeld => ?_)
 ·first | with_reducible exact SH.out _ KB.out | with_reducible exact SZ.out _ KB.out _ _ _
 refine wpAnyH_take (i := 0) (oi := { dst := some 5, op := Op.load 28 (Operand.tmp 2), type := 28, pos := "l04_conjugacy.go:6", after := #[], guard := none }) (v := ?_) rfl (by kernel_rfl) (by kernel_rfl) (by kernel_rfl) (fun _ _ _ h => h) (Or.inl ⟨by rfl, ?_⟩) (by assumption) ?_
 rotate_left
 ·intro w hSw
  (try dsimp only at hSw)
  go_simp
  try with_reducible rfl
 try simp only [Act.put, List.setIfInBounds_toArray, List.set_cons_zero, List.set_cons_succ]
 refine wpAnyH_take (i := 1) (oi := { dst := some 6, op := Op.load 54 (Operand.tmp 3), type := 54, pos := "l04_conjugacy.go:6", after := #[], guard := none }) (v := ?_) rfl (by kernel_rfl) (by kernel_rfl) (by kernel_rfl) (fun _ _ _ h => h) (Or.inl ⟨by rfl, ?_⟩) (by assumption) ?_
 rotate_left
 ·intro w hSw
  (try dsimp only at hSw)
  go_simp
  try with_reducible rfl
 try simp only [Act.put, List.setIfInBounds_toArray, List.set_cons_zero, List.set_cons_succ]
 refine wpAnyH_take (i := 3) (oi := { dst := some 8, op := Op.load 54 (Operand.tmp 3), type := 54, pos := "l04_conjugacy.go:6", after := #[], guard := none }) (v := ?_) rfl (by kernel_rfl) (by kernel_rfl) (by kernel_rfl) (fun _ _ _ h => h) (Or.inl ⟨by rfl, ?_⟩) (by assumption) ?_
 rotate_left
 ·intro w hSw
  (try dsimp only at hSw)
  go_simp
  try with_reducible rfl
 try simp only [Act.put, List.setIfInBounds_toArray, List.set_cons_zero, List.set_cons_succ]
 refine wpAnyH_ready (rs := [2]) (by kernel_rfl) (by simp) ?_
 refine AllReadyH.cons (o := { dst := some 7, op := Op.call { callee := Callee.value (Operand.func 119), args := #[Operand.tmp 5, Operand.tmp 6], argTypes := #[28, 54] }, type := 28, pos := "l04_conjugacy.go:6", after := #[{ on := 0, ground := Ground.data }, { on := 1, ground := Ground.data }], guard := none }) rfl (fun K hK => ?_) ?_
 ·go_simp
  refine (l03Less_any m m1 m8 p hp a n cap l s _ (HRR.out.below (below_go B.out KB.out (by have := zz.out; omega))) HL.out SS.out hn e1 l1 H1.out).mono ?_
  rintro e3 w3 ⟨a3, n3, c3, rfl, ho, gg⟩
  have I3 := Lib.hid ho.reads
  have hn3 : n3 = l1.length := ho.len.symm
  have HN3 := Lib.hid hn3
  clear hn3
  replace KB := Lib.hid (below_go KB.out gg KB.out.size)
  clear gg ho
  go_wp2_with fail
  refine hK.out _ _ ?_ (fun hHeld => ?_)
  ·first | with_reducible exact SH.out _ KB.out | with_reducible exact SZ.out _ KB.out _ _ _
  clear hK K
  try simp only [Act.put, List.setIfInBounds_toArray, List.set_cons_zero, List.set_cons_succ]
  refine wpAnyH_ready (rs := [4]) (by kernel_rfl) (by simp) ?_
  refine AllReadyH.cons (o := { dst := some 9, op := Op.call { callee := Callee.value (Operand.func 68), args := #[Operand.tmp 7, Operand.tmp 8, Operand.const (Value.bool false)], argTypes := #[28, 54, 4] }, type := 28, pos := "l04_conjugacy.go:6", after := #[{ on := 2, ground := Ground.data }, { on := 3, ground := Ground.data }, { on := 2, ground := Ground.chain }], guard := none }) rfl (fun K hK => ?_) ?_
  ·go_simp
   refine (l03Times_pos m m1 m8 e1 (by have := HB1.out; rw [HN.out] at this; omega) a3 n3 c3 l1 s _ I3.out HN1.out.sims SS.out (by have := HB1.out; rw [HN.out] at this; have := HN3.out; omega) e kf HM.out).mono ?_
   rintro e8 w8 ⟨a8, n8, c8, rfl, ho, gg⟩
   have O8 := Lib.hid (ho.mono KB.out.size)
   replace KB := Lib.hid (below_go KB.out gg KB.out.size)
   clear gg ho
   obtain ⟨x0, ⟨x1, x2, x3⟩, y1, y2, y3⟩ := Z.out.below KB.out
   go_wp2_with fail
   refine hK.out _ _ ?_ (fun hHeld => ?_)
   ·first | with_reducible exact SH.out _ KB.out | with_reducible exact SZ.out _ KB.out _ _ _
   clear hK K
   try simp only [Act.put, List.setIfInBounds_toArray, List.set_cons_zero, List.set_cons_succ]
   refine wpAnyH_ready (rs := [5]) (by kernel_rfl) (by simp) ?_
   refine AllReadyH.cons (o := { dst := none, op := Op.store 28 (Operand.tmp 4) (Operand.tmp 9), type := 0, pos := "l04_conjugacy.go:6", after := #[{ on := 4, ground := Ground.data }, { on := 4, ground := Ground.chain }, { on := 0, ground := Ground.phase }, { on := 1, ground := Ground.phase }, { on := 2, ground := Ground.phase }, { on := 3, ground := Ground.phase }, { on := 4, ground := Ground.phase }], guard := none }) rfl (fun K hK => ?_) ?_
   ·go_simp
    refine hK.out _ _ ?_ (fun hHeld => ?_)
    ·first | with_reducible exact SH.out _ KB.out | with_reducible exact SZ.out _ KB.out _ _ _
    clear hK K
    try simp only [Act.put, List.setIfInBounds_toArray, List.set_cons_zero, List.set_cons_succ]
    refine wpAnyH_done (by kernel_rfl) ?_ _
    go_wp2_with fail
    try rw [Exit.noGoto_ret]
    obtain ⟨_, ⟨z1, z2, z3⟩, _⟩ := (Z.out.below KB.out).fill (.int .i64 m) (.int .i64 e) (.slice a8 n8 c8)
    exact bodyPost_ret (v := .agg #[.int .i64 m, .int .i64 e, .slice a8 n8 c8]) (by simp [results, Try.results101, go_sem, z1, z2, z3]) rfl ⟨a8, n8, c8, rfl, (O8.out.set3 (by have := zz.out; omega) _ _ _).mono (by have := zz.out; omega), below_set3 (below_go B.out KB.out (by have := zz.out; omega)) (by omega) _ _ _⟩
   exact AllReadyH.nil
  exact AllReadyH.nil
 exact AllReadyH.nil

set_option maxRecDepth 100000 in
set_option maxHeartbeats 1000000 in
theorem l04Slide_any (m : Nat) (m1 : 1 ≤ m) (m8 : m ≤ 8) (p : Int) (hp : -100000 ≤ p ∧ p ≤ 100000) (a : Option Addr) (n cap : Nat) (hcap : n ≤ cap) (l : List (List Int)) (w : World) (hr : ReadsA w a n l) (hl : Sims m l) (hn : n ≤ 50000) (e : Int) (kf : List (List Int)) (hM : sldN m p l = (e, kf)) :
  Calls Try.prog 65 #[.agg #[.int .i64 m, .int .i64 p, .slice a n cap]] w fun r w' => ∃ a2 n2 c2, r = .returned (.agg #[.int .i64 m, .int .i64 e, .slice a2 n2 c2]) ∧ n2 ≤ c2 ∧ ReadsA w' a2 n2 kf ∧ Below w.heap.size w w' := by
 have HN := Lib.hid hr.len
 have HRR := Lib.hid hr
 have HL := Lib.hid hl
 unfold sldN at hM
 rw [HN.out] at hM
 go_enter Try.func65, Try.ntmps65
 have A := Lib.hid ((At3.place w (.int .i64 m) (.int .i64 p) (.slice a n cap) 28 w.heap.size rfl).alloc (.cells #[.int .i64 0, .int .i64 0, .slice none 0 0] 28))
 have Z := Lib.hid (At3.place (w.alloc (.cells #[.int .i64 m, .int .i64 p, .slice a n cap] 28)) (.int .i64 0) (.int .i64 0) (.slice none 0 0) 28 (w.heap.size + 1) (by simp))
 have B := Lib.hid ((below1 w (.cells #[.int .i64 m, .int .i64 p, .slice a n cap] 28)).alloc (by simp) (.cells #[.int .i64 0, .int .i64 0, .slice none 0 0] 28))
 go_upto_region 1 with fail
 obtain ⟨W0, hW0⟩ : ∃ W0, W0 = ((w.alloc (.cells #[.int .i64 m, .int .i64 p, .slice a n cap] 28)).alloc (.cells #[.int .i64 0, .int .i64 0, .slice none 0 0] 28)) := ⟨_, rfl⟩
 have zz : Hid (W0.heap.size = w.heap.size + 1 + 1) := Lib.hid (by rw [hW0]; simp)
 rw [← hW0] at A Z B ⊢
 clear hW0
 obtain ⟨q1, q2, q3⟩ := A.out.all
 by_cases h0 : n = 0
 ·subst h0
  rw [if_pos rfl] at hM
  obtain rfl : l = [] := List.eq_nil_of_length_eq_zero HN.out
  simp only [Prod.mk.injEq] at hM
  obtain ⟨rfl, rfl⟩ := hM
  obtain ⟨x0, ⟨x1, x2, x3⟩, y1, y2, y3⟩ := Z.out
  obtain ⟨_, ⟨e1, e2, e3⟩, _⟩ := Z.out.fill (.int .i64 m) (.int .i64 p) (.slice a 0 cap)
  go_wp2
  try rw [Exit.noGoto_ret]
  exact bodyPost_ret (v := .agg #[.int .i64 m, .int .i64 p, .slice a 0 cap]) (by simp [results, Try.results65, go_sem, e1, e2, e3]) rfl ⟨a, 0, cap, rfl, hcap, ⟨rfl, fun r hr => by simp at hr, .inl rfl⟩, below_set3 B.out (by omega) _ _ _⟩
 ·have hz : ((n : Int) == 0) = false := by simpa using h0
  rw [if_neg h0] at hM
  clear hr hl
  obtain ⟨n', rfl⟩ : ∃ n', n = n' + 1 := ⟨n - 1, by omega⟩
  obtain ⟨ba, off, rfl, hbl, hcl⟩ := HRR.out.cells (by omega)
  obtain ⟨row, hrow⟩ : ∃ row, row = rowAt l n' := ⟨_, rfl⟩
  have SR : Hid (Sim m row) := Lib.hid (by rw [hrow]; exact HL.out _ (rowAt_getElem (by rw [HN.out]; omega)))
  have hba : ba < w.heap.size := by exact hbl
  have HC : Hid (Cells8 w ba (off + n' * 8) row) := Lib.hid (by rw [hrow]; exact fun i hi => hcl n' (by omega) i hi)
  obtain ⟨sm, hsm⟩ : ∃ sm, sm = meetR m (turnK m p (rowAt l 0)) (comR m row) := ⟨_, rfl⟩
  have HSM := Lib.hid hsm
  have HM : Hid (cjsN m p l sm = (e, kf)) := Lib.hid (by rw [hsm, hrow]; unfold sldS at hM; rw [HN.out] at hM; simpa using hM)
  have SF : Hid (Sim m (turnK m p (rowAt l 0))) := Lib.hid (turnK_sim p (HL.out _ (rowAt_getElem (by rw [HN.out]; omega))))
  have S_ : Hid (Sim m sm) := Lib.hid (by rw [hsm]; exact meetR_sim m1 m8 _ _)
  clear hM hbl hcl hrow hsm
  have hw1 : IntKind.i64.wrap ((((n' + 1 : Nat) : Int)) - 1) = (n' : Int) := by rw [show (((n' + 1 : Nat) : Int)) - 1 = (n' : Int) by omega]; exact IntWalk.i64_in _ (by omega)
  have hw1' : IntKind.i64.wrap ((n' : Int) + 1 - 1) = (n' : Int) := by rw [show (n' : Int) + 1 - 1 = (n' : Int) by omega]; exact IntWalk.i64_in _ (by omega)
  have hw4 : IntKind.i64.wrap (n' : Int) = (n' : Int) := IntWalk.i64_in _ (by omega)
  have hi3 : (0 : Int) ≤ (n' : Int) := by omega
  have hi4 : (n' : Int) < ((n' + 1 : Nat) : Int) := by omega
  have hi5 : (n' : Int) < (n' : Int) + 1 := by omega
  go_upto_region 4 with fail
  clear q1 q2 q3
  have KB : Hid (Below W0.heap.size W0 W0.drew) := Lib.hid (Below.refl W0.heap.size W0).drew
  have SH : Hid (∀ W, Below W0.heap.size W0 W → (W.cell? ⟨w.heap.size, 0, none⟩ = some (.int .i64 m) ∧ W.cell? ⟨w.heap.size, 1, none⟩ = some (.int .i64 p) ∧ W.cell? ⟨w.heap.size, 2, none⟩ = some (.slice (some ⟨ba, off, none⟩) (n' + 1) cap)) ∧ (W.cell? ⟨ba, off + n' * 8, none⟩ = some (.int .u8 (at8 row 0)) ∧ W.cell? ⟨ba, off + n' * 8 + 1, none⟩ = some (.int .u8 (at8 row 1)) ∧ W.cell? ⟨ba, off + n' * 8 + 2, none⟩ = some (.int .u8 (at8 row 2)) ∧ W.cell? ⟨ba, off + n' * 8 + 3, none⟩ = some (.int .u8 (at8 row 3)) ∧ W.cell? ⟨ba, off + n' * 8 + 4, none⟩ = some (.int .u8 (at8 row 4)) ∧ W.cell? ⟨ba, off + n' * 8 + 5, none⟩ = some (.int .u8 (at8 row 5)) ∧ W.cell? ⟨ba, off + n' * 8 + 6, none⟩ = some (.int .u8 (at8 row 6)) ∧ W.cell? ⟨ba, off + n' * 8 + 7, none⟩ = some (.int .u8 (at8 row 7)))) := Lib.hid fun W h => ⟨(A.out.below h).all, (show Cells8 W ba (off + n' * 8) row from fun i hi => ((below_go B.out h (by have := zz.out; omega)).cell hba).trans (HC.out i hi)).flat⟩
  have SZ : Hid (∀ W, Below W0.heap.size W0 W → ∀ u v x, ((((W.setCell ⟨w.heap.size + 1, 0, none⟩ u).setCell ⟨w.heap.size + 1, 1, none⟩ v).setCell ⟨w.heap.size + 1, 2, none⟩ x).cell? ⟨w.heap.size, 0, none⟩ = some (.int .i64 m) ∧ (((W.setCell ⟨w.heap.size + 1, 0, none⟩ u).setCell ⟨w.heap.size + 1, 1, none⟩ v).setCell ⟨w.heap.size + 1, 2, none⟩ x).cell? ⟨w.heap.size, 1, none⟩ = some (.int .i64 p) ∧ (((W.setCell ⟨w.heap.size + 1, 0, none⟩ u).setCell ⟨w.heap.size + 1, 1, none⟩ v).setCell ⟨w.heap.size + 1, 2, none⟩ x).cell? ⟨w.heap.size, 2, none⟩ = some (.slice (some ⟨ba, off, none⟩) (n' + 1) cap)) ∧ ((((W.setCell ⟨w.heap.size + 1, 0, none⟩ u).setCell ⟨w.heap.size + 1, 1, none⟩ v).setCell ⟨w.heap.size + 1, 2, none⟩ x).cell? ⟨ba, off + n' * 8, none⟩ = some (.int .u8 (at8 row 0)) ∧ (((W.setCell ⟨w.heap.size + 1, 0, none⟩ u).setCell ⟨w.heap.size + 1, 1, none⟩ v).setCell ⟨w.heap.size + 1, 2, none⟩ x).cell? ⟨ba, off + n' * 8 + 1, none⟩ = some (.int .u8 (at8 row 1)) ∧ (((W.setCell ⟨w.heap.size + 1, 0, none⟩ u).setCell ⟨w.heap.size + 1, 1, none⟩ v).setCell ⟨w.heap.size + 1, 2, none⟩ x).cell? ⟨ba, off + n' * 8 + 2, none⟩ = some (.int .u8 (at8 row 2)) ∧ (((W.setCell ⟨w.heap.size + 1, 0, none⟩ u).setCell ⟨w.heap.size + 1, 1, none⟩ v).setCell ⟨w.heap.size + 1, 2, none⟩ x).cell? ⟨ba, off + n' * 8 + 3, none⟩ = some (.int .u8 (at8 row 3)) ∧ (((W.setCell ⟨w.heap.size + 1, 0, none⟩ u).setCell ⟨w.heap.size + 1, 1, none⟩ v).setCell ⟨w.heap.size + 1, 2, none⟩ x).cell? ⟨ba, off + n' * 8 + 4, none⟩ = some (.int .u8 (at8 row 4)) ∧ (((W.setCell ⟨w.heap.size + 1, 0, none⟩ u).setCell ⟨w.heap.size + 1, 1, none⟩ v).setCell ⟨w.heap.size + 1, 2, none⟩ x).cell? ⟨ba, off + n' * 8 + 5, none⟩ = some (.int .u8 (at8 row 5)) ∧ (((W.setCell ⟨w.heap.size + 1, 0, none⟩ u).setCell ⟨w.heap.size + 1, 1, none⟩ v).setCell ⟨w.heap.size + 1, 2, none⟩ x).cell? ⟨ba, off + n' * 8 + 6, none⟩ = some (.int .u8 (at8 row 6)) ∧ (((W.setCell ⟨w.heap.size + 1, 0, none⟩ u).setCell ⟨w.heap.size + 1, 1, none⟩ v).setCell ⟨w.heap.size + 1, 2, none⟩ x).cell? ⟨ba, off + n' * 8 + 7, none⟩ = some (.int .u8 (at8 row 7)))) := Lib.hid fun W h u v x => ⟨((A.out.below h).set3 (g2 := w.heap.size + 1) (by omega) u v x).all, (show Cells8 (((W.setCell ⟨w.heap.size + 1, 0, none⟩ u).setCell ⟨w.heap.size + 1, 1, none⟩ v).setCell ⟨w.heap.size + 1, 2, none⟩ x) ba (off + n' * 8) row from fun i hi => ((below_set3 (below_go B.out h (by have := zz.out; omega)) (g2 := w.heap.size + 1) (by omega) u v x).cell hba).trans (HC.out i hi)).flat⟩
  refine wp_region_held_drew (S := (fun w' => (w'.cell? ⟨w.heap.size, 0, none⟩ = some (.int .i64 m) ∧ w'.cell? ⟨w.heap.size, 1, none⟩ = some (.int .i64 p) ∧ w'.cell? ⟨w.heap.size, 2, none⟩ = some (.slice (some ⟨ba, off, none⟩) (n' + 1) cap)) ∧ (w'.cell? ⟨ba, off + n' * 8, none⟩ = some (.int .u8 (at8 row 0)) ∧ w'.cell? ⟨ba, off + n' * 8 + 1, none⟩ = some (.int .u8 (at8 row 1)) ∧ w'.cell? ⟨ba, off + n' * 8 + 2, none⟩ = some (.int .u8 (at8 row 2)) ∧ w'.cell? ⟨ba, off + n' * 8 + 3, none⟩ = some (.int .u8 (at8 row 3)) ∧ w'.cell? ⟨ba, off + n' * 8 + 4, none⟩ = some (.int .u8 (at8 row 4)) ∧ w'.cell? ⟨ba, off + n' * 8 + 5, none⟩ = some (.int .u8 (at8 row 5)) ∧ w'.cell? ⟨ba, off + n' * 8 + 6, none⟩ = some (.int .u8 (at8 row 6)) ∧ w'.cell? ⟨ba, off + n' * 8 + 7, none⟩ = some (.int .u8 (at8 row 7))))) (by kernel_rfl) ?_ (fun hHeld => ?_)
  ·first | with_reducible exact SH.out _ KB.out | with_reducible exact SZ.out _ KB.out _ _ _
  refine wpAnyH_take (i := 0) (oi := { dst := some 10, op := Op.load 28 (Operand.tmp 1), type := 28, pos := "l04_conjugacy.go:55", after := #[], guard := none }) (v := ?_) rfl (by kernel_rfl) (by kernel_rfl) (by kernel_rfl) (fun _ _ _ h => h) (Or.inl ⟨by rfl, ?_⟩) (by assumption) ?_
  rotate_left
  ·intro w hSw
   (try dsimp only at hSw)
   go_simp
   try with_reducible rfl
  try simp only [Act.put, List.setIfInBounds_toArray, List.set_cons_zero, List.set_cons_succ]
  refine wpAnyH_take (i := 1) (oi := { dst := some 11, op := Op.load 28 (Operand.tmp 1), type := 28, pos := "l04_conjugacy.go:55", after := #[], guard := none }) (v := ?_) rfl (by kernel_rfl) (by kernel_rfl) (by kernel_rfl) (fun _ _ _ h => h) (Or.inl ⟨by rfl, ?_⟩) (by assumption) ?_
  rotate_left
  ·intro w hSw
   (try dsimp only at hSw)
   go_simp
   try with_reducible rfl
  try simp only [Act.put, List.setIfInBounds_toArray, List.set_cons_zero, List.set_cons_succ]
  refine wpAnyH_take (i := 3) (oi := { dst := some 13, op := Op.fieldAddr 28 (Operand.tmp 1) 2, type := 0, pos := "l04_conjugacy.go:55", after := #[], guard := none }) (v := ?_) rfl (by kernel_rfl) (by kernel_rfl) (by kernel_rfl) (fun _ _ _ h => h) (Or.inl ⟨by rfl, ?_⟩) (by assumption) ?_
  rotate_left
  ·intro w hSw
   (try dsimp only at hSw)
   go_simp
   try with_reducible rfl
  try simp only [Act.put, List.setIfInBounds_toArray, List.set_cons_zero, List.set_cons_succ]
  refine wpAnyH_take (i := 4) (oi := { dst := some 14, op := Op.load 26 (Operand.tmp 13), type := 26, pos := "l04_conjugacy.go:55", after := #[{ on := 3, ground := Ground.data }], guard := none }) (v := ?_) rfl (by kernel_rfl) (by kernel_rfl) (by kernel_rfl) (fun _ _ _ h => h) (Or.inl ⟨by rfl, ?_⟩) (by assumption) ?_
  rotate_left
  ·intro w hSw
   (try dsimp only at hSw)
   go_simp
   try with_reducible rfl
  try simp only [Act.put, List.setIfInBounds_toArray, List.set_cons_zero, List.set_cons_succ]
  refine wpAnyH_take (i := 5) (oi := { dst := some 15, op := Op.move (Operand.tmp 3), type := 3, pos := "l04_conjugacy.go:55", after := #[], guard := none }) (v := ?_) rfl (by kernel_rfl) (by kernel_rfl) (by kernel_rfl) (fun _ _ _ h => h) (Or.inl ⟨by rfl, ?_⟩) (by assumption) ?_
  rotate_left
  ·intro w hSw
   (try dsimp only at hSw)
   go_simp
   try with_reducible rfl
  try simp only [Act.put, List.setIfInBounds_toArray, List.set_cons_zero, List.set_cons_succ]
  refine wpAnyH_take (i := 6) (oi := { dst := some 16, op := Op.binOp BinOp.sub 3 (Operand.tmp 15) (Operand.const (Value.int IntKind.i64 1)) 3, type := 3, pos := "l04_conjugacy.go:55", after := #[{ on := 5, ground := Ground.data }], guard := none }) (v := ?_) rfl (by kernel_rfl) (by kernel_rfl) (by kernel_rfl) (fun _ _ _ h => h) (Or.inl ⟨by rfl, ?_⟩) (by assumption) ?_
  rotate_left
  ·intro w hSw
   (try dsimp only at hSw)
   go_simp
   try with_reducible rfl
  try simp only [Act.put, List.setIfInBounds_toArray, List.set_cons_zero, List.set_cons_succ]
  refine wpAnyH_take (i := 7) (oi := { dst := some 17, op := Op.indexAddr 26 (Operand.tmp 14) (Operand.tmp 16), type := 0, pos := "l04_conjugacy.go:55", after := #[{ on := 4, ground := Ground.data }, { on := 6, ground := Ground.data }], guard := none }) (v := ?_) rfl (by kernel_rfl) (by kernel_rfl) (by kernel_rfl) (fun _ _ _ h => h) (Or.inl ⟨by rfl, ?_⟩) (by assumption) ?_
  rotate_left
  ·intro w hSw
   (try dsimp only at hSw)
   go_simp
   try with_reducible rfl
  try simp only [Act.put, List.setIfInBounds_toArray, List.set_cons_zero, List.set_cons_succ]
  refine wpAnyH_take (i := 8) (oi := { dst := some 18, op := Op.load 54 (Operand.tmp 17), type := 54, pos := "l04_conjugacy.go:55", after := #[{ on := 7, ground := Ground.data }], guard := none }) (v := ?_) rfl (by kernel_rfl) (by kernel_rfl) (by kernel_rfl) (fun _ _ _ h => h) (Or.inl ⟨by rfl, ?_⟩) (by assumption) ?_
  rotate_left
  ·intro w hSw
   (try dsimp only at hSw)
   go_simp
   try with_reducible rfl
  try simp only [Act.put, List.setIfInBounds_toArray, List.set_cons_zero, List.set_cons_succ]
  refine wpAnyH_take (i := 9) (oi := { dst := some 19, op := Op.fieldAddr 28 (Operand.tmp 1) 0, type := 0, pos := "l04_conjugacy.go:55", after := #[], guard := none }) (v := ?_) rfl (by kernel_rfl) (by kernel_rfl) (by kernel_rfl) (fun _ _ _ h => h) (Or.inl ⟨by rfl, ?_⟩) (by assumption) ?_
  rotate_left
  ·intro w hSw
   (try dsimp only at hSw)
   go_simp
   try with_reducible rfl
  try simp only [Act.put, List.setIfInBounds_toArray, List.set_cons_zero, List.set_cons_succ]
  refine wpAnyH_take (i := 10) (oi := { dst := some 20, op := Op.load 2 (Operand.tmp 19), type := 2, pos := "l04_conjugacy.go:55", after := #[{ on := 9, ground := Ground.data }], guard := none }) (v := ?_) rfl (by kernel_rfl) (by kernel_rfl) (by kernel_rfl) (fun _ _ _ h => h) (Or.inl ⟨by rfl, ?_⟩) (by assumption) ?_
  rotate_left
  ·intro w hSw
   (try dsimp only at hSw)
   go_simp
   try with_reducible rfl
  try simp only [Act.put, List.setIfInBounds_toArray, List.set_cons_zero, List.set_cons_succ]
  refine wpAnyH_take (i := 12) (oi := { dst := some 22, op := Op.fieldAddr 28 (Operand.tmp 1) 0, type := 0, pos := "l04_conjugacy.go:55", after := #[], guard := none }) (v := ?_) rfl (by kernel_rfl) (by kernel_rfl) (by kernel_rfl) (fun _ _ _ h => h) (Or.inl ⟨by rfl, ?_⟩) (by assumption) ?_
  rotate_left
  ·intro w hSw
   (try dsimp only at hSw)
   go_simp
   try with_reducible rfl
  try simp only [Act.put, List.setIfInBounds_toArray, List.set_cons_zero, List.set_cons_succ]
  refine wpAnyH_take (i := 13) (oi := { dst := some 23, op := Op.load 2 (Operand.tmp 22), type := 2, pos := "l04_conjugacy.go:55", after := #[{ on := 12, ground := Ground.data }], guard := none }) (v := ?_) rfl (by kernel_rfl) (by kernel_rfl) (by kernel_rfl) (fun _ _ _ h => h) (Or.inl ⟨by rfl, ?_⟩) (by assumption) ?_
  rotate_left
  ·intro w hSw
   (try dsimp only at hSw)
   go_simp
   try with_reducible rfl
  try simp only [Act.put, List.setIfInBounds_toArray, List.set_cons_zero, List.set_cons_succ]
  refine wpAnyH_ready (rs := [2]) (by kernel_rfl) (by simp) ?_
  refine AllReadyH.cons (o := { dst := some 12, op := Op.call { callee := Callee.value (Operand.func 91), args := #[Operand.tmp 11], argTypes := #[28] }, type := 54, pos := "l04_conjugacy.go:55", after := #[{ on := 1, ground := Ground.data }], guard := none }) rfl (fun K hK => ?_) ?_
  ·go_simp
   refine (l04First_any m p (some ⟨ba, off, none⟩) (n' + 1) cap l _ (HRR.out.below (below_go B.out KB.out (by have := zz.out; omega))) HL.out (by omega) (by omega)).mono ?_
   rintro e3 w3 ⟨rfl, gg⟩
   replace KB := Lib.hid (below_go KB.out gg KB.out.size)
   clear gg
   go_wp2_with fail
   refine hK.out _ _ ?_ (fun hHeld => ?_)
   ·first | with_reducible exact SH.out _ KB.out | with_reducible exact SZ.out _ KB.out _ _ _
   clear hK K
   try simp only [Act.put, List.setIfInBounds_toArray, List.set_cons_zero, List.set_cons_succ]
   refine wpAnyH_ready (rs := [11]) (by kernel_rfl) (by simp) ?_
   refine AllReadyH.cons (o := { dst := some 21, op := Op.call { callee := Callee.value (Operand.func 103), args := #[Operand.tmp 18, Operand.tmp 20], argTypes := #[54, 2] }, type := 54, pos := "l04_conjugacy.go:55", after := #[{ on := 8, ground := Ground.data }, { on := 10, ground := Ground.data }, { on := 2, ground := Ground.chain }], guard := none }) rfl (fun K hK => ?_) ?_
   ·go_simp
    refine (l02Complement_com m row SR.out _).mono ?_
    rintro e4 w4 ⟨rfl, gg⟩
    replace KB := Lib.hid (below_go KB.out gg KB.out.size)
    clear gg
    go_wp2_with fail
    refine hK.out _ _ ?_ (fun hHeld => ?_)
    ·first | with_reducible exact SH.out _ KB.out | with_reducible exact SZ.out _ KB.out _ _ _
    clear hK K
    try simp only [Act.put, List.setIfInBounds_toArray, List.set_cons_zero, List.set_cons_succ]
    refine wpAnyH_ready (rs := [14]) (by kernel_rfl) (by simp) ?_
    refine AllReadyH.cons (o := { dst := some 24, op := Op.call { callee := Callee.value (Operand.func 102), args := #[Operand.tmp 12, Operand.tmp 21, Operand.tmp 23], argTypes := #[54, 54, 2] }, type := 54, pos := "l04_conjugacy.go:55", after := #[{ on := 2, ground := Ground.data }, { on := 11, ground := Ground.data }, { on := 13, ground := Ground.data }, { on := 11, ground := Ground.chain }], guard := none }) rfl (fun K hK => ?_) ?_
    ·go_simp
     refine (l02Meet_meet m (turnK m p (rowAt l 0)) (comR m row) SF.out (comR_sim SR.out) _).mono ?_
     rw [← HSM.out]
     rintro e5 w5 ⟨rfl, gg⟩
     replace KB := Lib.hid (below_go KB.out gg KB.out.size)
     clear gg
     go_wp2_with fail
     refine hK.out _ _ ?_ (fun hHeld => ?_)
     ·first | with_reducible exact SH.out _ KB.out | with_reducible exact SZ.out _ KB.out _ _ _
     clear hK K
     try simp only [Act.put, List.setIfInBounds_toArray, List.set_cons_zero, List.set_cons_succ]
     refine wpAnyH_ready (rs := [15]) (by kernel_rfl) (by simp) ?_
     refine AllReadyH.cons (o := { dst := some 25, op := Op.call { callee := Callee.value (Operand.func 101), args := #[Operand.tmp 10, Operand.tmp 24], argTypes := #[28, 54] }, type := 28, pos := "l04_conjugacy.go:55", after := #[{ on := 0, ground := Ground.data }, { on := 14, ground := Ground.data }, { on := 14, ground := Ground.chain }], guard := none }) rfl (fun K hK => ?_) ?_
     ·go_simp
      refine (l04Conjugate_any m m1 m8 p hp (some ⟨ba, off, none⟩) (n' + 1) cap l sm _ (HRR.out.below (below_go B.out KB.out (by have := zz.out; omega))) HL.out S_.out hn e kf HM.out).mono ?_
      rintro e8 w8 ⟨a8, n8, c8, rfl, ho, gg⟩
      have O8 := Lib.hid (ho.mono KB.out.size)
      have hc8 : n8 ≤ c8 := ho.cap_le
      replace KB := Lib.hid (below_go KB.out gg KB.out.size)
      clear gg ho
      obtain ⟨x0, ⟨x1, x2, x3⟩, y1, y2, y3⟩ := Z.out.below KB.out
      go_wp2_with fail
      refine hK.out _ _ ?_ (fun hHeld => ?_)
      ·first | with_reducible exact SH.out _ KB.out | with_reducible exact SZ.out _ KB.out _ _ _
      clear hK K
      try simp only [Act.put, List.setIfInBounds_toArray, List.set_cons_zero, List.set_cons_succ]
      refine wpAnyH_ready (rs := [16]) (by kernel_rfl) (by simp) ?_
      refine AllReadyH.cons (o := { dst := none, op := Op.store 28 (Operand.tmp 2) (Operand.tmp 25), type := 0, pos := "l04_conjugacy.go:55", after := #[{ on := 15, ground := Ground.data }, { on := 15, ground := Ground.chain }, { on := 0, ground := Ground.phase }, { on := 1, ground := Ground.phase }, { on := 2, ground := Ground.phase }, { on := 3, ground := Ground.phase }, { on := 4, ground := Ground.phase }, { on := 5, ground := Ground.phase }, { on := 6, ground := Ground.phase }, { on := 7, ground := Ground.phase }, { on := 8, ground := Ground.phase }, { on := 9, ground := Ground.phase }, { on := 10, ground := Ground.phase }, { on := 11, ground := Ground.phase }, { on := 12, ground := Ground.phase }, { on := 13, ground := Ground.phase }, { on := 14, ground := Ground.phase }, { on := 15, ground := Ground.phase }], guard := none }) rfl (fun K hK => ?_) ?_
      ·go_simp
       refine hK.out _ _ ?_ (fun hHeld => ?_)
       ·first | with_reducible exact SH.out _ KB.out | with_reducible exact SZ.out _ KB.out _ _ _
       clear hK K
       try simp only [Act.put, List.setIfInBounds_toArray, List.set_cons_zero, List.set_cons_succ]
       refine wpAnyH_done (by kernel_rfl) ?_ _
       go_wp2_with fail
       try rw [Exit.noGoto_ret]
       obtain ⟨_, ⟨z1, z2, z3⟩, _⟩ := (Z.out.below KB.out).fill (.int .i64 m) (.int .i64 e) (.slice a8 n8 c8)
       exact bodyPost_ret (v := .agg #[.int .i64 m, .int .i64 e, .slice a8 n8 c8]) (by simp [results, Try.results65, go_sem, z1, z2, z3]) rfl ⟨a8, n8, c8, rfl, hc8, (O8.out.set3 (by have := zz.out; omega) _ _ _).reads, below_set3 (below_go B.out KB.out (by have := zz.out; omega)) (by omega) _ _ _⟩
      exact AllReadyH.nil
     exact AllReadyH.nil
    exact AllReadyH.nil
   exact AllReadyH.nil
  exact AllReadyH.nil

end Go.Proofs.Ytleoohplnkdbdab

