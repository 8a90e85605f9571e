/- The model: sliding. -/
import Derived.Test.YtleoohplnkdbdaaBoPQ
import Derived.Test.YtleoohplnkdbdaaBoSDec
import Derived.Test.YtleoohplnkdbdaaBoSTim
namespace Go.Proofs.Ytleoohplnkdbdaa
open Go.RowKit Go.ChangeShapes

set_option maxRecDepth 100000 in
set_option maxHeartbeats 1000000 in
theorem l03Less_any (m : Nat) (m1 : 1 ≤ m) (m8 : m ≤ 8) (p : Int) (hp : -100000 ≤ p ∧ p ≤ 100000) (a : Option Addr) (n cap : Nat) (l : List (List Int)) (s : List Int) (w : World) (hr : ReadsA w a n l) (hl : Sims m l) (hss : Sim m s) (hn : n ≤ 50000) (e : Int) (kf : List (List Int)) (hM : lessN m p l s = (e, kf)) :
  Calls Try.prog 77 #[.agg #[.int .i64 m, .int .i64 p, .slice a n cap], arr8 .u8 s] w (RetNormal w m e kf) := by
 obtain ⟨i0, hi, hz0, hz1, hz2⟩ := info_parts infoSimple
 have HN := Lib.hid hr.len
 have HRR := Lib.hid hr
 have HL := Lib.hid hl
 have SS := Lib.hid hss
 have S8 := Lib.hid hss.len
 clear hl hr hss
 have HM : Hid (mkN m (p - 1) (turnK m p (leftR m s) :: l) = (e, kf)) := Lib.hid hM
 have SL := Lib.hid (leftR_sim SS.out)
 have L8 := Lib.hid SL.out.len
 clear hM
 go_enter Try.func77, Try.ntmps77
 have A := Lib.hid (((At3.place w (.int .i64 m) (.int .i64 p) (.slice a n cap) 28 w.heap.size rfl).alloc (.cells #[.int .u8 (at8 s 0), .int .u8 (at8 s 1), .int .u8 (at8 s 2), .int .u8 (at8 s 3), .int .u8 (at8 s 4), .int .u8 (at8 s 5), .int .u8 (at8 s 6), .int .u8 (at8 s 7)] 77)).alloc (.cells #[.int .i64 0, .int .i64 0, .slice none 0 0] 28))
 have X := Lib.hid ((Row8.place (w.alloc (.cells #[.int .i64 m, .int .i64 p, .slice a n cap] 28)) .u8 s 77 (w.heap.size + 1) (by simp) S8.out).alloc (.cells #[.int .i64 0, .int .i64 0, .slice none 0 0] 28))
 have Z := Lib.hid (At3.place ((w.alloc (.cells #[.int .i64 m, .int .i64 p, .slice a n cap] 28)).alloc (.cells #[.int .u8 (at8 s 0), .int .u8 (at8 s 1), .int .u8 (at8 s 2), .int .u8 (at8 s 3), .int .u8 (at8 s 4), .int .u8 (at8 s 5), .int .u8 (at8 s 6), .int .u8 (at8 s 7)] 77)) (.int .i64 0) (.int .i64 0) (.slice none 0 0) 28 (w.heap.size + 1 + 1) (by simp))
 have B := Lib.hid (((below1 w (.cells #[.int .i64 m, .int .i64 p, .slice a n cap] 28)).alloc (by simp) (.cells #[.int .u8 (at8 s 0), .int .u8 (at8 s 1), .int .u8 (at8 s 2), .int .u8 (at8 s 3), .int .u8 (at8 s 4), .int .u8 (at8 s 5), .int .u8 (at8 s 6), .int .u8 (at8 s 7)] 77)).alloc (by simp; omega) (.cells #[.int .i64 0, .int .i64 0, .slice none 0 0] 28))
 go_upto_region 1 with fail
 obtain ⟨W0, hW0⟩ : ∃ W0, W0 = (((w.alloc (.cells #[.int .i64 m, .int .i64 p, .slice a n cap] 28)).alloc (.cells #[.int .u8 (at8 s 0), .int .u8 (at8 s 1), .int .u8 (at8 s 2), .int .u8 (at8 s 3), .int .u8 (at8 s 4), .int .u8 (at8 s 5), .int .u8 (at8 s 6), .int .u8 (at8 s 7)] 77)).alloc (.cells #[.int .i64 0, .int .i64 0, .slice none 0 0] 28)) := ⟨_, rfl⟩
 have zz : Hid (W0.heap.size = w.heap.size + 1 + 1 + 1) := Lib.hid (by rw [hW0]; simp)
 rw [← hW0] at A X Z B ⊢
 clear hW0
 obtain ⟨q1, q2, q3⟩ := A.out.all
 have t0 := tmod_even p
 have hwp : IntKind.i64.wrap (p - 1) = p - 1 := IntWalk.i64_in _ (by omega)
 go_upto_region 2 with fail
 clear q1 q2 q3
 have KB : Hid (Below W0.heap.size W0 W0.drew) := Lib.hid (Below.refl W0.heap.size W0).drew
 have SH : Hid (∀ W, Below W0.heap.size W0 W → (W.cell? ⟨w.heap.size, 0, none⟩ = some (.int .i64 m) ∧ W.cell? ⟨w.heap.size, 1, none⟩ = some (.int .i64 p) ∧ W.cell? ⟨w.heap.size, 2, none⟩ = some (.slice a n cap)) ∧ (W.cell? ⟨w.heap.size + 1, 0, none⟩ = some (.int .u8 (at8 s 0)) ∧ W.cell? ⟨w.heap.size + 1, 1, none⟩ = some (.int .u8 (at8 s 1)) ∧ W.cell? ⟨w.heap.size + 1, 2, none⟩ = some (.int .u8 (at8 s 2)) ∧ W.cell? ⟨w.heap.size + 1, 3, none⟩ = some (.int .u8 (at8 s 3)) ∧ W.cell? ⟨w.heap.size + 1, 4, none⟩ = some (.int .u8 (at8 s 4)) ∧ W.cell? ⟨w.heap.size + 1, 5, none⟩ = some (.int .u8 (at8 s 5)) ∧ W.cell? ⟨w.heap.size + 1, 6, none⟩ = some (.int .u8 (at8 s 6)) ∧ W.cell? ⟨w.heap.size + 1, 7, none⟩ = some (.int .u8 (at8 s 7)))) := Lib.hid fun W h => ⟨(A.out.below h).all, (X.out.below h).flat⟩
 have SZ : Hid (∀ W, Below W0.heap.size W0 W → ∀ u v x, ((((W.setCell ⟨w.heap.size + 1 + 1, 0, none⟩ u).setCell ⟨w.heap.size + 1 + 1, 1, none⟩ v).setCell ⟨w.heap.size + 1 + 1, 2, none⟩ x).cell? ⟨w.heap.size, 0, none⟩ = some (.int .i64 m) ∧ (((W.setCell ⟨w.heap.size + 1 + 1, 0, none⟩ u).setCell ⟨w.heap.size + 1 + 1, 1, none⟩ v).setCell ⟨w.heap.size + 1 + 1, 2, none⟩ x).cell? ⟨w.heap.size, 1, none⟩ = some (.int .i64 p) ∧ (((W.setCell ⟨w.heap.size + 1 + 1, 0, none⟩ u).setCell ⟨w.heap.size + 1 + 1, 1, none⟩ v).setCell ⟨w.heap.size + 1 + 1, 2, none⟩ x).cell? ⟨w.heap.size, 2, none⟩ = some (.slice a n cap)) ∧ ((((W.setCell ⟨w.heap.size + 1 + 1, 0, none⟩ u).setCell ⟨w.heap.size + 1 + 1, 1, none⟩ v).setCell ⟨w.heap.size + 1 + 1, 2, none⟩ x).cell? ⟨w.heap.size + 1, 0, none⟩ = some (.int .u8 (at8 s 0)) ∧ (((W.setCell ⟨w.heap.size + 1 + 1, 0, none⟩ u).setCell ⟨w.heap.size + 1 + 1, 1, none⟩ v).setCell ⟨w.heap.size + 1 + 1, 2, none⟩ x).cell? ⟨w.heap.size + 1, 1, none⟩ = some (.int .u8 (at8 s 1)) ∧ (((W.setCell ⟨w.heap.size + 1 + 1, 0, none⟩ u).setCell ⟨w.heap.size + 1 + 1, 1, none⟩ v).setCell ⟨w.heap.size + 1 + 1, 2, none⟩ x).cell? ⟨w.heap.size + 1, 2, none⟩ = some (.int .u8 (at8 s 2)) ∧ (((W.setCell ⟨w.heap.size + 1 + 1, 0, none⟩ u).setCell ⟨w.heap.size + 1 + 1, 1, none⟩ v).setCell ⟨w.heap.size + 1 + 1, 2, none⟩ x).cell? ⟨w.heap.size + 1, 3, none⟩ = some (.int .u8 (at8 s 3)) ∧ (((W.setCell ⟨w.heap.size + 1 + 1, 0, none⟩ u).setCell ⟨w.heap.size + 1 + 1, 1, none⟩ v).setCell ⟨w.heap.size + 1 + 1, 2, none⟩ x).cell? ⟨w.heap.size + 1, 4, none⟩ = some (.int .u8 (at8 s 4)) ∧ (((W.setCell ⟨w.heap.size + 1 + 1, 0, none⟩ u).setCell ⟨w.heap.size + 1 + 1, 1, none⟩ v).setCell ⟨w.heap.size + 1 + 1, 2, none⟩ x).cell? ⟨w.heap.size + 1, 5, none⟩ = some (.int .u8 (at8 s 5)) ∧ (((W.setCell ⟨w.heap.size + 1 + 1, 0, none⟩ u).setCell ⟨w.heap.size + 1 + 1, 1, none⟩ v).setCell ⟨w.heap.size + 1 + 1, 2, none⟩ x).cell? ⟨w.heap.size + 1, 6, none⟩ = some (.int .u8 (at8 s 6)) ∧ (((W.setCell ⟨w.heap.size + 1 + 1, 0, none⟩ u).setCell ⟨w.heap.size + 1 + 1, 1, none⟩ v).setCell ⟨w.heap.size + 1 + 1, 2, none⟩ x).cell? ⟨w.heap.size + 1, 7, none⟩ = some (.int .u8 (at8 s 7)))) := Lib.hid fun W h u v x => ⟨((A.out.below h).set3 (g2 := w.heap.size + 1 + 1) (by omega) u v x).all, ((X.out.below h).set3 (g2 := w.heap.size + 1 + 1) (by omega) u v x).flat⟩
 refine wp_region_held_drew (S := (fun w' => (w'.cell? ⟨w.heap.size, 0, none⟩ = some (.int .i64 m) ∧ w'.cell? ⟨w.heap.size, 1, none⟩ = some (.int .i64 p) ∧ w'.cell? ⟨w.heap.size, 2, none⟩ = some (.slice a n cap)) ∧ (w'.cell? ⟨w.heap.size + 1, 0, none⟩ = some (.int .u8 (at8 s 0)) ∧ w'.cell? ⟨w.heap.size + 1, 1, none⟩ = some (.int .u8 (at8 s 1)) ∧ w'.cell? ⟨w.heap.size + 1, 2, none⟩ = some (.int .u8 (at8 s 2)) ∧ w'.cell? ⟨w.heap.size + 1, 3, none⟩ = some (.int .u8 (at8 s 3)) ∧ w'.cell? ⟨w.heap.size + 1, 4, none⟩ = some (.int .u8 (at8 s 4)) ∧ w'.cell? ⟨w.heap.size + 1, 5, none⟩ = some (.int .u8 (at8 s 5)) ∧ w'.cell? ⟨w.heap.size + 1, 6, none⟩ = some (.int .u8 (at8 s 6)) ∧ w'.cell? ⟨w.heap.size + 1, 7, none⟩ = some (.int .u8 (at8 s 7))))) (by kernel_rfl) ?_ (fun hHeld => ?_)
 ·first | with_reducible exact SH.out _ KB.out | with_reducible exact SZ.out _ KB.out _ _ _
 refine wpAnyH_take (i := 0) (oi := { dst := some 9, op := Op.load 77 (Operand.tmp 3), type := 77, pos := "l03_normal.go:284", after := #[], guard := none }) (v := ?_) rfl (by kernel_rfl) (by kernel_rfl) (by kernel_rfl) (fun _ _ _ h => h) (Or.inl ⟨by rfl, ?_⟩) (by assumption) ?_
 rotate_left
 ·intro w hSw
  (try dsimp only at hSw)
  go_simp
  try with_reducible rfl
 try simp only [Act.put, List.setIfInBounds_toArray, List.set_cons_zero, List.set_cons_succ]
 refine wpAnyH_take (i := 1) (oi := { dst := some 10, op := Op.move (Operand.tmp 5), type := 2, pos := "l03_normal.go:284", after := #[], guard := none }) (v := ?_) rfl (by kernel_rfl) (by kernel_rfl) (by kernel_rfl) (fun _ _ _ h => h) (Or.inl ⟨by rfl, ?_⟩) (by assumption) ?_
 rotate_left
 ·intro w hSw
  (try dsimp only at hSw)
  go_simp
  try with_reducible rfl
 try simp only [Act.put, List.setIfInBounds_toArray, List.set_cons_zero, List.set_cons_succ]
 refine wpAnyH_take (i := 4) (oi := { dst := some 13, op := Op.fieldAddr 28 (Operand.tmp 2) 2, type := 0, pos := "l03_normal.go:284", after := #[], guard := none }) (v := ?_) rfl (by kernel_rfl) (by kernel_rfl) (by kernel_rfl) (fun _ _ _ h => h) (Or.inl ⟨by rfl, ?_⟩) (by assumption) ?_
 rotate_left
 ·intro w hSw
  (try dsimp only at hSw)
  go_simp
  try with_reducible rfl
 try simp only [Act.put, List.setIfInBounds_toArray, List.set_cons_zero, List.set_cons_succ]
 refine wpAnyH_take (i := 5) (oi := { dst := some 14, op := Op.load 26 (Operand.tmp 13), type := 26, pos := "l03_normal.go:284", after := #[{ on := 4, ground := Ground.data }], guard := none }) (v := ?_) rfl (by kernel_rfl) (by kernel_rfl) (by kernel_rfl) (fun _ _ _ h => h) (Or.inl ⟨by rfl, ?_⟩) (by assumption) ?_
 rotate_left
 ·intro w hSw
  (try dsimp only at hSw)
  go_simp
  try with_reducible rfl
 try simp only [Act.put, List.setIfInBounds_toArray, List.set_cons_zero, List.set_cons_succ]
 refine wpAnyH_ready (rs := [2]) (by kernel_rfl) (by simp) ?_
 refine AllReadyH.cons (o := { dst := some 11, op := Op.call { callee := Callee.value (Operand.func 91), args := #[Operand.tmp 9, Operand.tmp 10], argTypes := #[77, 2] }, type := 77, pos := "l03_normal.go:284", after := #[{ on := 0, ground := Ground.data }, { on := 1, ground := Ground.data }], guard := none }) rfl (fun K hK => ?_) ?_
 ·go_simp
  refine (l02Left_left m s SS.out _).mono ?_
  rintro e3 w3 ⟨rfl, gg⟩
  replace KB := Lib.hid (below_go KB.out gg KB.out.size)
  clear gg
  go_wp2_with fail
  refine hK.out _ _ ?_ (fun hHeld => ?_)
  ·first | with_reducible exact SH.out _ KB.out | with_reducible exact SZ.out _ KB.out _ _ _
  clear hK K
  try simp only [Act.put, List.setIfInBounds_toArray, List.set_cons_zero, List.set_cons_succ]
  refine wpAnyH_ready (rs := [3]) (by kernel_rfl) (by simp) ?_
  refine AllReadyH.cons (o := { dst := some 12, op := Op.buildSlice 26 1 #[(0, Operand.tmp 11)], type := 26, pos := "l03_normal.go:284", after := #[{ on := 2, ground := Ground.data }], guard := none }) rfl (fun K hK => ?_) ?_
  ·go_simp
   have O := Lib.hid (OwnAV.one w3 (leftR m s) L8.out)
   replace O : Hid (OwnAV W0.heap.size (w3.alloc (.cells #[.int .u8 (at8 (leftR m s) 0), .int .u8 (at8 (leftR m s) 1), .int .u8 (at8 (leftR m s) 2), .int .u8 (at8 (leftR m s) 3), .int .u8 (at8 (leftR m s) 4), .int .u8 (at8 (leftR m s) 5), .int .u8 (at8 (leftR m s) 6), .int .u8 (at8 (leftR m s) 7)] 77)) (.slice (some ⟨w3.heap.size, 0, none⟩) 1 1) 1 [(leftR m s)]) := Lib.hid (O.out.low KB.out.size)
   replace KB : Hid (Below W0.heap.size W0 (w3.alloc (.cells #[.int .u8 (at8 (leftR m s) 0), .int .u8 (at8 (leftR m s) 1), .int .u8 (at8 (leftR m s) 2), .int .u8 (at8 (leftR m s) 3), .int .u8 (at8 (leftR m s) 4), .int .u8 (at8 (leftR m s) 5), .int .u8 (at8 (leftR m s) 6), .int .u8 (at8 (leftR m s) 7)] 77))) := Lib.hid (KB.out.alloc KB.out.size (.cells #[.int .u8 (at8 (leftR m s) 0), .int .u8 (at8 (leftR m s) 1), .int .u8 (at8 (leftR m s) 2), .int .u8 (at8 (leftR m s) 3), .int .u8 (at8 (leftR m s) 4), .int .u8 (at8 (leftR m s) 5), .int .u8 (at8 (leftR m s) 6), .int .u8 (at8 (leftR m s) 7)] 77))
   obtain ⟨V4, hV4⟩ : ∃ Vx, Vx = w3.alloc (.cells #[.int .u8 (at8 (leftR m s) 0), .int .u8 (at8 (leftR m s) 1), .int .u8 (at8 (leftR m s) 2), .int .u8 (at8 (leftR m s) 3), .int .u8 (at8 (leftR m s) 4), .int .u8 (at8 (leftR m s) 5), .int .u8 (at8 (leftR m s) 6), .int .u8 (at8 (leftR m s) 7)] 77) := ⟨_, rfl⟩
   rw [← hV4] at O KB ⊢
   clear hV4
   refine hK.out _ _ ?_ (fun hHeld => ?_)
   ·first | with_reducible exact SH.out _ KB.out | with_reducible exact SZ.out _ KB.out _ _ _
   clear hK K
   try simp only [Act.put, List.setIfInBounds_toArray, List.set_cons_zero, List.set_cons_succ]
   refine wpAnyH_ready (rs := [6]) (by kernel_rfl) (by simp) ?_
   refine AllReadyH.cons (o := { dst := some 15, op := Op.call { callee := Callee.builtin Builtin.append, args := #[Operand.tmp 12, Operand.tmp 14], argTypes := #[26, 26] }, type := 26, pos := "l03_normal.go:284", after := #[{ on := 3, ground := Ground.data }, { on := 5, ground := Ground.data }, { on := 2, ground := Ground.chain }], guard := none }) rfl (fun K hK => ?_) ?_
   ·refine step_append_rows_at rfl _ _ 26 rfl W0.heap.size i0 Try.underlying26 hi hz0 hz1 hz2 _ _ _ rfl O.out _ _ _ l rfl (HRR.out.below (below_go B.out KB.out (by have := zz.out; omega))) (by omega) KB.out.size ?_
    intro v' w5 ho' hg hv
    replace KB := Lib.hid (below_ownA KB.out KB.out.size (Nat.le_refl _) O.out hg)
    rw [List.singleton_append] at ho'
    obtain ⟨a5, c5, rfl, ho5⟩ := ho'.form
    have P := Lib.hid ho5
    clear ho' hg hv ho5
    refine hK.out _ _ ?_ (fun hHeld => ?_)
    ·first | with_reducible exact SH.out _ KB.out | with_reducible exact SZ.out _ KB.out _ _ _
    clear hK K
    try simp only [Act.put, List.setIfInBounds_toArray, List.set_cons_zero, List.set_cons_succ]
    refine wpAnyH_ready (rs := [7]) (by kernel_rfl) (by simp) ?_
    refine AllReadyH.cons (o := { dst := some 6, op := Op.assign (Operand.tmp 15), type := 26, pos := "l03_normal.go:284", after := #[{ on := 6, ground := Ground.data }, { on := 6, ground := Ground.chain }, { on := 0, ground := Ground.phase }, { on := 1, ground := Ground.phase }, { on := 2, ground := Ground.phase }, { on := 3, ground := Ground.phase }, { on := 4, ground := Ground.phase }, { on := 5, ground := Ground.phase }, { on := 6, ground := Ground.phase }], guard := none }) rfl (fun K hK => ?_) ?_
    ·go_simp
     refine hK.out _ _ ?_ (fun hHeld => ?_)
     ·first | with_reducible exact SH.out _ KB.out | with_reducible exact SZ.out _ KB.out _ _ _
     clear hK K
     try simp only [Act.put, List.setIfInBounds_toArray, List.set_cons_zero, List.set_cons_succ]
     refine wpAnyH_done (by kernel_rfl) ?_ _
     go_upto_region 3 with fail
     clear SH SZ
     replace A := Lib.hid (A.out.below KB.out)
     replace Z := Lib.hid (Z.out.below KB.out)
     replace B := Lib.hid (below_go B.out KB.out (by have := zz.out; omega))
     have hz5 : w.heap.size + 1 + 1 + 1 ≤ w5.heap.size := by rw [← zz.out]; exact KB.out.size
     obtain ⟨q1, q2, q3⟩ := A.out.all
     have hzw := zz.out
     have HZW := Lib.hid hzw
     clear hzw
     by_cases hk : p % 2 = 0
     ·have e1 : turnK m p (leftR m s) = (leftR m s) := by unfold turnK; rw [if_pos hk]
      rw [e1] at HM
      have SM : Hid (Sims m ((leftR m s) :: l)) := Lib.hid (Sims.cons SL.out HL.out)
      have t1 : (p.tmod 2 != 0) = false := by rw [bne, t0, decide_eq_true hk]; rfl
      clear t0 hk e1
      go_wp2_with fail
      refine (l03Make_any m m1 m8 (p - 1) (by omega) _ _ _ ((leftR m s) :: l) _ P.out.reads SM.out (by omega) e kf HM.out).mono ?_
      rintro e8 w8 ⟨a8, n8, c8, rfl, ho, gg⟩
      have hz8 : w5.heap.size ≤ w8.heap.size := gg.size
      replace Z := Lib.hid (Z.out.below gg)
      replace B := Lib.hid (below_go B.out gg B.out.size)
      have O8 := Lib.hid ho
      clear ho gg q1 q2 q3
      obtain ⟨x0, ⟨x1, x2, x3⟩, y1, y2, y3⟩ := Z.out
      obtain ⟨_, ⟨z1, z2, z3⟩, _⟩ := Z.out.fill (.int .i64 m) (.int .i64 e) (.slice a8 n8 c8)
      go_wp2
      try rw [Exit.noGoto_ret]
      exact bodyPost_ret (v := .agg #[.int .i64 m, .int .i64 e, .slice a8 n8 c8]) (by simp [results, Try.results77, go_sem, z1, z2, z3]) rfl ⟨a8, n8, c8, rfl, (O8.out.set3 (by omega) _ _ _).mono (by omega), below_set3 B.out (by omega) _ _ _⟩
     ·have e1 : turnK m p (leftR m s) = turnR m (leftR m s) := by unfold turnK; rw [if_neg hk]
      rw [e1] at HM
      have ST := Lib.hid (turnR_sim SL.out)
      have T8 := Lib.hid ST.out.len
      have SM : Hid (Sims m ((turnR m (leftR m s)) :: l)) := Lib.hid (Sims.cons ST.out HL.out)
      have t1 : (p.tmod 2 != 0) = true := by rw [bne, t0, decide_eq_false hk]; rfl
      clear t0 hk e1
      obtain ⟨g5, rfl, hg5⟩ := P.out.block (by omega)
      have hg5' := Lib.hid hg5
      clear hg5
      have hc0 := P.out.cellAt 0 (by omega)
      rw [Nat.zero_mul] at hc0
      obtain ⟨c0, c1, c2, c3, c4, c5', c6, c7⟩ := hc0.flat
      clear hc0
      have hi0 : (0 : Int) < ((1 + n : Nat) : Int) := by omega
      have hi0' : (0 : Int) < 1 + (n : Int) := by omega
      go_wp2_with fail
      refine (l02Turn_turnR m (leftR m s) SL.out _).mono ?_
      rintro e6 w6 ⟨rfl, gg⟩
      have hz6 : w5.heap.size ≤ w6.heap.size := gg.size
      replace A := Lib.hid (A.out.below gg)
      replace Z := Lib.hid (Z.out.below gg)
      replace B := Lib.hid (below_go B.out gg B.out.size)
      replace P := Lib.hid (P.out.below gg)
      clear gg q1 q2 q3 c0 c1 c2 c3 c4 c5' c6 c7
      have hc0 := P.out.cellAt 0 (by omega)
      rw [Nat.zero_mul] at hc0
      obtain ⟨c0, c1, c2, c3, c4, c5', c6, c7⟩ := hc0.flat
      clear hc0
      have f0 := P.out.frozenAt 0
      have f1 := P.out.frozenAt 1
      have f2 := P.out.frozenAt 2
      have f3 := P.out.frozenAt 3
      have f4 := P.out.frozenAt 4
      have f5 := P.out.frozenAt 5
      have f6 := P.out.frozenAt 6
      have f7 := P.out.frozenAt 7
      have hne : w.heap.size + 1 + 1 + 1 ≤ g5 := by have := hg5'.out.1; rw [HZW.out] at this; exact this
      have vals := Lib.hid hne
      replace P := Lib.hid (P.out.store 0 (by omega) (turnR m (leftR m s)) T8.out)
      simp only [Nat.zero_mul, Nat.zero_add, List.set_cons_zero] at P
      replace A := Lib.hid (A.out.set8 (g2 := g5) (o := 0) (by omega) (.int .u8 (at8 (turnR m (leftR m s)) 0)) (.int .u8 (at8 (turnR m (leftR m s)) 1)) (.int .u8 (at8 (turnR m (leftR m s)) 2)) (.int .u8 (at8 (turnR m (leftR m s)) 3)) (.int .u8 (at8 (turnR m (leftR m s)) 4)) (.int .u8 (at8 (turnR m (leftR m s)) 5)) (.int .u8 (at8 (turnR m (leftR m s)) 6)) (.int .u8 (at8 (turnR m (leftR m s)) 7)))
      replace Z := Lib.hid (Z.out.set8 (g2 := g5) (o := 0) (by omega) (.int .u8 (at8 (turnR m (leftR m s)) 0)) (.int .u8 (at8 (turnR m (leftR m s)) 1)) (.int .u8 (at8 (turnR m (leftR m s)) 2)) (.int .u8 (at8 (turnR m (leftR m s)) 3)) (.int .u8 (at8 (turnR m (leftR m s)) 4)) (.int .u8 (at8 (turnR m (leftR m s)) 5)) (.int .u8 (at8 (turnR m (leftR m s)) 6)) (.int .u8 (at8 (turnR m (leftR m s)) 7)))
      replace B := Lib.hid (below_fill8 B.out g5 (by omega) (.int .u8 (at8 (turnR m (leftR m s)) 0)) (.int .u8 (at8 (turnR m (leftR m s)) 1)) (.int .u8 (at8 (turnR m (leftR m s)) 2)) (.int .u8 (at8 (turnR m (leftR m s)) 3)) (.int .u8 (at8 (turnR m (leftR m s)) 4)) (.int .u8 (at8 (turnR m (leftR m s)) 5)) (.int .u8 (at8 (turnR m (leftR m s)) 6)) (.int .u8 (at8 (turnR m (leftR m s)) 7)))
      go_upto_region 5 with fail
      obtain ⟨V, hV⟩ : ∃ Vx, Vx = ((((((((w6.setCell ⟨g5, 0, none⟩ (.int .u8 (at8 (turnR m (leftR m s)) 0))).setCell ⟨g5, 1, none⟩ (.int .u8 (at8 (turnR m (leftR m s)) 1))).setCell ⟨g5, 2, none⟩ (.int .u8 (at8 (turnR m (leftR m s)) 2))).setCell ⟨g5, 3, none⟩ (.int .u8 (at8 (turnR m (leftR m s)) 3))).setCell ⟨g5, 4, none⟩ (.int .u8 (at8 (turnR m (leftR m s)) 4))).setCell ⟨g5, 5, none⟩ (.int .u8 (at8 (turnR m (leftR m s)) 5))).setCell ⟨g5, 6, none⟩ (.int .u8 (at8 (turnR m (leftR m s)) 6))).setCell ⟨g5, 7, none⟩ (.int .u8 (at8 (turnR m (leftR m s)) 7))) := ⟨_, rfl⟩
      have hzV : w.heap.size + 1 + 1 + 1 ≤ V.heap.size := by rw [hV]; simp [World.setCell]; omega
      rw [← hV] at A Z B P ⊢
      clear hV c0 c1 c2 c3 c4 c5' c6 c7 f0 f1 f2 f3 f4 f5 f6 f7
      obtain ⟨q1, q2, q3⟩ := A.out.all
      go_wp2_with fail
      refine (l03Make_any m m1 m8 (p - 1) (by omega) _ _ _ ((turnR m (leftR m s)) :: l) _ P.out.reads SM.out (by omega) e kf HM.out).mono ?_
      rintro e8 w8 ⟨a8, n8, c8, rfl, ho, gg⟩
      have hz8 : V.heap.size ≤ w8.heap.size := gg.size
      replace Z := Lib.hid (Z.out.below gg)
      replace B := Lib.hid (below_go B.out gg B.out.size)
      have O8 := Lib.hid ho
      clear ho gg q1 q2 q3
      obtain ⟨x0, ⟨x1, x2, x3⟩, y1, y2, y3⟩ := Z.out
      obtain ⟨_, ⟨z1, z2, z3⟩, _⟩ := Z.out.fill (.int .i64 m) (.int .i64 e) (.slice a8 n8 c8)
      go_wp2
      try rw [Exit.noGoto_ret]
      exact bodyPost_ret (v := .agg #[.int .i64 m, .int .i64 e, .slice a8 n8 c8]) (by simp [results, Try.results77, go_sem, z1, z2, z3]) rfl ⟨a8, n8, c8, rfl, (O8.out.set3 (by omega) _ _ _).mono (by omega), below_set3 B.out (by omega) _ _ _⟩
    exact AllReadyH.nil
   exact AllReadyH.nil
  exact AllReadyH.nil
 exact AllReadyH.nil

end Go.Proofs.Ytleoohplnkdbdaa

