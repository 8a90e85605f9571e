/- The program: sliding. -/
import Derived.Test.YtleoohplnkdbdabSlPQ
import Derived.Test.YtleoohplnkdbdabSlSSld
import Derived.Test.YtleoohplnkdbdabSlIInv
import Derived.Test.YtleoohplnkdbdabSlIMet
namespace Go.Proofs.Ytleoohplnkdbdab
open Go.RowKit Go.ChangeShapes

set_option maxRecDepth 100000 in
set_option maxHeartbeats 1000000 in
theorem conjugateBySimple_any (m : Nat) (m2 : 1 < m) (m8 : m ≤ 8) (p : Int) (hp : -100000 ≤ p ∧ p ≤ 100000) (a : Option Addr) (n cap : Nat) (l : List (List Int)) (s : List Int) (w : World) (hr : ReadsA w a n l) (hl : Nl m l) (hss : Sim m s) (hn : n ≤ 50000) (e : Int) (kf : List (List Int)) (hM : cjsN m p l s = (e, kf)) :
  Calls Try.prog 104 #[.agg #[.int .i64 m, .int .i64 p, .slice a n cap], arr8 .u8 s] w (RetNS w.heap.size w m e kf) := by
 have HN := Lib.hid hr.len
 have HRR := Lib.hid hr
 have HL := Lib.hid hl
 have SS := Lib.hid hss
 have S8 := Lib.hid hss.len
 clear hl hr hss
 obtain ⟨e1, l1, h1⟩ : ∃ e1 l1, lessN m p l s = (e1, l1) := ⟨_, _, rfl⟩
 have H1 : Hid (mkN m (p - 1) (turnK m (p - 1) (comR m s) :: l) = (e1, l1)) := Lib.hid (by rw [less_turn SS.out]; exact h1)
 have HB1 := Lib.hid (lessN_len m p l s)
 have HN1 := Lib.hid (lessN_nl (p := p) HL.out.sims SS.out)
 rw [h1] at HB1 HN1
 have HM : Hid (mkN m e1 (l1 ++ [s]) = (e, kf)) := Lib.hid (by unfold cjsN at hM; rw [h1] at hM; exact hM)
 clear hM h1
 have hwp : IntKind.i64.wrap (p - 1) = p - 1 := IntWalk.i64_in _ (by omega)
 go_enter Try.func104, Try.ntmps104
 have A := Lib.hid (((At3.place w (.int .i64 m) (.int .i64 p) (.slice a n cap) 28 w.heap.size rfl).alloc (.cells #[.int .u8 (at8 s 0), .int .u8 (at8 s 1), .int .u8 (at8 s 2), .int .u8 (at8 s 3), .int .u8 (at8 s 4), .int .u8 (at8 s 5), .int .u8 (at8 s 6), .int .u8 (at8 s 7)] 54)).alloc (.cells #[.int .i64 0, .int .i64 0, .slice none 0 0] 28))
 have X := Lib.hid ((Row8.place (w.alloc (.cells #[.int .i64 m, .int .i64 p, .slice a n cap] 28)) .u8 s 54 (w.heap.size + 1) (by simp) S8.out).alloc (.cells #[.int .i64 0, .int .i64 0, .slice none 0 0] 28))
 have Z := Lib.hid (At3.place ((w.alloc (.cells #[.int .i64 m, .int .i64 p, .slice a n cap] 28)).alloc (.cells #[.int .u8 (at8 s 0), .int .u8 (at8 s 1), .int .u8 (at8 s 2), .int .u8 (at8 s 3), .int .u8 (at8 s 4), .int .u8 (at8 s 5), .int .u8 (at8 s 6), .int .u8 (at8 s 7)] 54)) (.int .i64 0) (.int .i64 0) (.slice none 0 0) 28 (w.heap.size + 1 + 1) (by simp))
 have B := Lib.hid (((below1 w (.cells #[.int .i64 m, .int .i64 p, .slice a n cap] 28)).alloc (by simp) (.cells #[.int .u8 (at8 s 0), .int .u8 (at8 s 1), .int .u8 (at8 s 2), .int .u8 (at8 s 3), .int .u8 (at8 s 4), .int .u8 (at8 s 5), .int .u8 (at8 s 6), .int .u8 (at8 s 7)] 54)).alloc (by simp; omega) (.cells #[.int .i64 0, .int .i64 0, .slice none 0 0] 28))
 go_upto_region 1 with fail
 obtain ⟨W0, hW0⟩ : ∃ W0, W0 = (((w.alloc (.cells #[.int .i64 m, .int .i64 p, .slice a n cap] 28)).alloc (.cells #[.int .u8 (at8 s 0), .int .u8 (at8 s 1), .int .u8 (at8 s 2), .int .u8 (at8 s 3), .int .u8 (at8 s 4), .int .u8 (at8 s 5), .int .u8 (at8 s 6), .int .u8 (at8 s 7)] 54)).alloc (.cells #[.int .i64 0, .int .i64 0, .slice none 0 0] 28)) := ⟨_, rfl⟩
 have zz : Hid (W0.heap.size = w.heap.size + 1 + 1 + 1) := Lib.hid (by rw [hW0]; simp)
 rw [← hW0] at A X Z B ⊢
 clear hW0
 obtain ⟨q1, q2, q3⟩ := A.out.all
 go_upto_region 2 with fail
 clear q1 q2 q3
 have LW := Lib.hid (At3.place W0 (.int .i64 m) (.int .i64 (p - 1)) (.slice a n cap) 28 W0.heap.size rfl)
 replace A := Lib.hid (A.out.alloc (.cells #[.int .i64 m, .int .i64 (p - 1), .slice a n cap] 28))
 replace X := Lib.hid (X.out.alloc (.cells #[.int .i64 m, .int .i64 (p - 1), .slice a n cap] 28))
 replace Z := Lib.hid (Z.out.alloc (.cells #[.int .i64 m, .int .i64 (p - 1), .slice a n cap] 28))
 replace B := Lib.hid (B.out.alloc B.out.size (.cells #[.int .i64 m, .int .i64 (p - 1), .slice a n cap] 28))
 obtain ⟨W1, hW1⟩ : ∃ Vx, Vx = W0.alloc (.cells #[.int .i64 m, .int .i64 (p - 1), .slice a n cap] 28) := ⟨_, rfl⟩
 have zy : Hid (W1.heap.size = w.heap.size + 1 + 1 + 1 + 1) := Lib.hid (by rw [hW1]; simp; exact zz.out)
 rw [← hW1] at A X Z B LW ⊢
 clear hW1
 obtain ⟨gl, hgl⟩ : ∃ gl, gl = W0.heap.size := ⟨_, rfl⟩
 have GL : Hid (gl = w.heap.size + 1 + 1 + 1) := Lib.hid (by rw [hgl]; exact zz.out)
 rw [← hgl] at LW ⊢
 clear hgl
 have KB : Hid (Below W1.heap.size W1 W1.drew) := Lib.hid (Below.refl W1.heap.size W1).drew
 have SH : Hid (∀ W, Below W1.heap.size W1 W → (W.cell? ⟨w.heap.size, 0, none⟩ = some (.int .i64 m) ∧ W.cell? ⟨w.heap.size, 1, none⟩ = some (.int .i64 p) ∧ W.cell? ⟨w.heap.size, 2, none⟩ = some (.slice a n cap)) ∧ (W.cell? ⟨w.heap.size + 1, 0, none⟩ = some (.int .u8 (at8 s 0)) ∧ W.cell? ⟨w.heap.size + 1, 1, none⟩ = some (.int .u8 (at8 s 1)) ∧ W.cell? ⟨w.heap.size + 1, 2, none⟩ = some (.int .u8 (at8 s 2)) ∧ W.cell? ⟨w.heap.size + 1, 3, none⟩ = some (.int .u8 (at8 s 3)) ∧ W.cell? ⟨w.heap.size + 1, 4, none⟩ = some (.int .u8 (at8 s 4)) ∧ W.cell? ⟨w.heap.size + 1, 5, none⟩ = some (.int .u8 (at8 s 5)) ∧ W.cell? ⟨w.heap.size + 1, 6, none⟩ = some (.int .u8 (at8 s 6)) ∧ W.cell? ⟨w.heap.size + 1, 7, none⟩ = some (.int .u8 (at8 s 7))) ∧ (W.cell? ⟨gl, 0, none⟩ = some (.int .i64 m) ∧ W.cell? ⟨gl, 1, none⟩ = some (.int .i64 (p - 1)) ∧ W.cell? ⟨gl, 2, none⟩ = some (.slice a n cap))) := Lib.hid fun W h => ⟨(A.out.below h).all, (X.out.below h).flat, (LW.out.below h).all⟩
 have SZ : Hid (∀ W, Below W1.heap.size W1 W → ∀ u v x, ((((W.setCell ⟨w.heap.size + 1 + 1, 0, none⟩ u).setCell ⟨w.heap.size + 1 + 1, 1, none⟩ v).setCell ⟨w.heap.size + 1 + 1, 2, none⟩ x).cell? ⟨w.heap.size, 0, none⟩ = some (.int .i64 m) ∧ (((W.setCell ⟨w.heap.size + 1 + 1, 0, none⟩ u).setCell ⟨w.heap.size + 1 + 1, 1, none⟩ v).setCell ⟨w.heap.size + 1 + 1, 2, none⟩ x).cell? ⟨w.heap.size, 1, none⟩ = some (.int .i64 p) ∧ (((W.setCell ⟨w.heap.size + 1 + 1, 0, none⟩ u).setCell ⟨w.heap.size + 1 + 1, 1, none⟩ v).setCell ⟨w.heap.size + 1 + 1, 2, none⟩ x).cell? ⟨w.heap.size, 2, none⟩ = some (.slice a n cap)) ∧ ((((W.setCell ⟨w.heap.size + 1 + 1, 0, none⟩ u).setCell ⟨w.heap.size + 1 + 1, 1, none⟩ v).setCell ⟨w.heap.size + 1 + 1, 2, none⟩ x).cell? ⟨w.heap.size + 1, 0, none⟩ = some (.int .u8 (at8 s 0)) ∧ (((W.setCell ⟨w.heap.size + 1 + 1, 0, none⟩ u).setCell ⟨w.heap.size + 1 + 1, 1, none⟩ v).setCell ⟨w.heap.size + 1 + 1, 2, none⟩ x).cell? ⟨w.heap.size + 1, 1, none⟩ = some (.int .u8 (at8 s 1)) ∧ (((W.setCell ⟨w.heap.size + 1 + 1, 0, none⟩ u).setCell ⟨w.heap.size + 1 + 1, 1, none⟩ v).setCell ⟨w.heap.size + 1 + 1, 2, none⟩ x).cell? ⟨w.heap.size + 1, 2, none⟩ = some (.int .u8 (at8 s 2)) ∧ (((W.setCell ⟨w.heap.size + 1 + 1, 0, none⟩ u).setCell ⟨w.heap.size + 1 + 1, 1, none⟩ v).setCell ⟨w.heap.size + 1 + 1, 2, none⟩ x).cell? ⟨w.heap.size + 1, 3, none⟩ = some (.int .u8 (at8 s 3)) ∧ (((W.setCell ⟨w.heap.size + 1 + 1, 0, none⟩ u).setCell ⟨w.heap.size + 1 + 1, 1, none⟩ v).setCell ⟨w.heap.size + 1 + 1, 2, none⟩ x).cell? ⟨w.heap.size + 1, 4, none⟩ = some (.int .u8 (at8 s 4)) ∧ (((W.setCell ⟨w.heap.size + 1 + 1, 0, none⟩ u).setCell ⟨w.heap.size + 1 + 1, 1, none⟩ v).setCell ⟨w.heap.size + 1 + 1, 2, none⟩ x).cell? ⟨w.heap.size + 1, 5, none⟩ = some (.int .u8 (at8 s 5)) ∧ (((W.setCell ⟨w.heap.size + 1 + 1, 0, none⟩ u).setCell ⟨w.heap.size + 1 + 1, 1, none⟩ v).setCell ⟨w.heap.size + 1 + 1, 2, none⟩ x).cell? ⟨w.heap.size + 1, 6, none⟩ = some (.int .u8 (at8 s 6)) ∧ (((W.setCell ⟨w.heap.size + 1 + 1, 0, none⟩ u).setCell ⟨w.heap.size + 1 + 1, 1, none⟩ v).setCell ⟨w.heap.size + 1 + 1, 2, none⟩ x).cell? ⟨w.heap.size + 1, 7, none⟩ = some (.int .u8 (at8 s 7))) ∧ ((((W.setCell ⟨w.heap.size + 1 + 1, 0, none⟩ u).setCell ⟨w.heap.size + 1 + 1, 1, none⟩ v).setCell ⟨w.heap.size + 1 + 1, 2, none⟩ x).cell? ⟨gl, 0, none⟩ = some (.int .i64 m) ∧ (((W.setCell ⟨w.heap.size + 1 + 1, 0, none⟩ u).setCell ⟨w.heap.size + 1 + 1, 1, none⟩ v).setCell ⟨w.heap.size + 1 + 1, 2, none⟩ x).cell? ⟨gl, 1, none⟩ = some (.int .i64 (p - 1)) ∧ (((W.setCell ⟨w.heap.size + 1 + 1, 0, none⟩ u).setCell ⟨w.heap.size + 1 + 1, 1, none⟩ v).setCell ⟨w.heap.size + 1 + 1, 2, none⟩ x).cell? ⟨gl, 2, none⟩ = some (.slice a n cap))) := Lib.hid fun W h u v x => ⟨((A.out.below h).set3 (g2 := w.heap.size + 1 + 1) (by omega) u v x).all, ((X.out.below h).set3 (g2 := w.heap.size + 1 + 1) (by omega) u v x).flat, ((LW.out.below h).set3 (g2 := w.heap.size + 1 + 1) (by have := GL.out; omega) u v x).all⟩
 refine wp_region_held_drew (S := (fun w' => (w'.cell? ⟨w.heap.size, 0, none⟩ = some (.int .i64 m) ∧ w'.cell? ⟨w.heap.size, 1, none⟩ = some (.int .i64 p) ∧ w'.cell? ⟨w.heap.size, 2, none⟩ = some (.slice a n cap)) ∧ (w'.cell? ⟨w.heap.size + 1, 0, none⟩ = some (.int .u8 (at8 s 0)) ∧ w'.cell? ⟨w.heap.size + 1, 1, none⟩ = some (.int .u8 (at8 s 1)) ∧ w'.cell? ⟨w.heap.size + 1, 2, none⟩ = some (.int .u8 (at8 s 2)) ∧ w'.cell? ⟨w.heap.size + 1, 3, none⟩ = some (.int .u8 (at8 s 3)) ∧ w'.cell? ⟨w.heap.size + 1, 4, none⟩ = some (.int .u8 (at8 s 4)) ∧ w'.cell? ⟨w.heap.size + 1, 5, none⟩ = some (.int .u8 (at8 s 5)) ∧ w'.cell? ⟨w.heap.size + 1, 6, none⟩ = some (.int .u8 (at8 s 6)) ∧ w'.cell? ⟨w.heap.size + 1, 7, none⟩ = some (.int .u8 (at8 s 7))) ∧ (w'.cell? ⟨gl, 0, none⟩ = some (.int .i64 m) ∧ w'.cell? ⟨gl, 1, none⟩ = some (.int .i64 (p - 1)) ∧ w'.cell? ⟨gl, 2, none⟩ = some (.slice a n cap)))) (by kernel_rfl) ?_ (fun hHeld => ?_)
 ·first | with_reducible exact SH.out _ KB.out | with_reducible exact SZ.out _ KB.out _ _ _
 refine wpAnyH_take (i := 0) (oi := { dst := some 14, op := Op.load 28 (Operand.tmp 5), type := 28, pos := "l04_conjugacy.go:38", after := #[], guard := none }) (v := ?_) rfl (by kernel_rfl) (by kernel_rfl) (by kernel_rfl) (fun _ _ _ h => h) (Or.inl ⟨by rfl, ?_⟩) (by assumption) ?_
 rotate_left
 ·intro w hSw
  (try dsimp only at hSw)
  go_simp
  try with_reducible rfl
 try simp only [Act.put, List.setIfInBounds_toArray, List.set_cons_zero, List.set_cons_succ]
 refine wpAnyH_take (i := 1) (oi := { dst := some 15, op := Op.load 54 (Operand.tmp 3), type := 54, pos := "l04_conjugacy.go:38", after := #[], guard := none }) (v := ?_) rfl (by kernel_rfl) (by kernel_rfl) (by kernel_rfl) (fun _ _ _ h => h) (Or.inl ⟨by rfl, ?_⟩) (by assumption) ?_
 rotate_left
 ·intro w hSw
  (try dsimp only at hSw)
  go_simp
  try with_reducible rfl
 try simp only [Act.put, List.setIfInBounds_toArray, List.set_cons_zero, List.set_cons_succ]
 refine wpAnyH_take (i := 2) (oi := { dst := some 16, op := Op.fieldAddr 28 (Operand.tmp 2) 0, type := 0, pos := "l04_conjugacy.go:38", after := #[], guard := none }) (v := ?_) rfl (by kernel_rfl) (by kernel_rfl) (by kernel_rfl) (fun _ _ _ h => h) (Or.inl ⟨by rfl, ?_⟩) (by assumption) ?_
 rotate_left
 ·intro w hSw
  (try dsimp only at hSw)
  go_simp
  try with_reducible rfl
 try simp only [Act.put, List.setIfInBounds_toArray, List.set_cons_zero, List.set_cons_succ]
 refine wpAnyH_take (i := 3) (oi := { dst := some 17, op := Op.load 2 (Operand.tmp 16), type := 2, pos := "l04_conjugacy.go:38", after := #[{ on := 2, ground := Ground.data }], guard := none }) (v := ?_) rfl (by kernel_rfl) (by kernel_rfl) (by kernel_rfl) (fun _ _ _ h => h) (Or.inl ⟨by rfl, ?_⟩) (by assumption) ?_
 rotate_left
 ·intro w hSw
  (try dsimp only at hSw)
  go_simp
  try with_reducible rfl
 try simp only [Act.put, List.setIfInBounds_toArray, List.set_cons_zero, List.set_cons_succ]
 refine wpAnyH_take (i := 6) (oi := { dst := some 20, op := Op.load 54 (Operand.tmp 3), type := 54, pos := "l04_conjugacy.go:38", after := #[], guard := none }) (v := ?_) rfl (by kernel_rfl) (by kernel_rfl) (by kernel_rfl) (fun _ _ _ h => h) (Or.inl ⟨by rfl, ?_⟩) (by assumption) ?_
 rotate_left
 ·intro w hSw
  (try dsimp only at hSw)
  go_simp
  try with_reducible rfl
 try simp only [Act.put, List.setIfInBounds_toArray, List.set_cons_zero, List.set_cons_succ]
 refine wpAnyH_ready (rs := [4]) (by kernel_rfl) (by simp) ?_
 refine AllReadyH.cons (o := { dst := some 18, op := Op.call { callee := Callee.value (Operand.func 85), args := #[Operand.tmp 15, Operand.tmp 17], argTypes := #[54, 2] }, type := 54, pos := "l04_conjugacy.go:38", after := #[{ on := 1, ground := Ground.data }, { on := 3, ground := Ground.data }], guard := none }) rfl (fun K hK => ?_) ?_
 ·go_simp
  refine (complement_com m s SS.out _).mono ?_
  rintro e3 w3 ⟨rfl, gg⟩
  replace KB := Lib.hid (below_go KB.out gg KB.out.size)
  clear gg
  go_wp2_with fail
  refine hK.out _ _ ?_ (fun hHeld => ?_)
  ·first | with_reducible exact SH.out _ KB.out | with_reducible exact SZ.out _ KB.out _ _ _
  clear hK K
  try simp only [Act.put, List.setIfInBounds_toArray, List.set_cons_zero, List.set_cons_succ]
  refine wpAnyH_ready (rs := [5]) (by kernel_rfl) (by simp) ?_
  refine AllReadyH.cons (o := { dst := some 19, op := Op.call { callee := Callee.value (Operand.func 99), args := #[Operand.tmp 14, Operand.tmp 18], argTypes := #[28, 54] }, type := 28, pos := "l04_conjugacy.go:38", after := #[{ on := 0, ground := Ground.data }, { on := 4, ground := Ground.data }, { on := 4, ground := Ground.chain }], guard := none }) rfl (fun K hK => ?_) ?_
  ·go_simp
   refine (behindSimple_any m m2 m8 (p - 1) (by omega) a n cap l (comR m s) _ (HRR.out.below (below_go B.out KB.out (by have := zy.out; omega))) HL.out (comR_sim SS.out) (by omega) e1 l1 H1.out).mono ?_
   rintro e4 w4 ⟨a4, n4, c4, rfl, hc4, ho, gg⟩
   have I4 := Lib.hid ho.reads
   have hn4 : n4 = l1.length := ho.len.symm
   have HN4 := Lib.hid hn4
   clear hn4
   replace KB := Lib.hid (below_go KB.out gg KB.out.size)
   clear gg ho
   go_wp2_with fail
   refine hK.out _ _ ?_ (fun hHeld => ?_)
   ·first | with_reducible exact SH.out _ KB.out | with_reducible exact SZ.out _ KB.out _ _ _
   clear hK K
   try simp only [Act.put, List.setIfInBounds_toArray, List.set_cons_zero, List.set_cons_succ]
   refine wpAnyH_ready (rs := [7]) (by kernel_rfl) (by simp) ?_
   refine AllReadyH.cons (o := { dst := some 21, op := Op.call { callee := Callee.value (Operand.func 75), args := #[Operand.tmp 19, Operand.tmp 20], argTypes := #[28, 54] }, type := 28, pos := "l04_conjugacy.go:38", after := #[{ on := 5, ground := Ground.data }, { on := 6, ground := Ground.data }, { on := 5, ground := Ground.chain }], guard := none }) rfl (fun K hK => ?_) ?_
   ·go_simp
    refine (thenSimple_any m m2 m8 e1 (by have := HB1.out; rw [HN.out] at this; omega) a4 n4 c4 l1 s _ I4.out hc4 HN1.out SS.out (by have := HB1.out; rw [HN.out] at this; have := HN4.out; omega) e kf HM.out).mono ?_
    rintro e8 w8 ⟨a8, n8, c8, rfl, hc8, ho, gg⟩
    have O8 := Lib.hid (ho.mono KB.out.size)
    replace KB := Lib.hid (below_go KB.out gg KB.out.size)
    clear gg ho
    obtain ⟨x0, ⟨x1, x2, x3⟩, y1, y2, y3⟩ := Z.out.below KB.out
    go_wp2_with fail
    refine hK.out _ _ ?_ (fun hHeld => ?_)
    ·first | with_reducible exact SH.out _ KB.out | with_reducible exact SZ.out _ KB.out _ _ _
    clear hK K
    try simp only [Act.put, List.setIfInBounds_toArray, List.set_cons_zero, List.set_cons_succ]
    refine wpAnyH_ready (rs := [8]) (by kernel_rfl) (by simp) ?_
    refine AllReadyH.cons (o := { dst := none, op := Op.store 28 (Operand.tmp 4) (Operand.tmp 21), type := 0, pos := "l04_conjugacy.go:38", after := #[{ on := 7, ground := Ground.data }, { on := 7, ground := Ground.chain }, { on := 0, ground := Ground.phase }, { on := 1, ground := Ground.phase }, { on := 2, ground := Ground.phase }, { on := 3, ground := Ground.phase }, { on := 4, ground := Ground.phase }, { on := 5, ground := Ground.phase }, { on := 6, ground := Ground.phase }, { on := 7, ground := Ground.phase }], guard := none }) rfl (fun K hK => ?_) ?_
    ·go_simp
     refine hK.out _ _ ?_ (fun hHeld => ?_)
     ·first | with_reducible exact SH.out _ KB.out | with_reducible exact SZ.out _ KB.out _ _ _
     clear hK K
     try simp only [Act.put, List.setIfInBounds_toArray, List.set_cons_zero, List.set_cons_succ]
     refine wpAnyH_done (by kernel_rfl) ?_ _
     go_wp2_with fail
     try rw [Exit.noGoto_ret]
     obtain ⟨_, ⟨z1, z2, z3⟩, _⟩ := (Z.out.below KB.out).fill (.int .i64 m) (.int .i64 e) (.slice a8 n8 c8)
     exact bodyPost_ret (v := .agg #[.int .i64 m, .int .i64 e, .slice a8 n8 c8]) (by simp [results, Try.results104, go_sem, z1, z2, z3]) rfl ⟨a8, n8, c8, rfl, hc8, (O8.out.set3 (by have := zy.out; omega) _ _ _).mono (by have := zy.out; omega), below_set3 (below_go B.out KB.out (by have := zy.out; omega)) (by omega) _ _ _⟩
    exact AllReadyH.nil
   exact AllReadyH.nil
  exact AllReadyH.nil
 exact AllReadyH.nil

set_option maxRecDepth 100000 in
set_option maxHeartbeats 1000000 in
theorem slid_any (m : Nat) (m1 : 1 ≤ m) (m8 : m ≤ 8) (p : Int) (hp : -100000 ≤ p ∧ p ≤ 100000) (a : Option Addr) (n cap : Nat) (l : List (List Int)) (w : World) (hr : ReadsA w a n l) (hl : Nl m l) (hn : n ≤ 50000) (e : Int) (kf : List (List Int)) (hM : sldN m p l = (e, kf)) :
  Calls Try.prog 66 #[.agg #[.int .i64 m, .int .i64 p, .slice a n cap]] w (RetNS w.heap.size w m e kf) := by
 have HN := Lib.hid hr.len
 have HRR := Lib.hid hr
 have HL := Lib.hid hl
 clear hl
 unfold sldN at hM
 rw [HN.out] at hM
 go_enter Try.func66, Try.ntmps66
 have A := Lib.hid ((At3.place w (.int .i64 m) (.int .i64 p) (.slice a n cap) 28 w.heap.size rfl).alloc (.cells #[.int .i64 0, .int .i64 0, .slice none 0 0] 28))
 have Z := Lib.hid (At3.place (w.alloc (.cells #[.int .i64 m, .int .i64 p, .slice a n cap] 28)) (.int .i64 0) (.int .i64 0) (.slice none 0 0) 28 (w.heap.size + 1) (by simp))
 have B := Lib.hid ((below1 w (.cells #[.int .i64 m, .int .i64 p, .slice a n cap] 28)).alloc (by simp) (.cells #[.int .i64 0, .int .i64 0, .slice none 0 0] 28))
 go_upto_region 1 with fail
 obtain ⟨W0, hW0⟩ : ∃ W0, W0 = ((w.alloc (.cells #[.int .i64 m, .int .i64 p, .slice a n cap] 28)).alloc (.cells #[.int .i64 0, .int .i64 0, .slice none 0 0] 28)) := ⟨_, rfl⟩
 have zz : Hid (W0.heap.size = w.heap.size + 1 + 1) := Lib.hid (by rw [hW0]; simp)
 rw [← hW0] at A Z B ⊢
 clear hW0
 obtain ⟨q1, q2, q3⟩ := A.out.all
 by_cases h0 : n = 0
 ·subst h0
  rw [if_pos rfl] at hM
  obtain rfl : l = [] := List.eq_nil_of_length_eq_zero HN.out
  simp only [Prod.mk.injEq] at hM
  obtain ⟨rfl, rfl⟩ := hM
  go_wp2_with fail
  refine (copied_any m p a 0 cap [] _ (HRR.out.below B.out) (by omega)).mono ?_
  rintro e w3 ⟨b, d, rfl, ho, gg⟩
  have hz3 : w.heap.size + 1 + 1 ≤ w3.heap.size := by rw [← zz.out]; exact gg.size
  replace Z := Lib.hid (Z.out.below gg)
  replace B := Lib.hid (below_go B.out gg B.out.size)
  clear gg q1 q2 q3
  obtain ⟨x0, ⟨x1, x2, x3⟩, y1, y2, y3⟩ := Z.out
  obtain ⟨_, ⟨z1, z2, z3⟩, _⟩ := Z.out.fill (.int .i64 m) (.int .i64 p) (.slice b 0 d)
  go_wp2
  try rw [Exit.noGoto_ret]
  exact bodyPost_ret (v := .agg #[.int .i64 m, .int .i64 p, .slice b 0 d]) (by simp [results, Try.results66, go_sem, z1, z2, z3]) rfl ⟨b, 0, d, rfl, Nat.zero_le _, OwnS.nil _ _ _, below_set3 B.out (by omega) _ _ _⟩
 ·have hz : ((n : Int) == 0) = false := by simpa using h0
  rw [if_neg h0] at hM
  clear hr
  obtain ⟨n', rfl⟩ : ∃ n', n = n' + 1 := ⟨n - 1, by omega⟩
  have m2 := nl_two m1 HL.out (j := 0) (by rw [HN.out]; omega)
  obtain ⟨sm, hsm⟩ : ∃ sm, sm = meetR m (turnK m p (rowAt l 0)) (comR m (rowAt l n')) := ⟨_, rfl⟩
  have HSM := Lib.hid hsm
  have HM : Hid (cjsN m p l sm = (e, kf)) := Lib.hid (by rw [hsm]; unfold sldS at hM; rw [HN.out] at hM; simpa using hM)
  have SR : Hid (Sim m (rowAt l n')) := Lib.hid (HL.out.sims _ (rowAt_getElem (by rw [HN.out]; omega)))
  have SF : Hid (Sim m (turnK m p (rowAt l 0))) := Lib.hid (turnK_sim p (HL.out.sims _ (rowAt_getElem (by rw [HN.out]; omega))))
  have S_ : Hid (Sim m sm) := Lib.hid (by rw [hsm]; exact meetR_sim m1 m8 _ _)
  clear hM hsm
  go_upto_region 3 with fail
  clear q1 q2 q3
  have KB : Hid (Below W0.heap.size W0 W0.drew) := Lib.hid (Below.refl W0.heap.size W0).drew
  have SH : Hid (∀ W, Below W0.heap.size W0 W → W.cell? ⟨w.heap.size, 0, none⟩ = some (.int .i64 m) ∧ W.cell? ⟨w.heap.size, 1, none⟩ = some (.int .i64 p) ∧ W.cell? ⟨w.heap.size, 2, none⟩ = some (.slice a (n' + 1) cap)) := Lib.hid fun W h => (A.out.below h).all
  have SZ : Hid (∀ W, Below W0.heap.size W0 W → ∀ u v x, (((W.setCell ⟨w.heap.size + 1, 0, none⟩ u).setCell ⟨w.heap.size + 1, 1, none⟩ v).setCell ⟨w.heap.size + 1, 2, none⟩ x).cell? ⟨w.heap.size, 0, none⟩ = some (.int .i64 m) ∧ (((W.setCell ⟨w.heap.size + 1, 0, none⟩ u).setCell ⟨w.heap.size + 1, 1, none⟩ v).setCell ⟨w.heap.size + 1, 2, none⟩ x).cell? ⟨w.heap.size, 1, none⟩ = some (.int .i64 p) ∧ (((W.setCell ⟨w.heap.size + 1, 0, none⟩ u).setCell ⟨w.heap.size + 1, 1, none⟩ v).setCell ⟨w.heap.size + 1, 2, none⟩ x).cell? ⟨w.heap.size, 2, none⟩ = some (.slice a (n' + 1) cap)) := Lib.hid fun W h u v x => ((A.out.below h).set3 (g2 := w.heap.size + 1) (by omega) u v x).all
  refine wp_region_held_drew (S := (fun w' => w'.cell? ⟨w.heap.size, 0, none⟩ = some (.int .i64 m) ∧ w'.cell? ⟨w.heap.size, 1, none⟩ = some (.int .i64 p) ∧ w'.cell? ⟨w.heap.size, 2, none⟩ = some (.slice a (n' + 1) cap))) (by kernel_rfl) ?_ (fun hHeld => ?_)
  ·first | with_reducible exact SH.out _ KB.out | with_reducible exact SZ.out _ KB.out _ _ _
  refine wpAnyH_take (i := 0) (oi := { dst := some 9, op := Op.load 28 (Operand.tmp 1), type := 28, pos := "l04_conjugacy.go:74", after := #[], guard := none }) (v := ?_) rfl (by kernel_rfl) (by kernel_rfl) (by kernel_rfl) (fun _ _ _ h => h) (Or.inl ⟨by rfl, ?_⟩) (by assumption) ?_
  rotate_left
  ·intro w hSw
   (try dsimp only at hSw)
   go_simp
   try with_reducible rfl
  try simp only [Act.put, List.setIfInBounds_toArray, List.set_cons_zero, List.set_cons_succ]
  refine wpAnyH_take (i := 1) (oi := { dst := some 10, op := Op.load 28 (Operand.tmp 1), type := 28, pos := "l04_conjugacy.go:74", after := #[], guard := none }) (v := ?_) rfl (by kernel_rfl) (by kernel_rfl) (by kernel_rfl) (fun _ _ _ h => h) (Or.inl ⟨by rfl, ?_⟩) (by assumption) ?_
  rotate_left
  ·intro w hSw
   (try dsimp only at hSw)
   go_simp
   try with_reducible rfl
  try simp only [Act.put, List.setIfInBounds_toArray, List.set_cons_zero, List.set_cons_succ]
  refine wpAnyH_take (i := 3) (oi := { dst := some 12, op := Op.load 28 (Operand.tmp 1), type := 28, pos := "l04_conjugacy.go:74", after := #[], guard := none }) (v := ?_) rfl (by kernel_rfl) (by kernel_rfl) (by kernel_rfl) (fun _ _ _ h => h) (Or.inl ⟨by rfl, ?_⟩) (by assumption) ?_
  rotate_left
  ·intro w hSw
   (try dsimp only at hSw)
   go_simp
   try with_reducible rfl
  try simp only [Act.put, List.setIfInBounds_toArray, List.set_cons_zero, List.set_cons_succ]
  refine wpAnyH_take (i := 5) (oi := { dst := some 14, op := Op.fieldAddr 28 (Operand.tmp 1) 0, type := 0, pos := "l04_conjugacy.go:74", after := #[], guard := none }) (v := ?_) rfl (by kernel_rfl) (by kernel_rfl) (by kernel_rfl) (fun _ _ _ h => h) (Or.inl ⟨by rfl, ?_⟩) (by assumption) ?_
  rotate_left
  ·intro w hSw
   (try dsimp only at hSw)
   go_simp
   try with_reducible rfl
  try simp only [Act.put, List.setIfInBounds_toArray, List.set_cons_zero, List.set_cons_succ]
  refine wpAnyH_take (i := 6) (oi := { dst := some 15, op := Op.load 2 (Operand.tmp 14), type := 2, pos := "l04_conjugacy.go:74", after := #[{ on := 5, ground := Ground.data }], guard := none }) (v := ?_) rfl (by kernel_rfl) (by kernel_rfl) (by kernel_rfl) (fun _ _ _ h => h) (Or.inl ⟨by rfl, ?_⟩) (by assumption) ?_
  rotate_left
  ·intro w hSw
   (try dsimp only at hSw)
   go_simp
   try with_reducible rfl
  try simp only [Act.put, List.setIfInBounds_toArray, List.set_cons_zero, List.set_cons_succ]
  refine wpAnyH_take (i := 8) (oi := { dst := some 17, op := Op.fieldAddr 28 (Operand.tmp 1) 0, type := 0, pos := "l04_conjugacy.go:74", after := #[], guard := none }) (v := ?_) rfl (by kernel_rfl) (by kernel_rfl) (by kernel_rfl) (fun _ _ _ h => h) (Or.inl ⟨by rfl, ?_⟩) (by assumption) ?_
  rotate_left
  ·intro w hSw
   (try dsimp only at hSw)
   go_simp
   try with_reducible rfl
  try simp only [Act.put, List.setIfInBounds_toArray, List.set_cons_zero, List.set_cons_succ]
  refine wpAnyH_take (i := 9) (oi := { dst := some 18, op := Op.load 2 (Operand.tmp 17), type := 2, pos := "l04_conjugacy.go:74", after := #[{ on := 8, ground := Ground.data }], guard := none }) (v := ?_) rfl (by kernel_rfl) (by kernel_rfl) (by kernel_rfl) (fun _ _ _ h => h) (Or.inl ⟨by rfl, ?_⟩) (by assumption) ?_
  rotate_left
  ·intro w hSw
   (try dsimp only at hSw)
   go_simp
   try with_reducible rfl
  try simp only [Act.put, List.setIfInBounds_toArray, List.set_cons_zero, List.set_cons_succ]
  refine wpAnyH_ready (rs := [2]) (by kernel_rfl) (by simp) ?_
  refine AllReadyH.cons (o := { dst := some 11, op := Op.call { callee := Callee.value (Operand.func 97), args := #[Operand.tmp 10], argTypes := #[28] }, type := 54, pos := "l04_conjugacy.go:74", after := #[{ on := 1, ground := Ground.data }], guard := none }) rfl (fun K hK => ?_) ?_
  ·go_simp
   refine (firstPart_any m p a (n' + 1) cap l _ (HRR.out.below (below_go B.out KB.out (by have := zz.out; omega))) HL.out.sims (by omega) (by omega)).mono ?_
   rintro e3 w3 ⟨rfl, gg⟩
   replace KB := Lib.hid (below_go KB.out gg KB.out.size)
   clear gg
   go_wp2_with fail
   refine hK.out _ _ ?_ (fun hHeld => ?_)
   ·first | with_reducible exact SH.out _ KB.out | with_reducible exact SZ.out _ KB.out _ _ _
   clear hK K
   try simp only [Act.put, List.setIfInBounds_toArray, List.set_cons_zero, List.set_cons_succ]
   refine wpAnyH_ready (rs := [4]) (by kernel_rfl) (by simp) ?_
   refine AllReadyH.cons (o := { dst := some 13, op := Op.call { callee := Callee.value (Operand.func 100), args := #[Operand.tmp 12], argTypes := #[28] }, type := 54, pos := "l04_conjugacy.go:74", after := #[{ on := 3, ground := Ground.data }, { on := 2, ground := Ground.chain }], guard := none }) rfl (fun K hK => ?_) ?_
   ·go_simp
    refine (lastPart_any m p a n' cap l _ (HRR.out.below (below_go B.out KB.out (by have := zz.out; omega))) (by omega)).mono ?_
    rintro e4 w4 ⟨rfl, gg⟩
    replace KB := Lib.hid (below_go KB.out gg KB.out.size)
    clear gg
    go_wp2_with fail
    refine hK.out _ _ ?_ (fun hHeld => ?_)
    ·first | with_reducible exact SH.out _ KB.out | with_reducible exact SZ.out _ KB.out _ _ _
    clear hK K
    try simp only [Act.put, List.setIfInBounds_toArray, List.set_cons_zero, List.set_cons_succ]
    refine wpAnyH_ready (rs := [7]) (by kernel_rfl) (by simp) ?_
    refine AllReadyH.cons (o := { dst := some 16, op := Op.call { callee := Callee.value (Operand.func 85), args := #[Operand.tmp 13, Operand.tmp 15], argTypes := #[54, 2] }, type := 54, pos := "l04_conjugacy.go:74", after := #[{ on := 4, ground := Ground.data }, { on := 6, ground := Ground.data }, { on := 4, ground := Ground.chain }], guard := none }) rfl (fun K hK => ?_) ?_
    ·go_simp
     refine (complement_com m (rowAt l n') SR.out _).mono ?_
     rintro e5 w5 ⟨rfl, gg⟩
     replace KB := Lib.hid (below_go KB.out gg KB.out.size)
     clear gg
     go_wp2_with fail
     refine hK.out _ _ ?_ (fun hHeld => ?_)
     ·first | with_reducible exact SH.out _ KB.out | with_reducible exact SZ.out _ KB.out _ _ _
     clear hK K
     try simp only [Act.put, List.setIfInBounds_toArray, List.set_cons_zero, List.set_cons_succ]
     refine wpAnyH_ready (rs := [10]) (by kernel_rfl) (by simp) ?_
     refine AllReadyH.cons (o := { dst := some 19, op := Op.call { callee := Callee.value (Operand.func 105), args := #[Operand.tmp 11, Operand.tmp 16, Operand.tmp 18], argTypes := #[54, 54, 2] }, type := 54, pos := "l04_conjugacy.go:74", after := #[{ on := 2, ground := Ground.data }, { on := 7, ground := Ground.data }, { on := 9, ground := Ground.data }, { on := 7, ground := Ground.chain }], guard := none }) rfl (fun K hK => ?_) ?_
     ·go_simp
      refine (meet_meetR m (turnK m p (rowAt l 0)) (comR m (rowAt l n')) SF.out (comR_sim SR.out) _).mono ?_
      rw [← HSM.out]
      rintro e6 w6 ⟨rfl, gg⟩
      replace KB := Lib.hid (below_go KB.out gg KB.out.size)
      clear gg
      go_wp2_with fail
      refine hK.out _ _ ?_ (fun hHeld => ?_)
      ·first | with_reducible exact SH.out _ KB.out | with_reducible exact SZ.out _ KB.out _ _ _
      clear hK K
      try simp only [Act.put, List.setIfInBounds_toArray, List.set_cons_zero, List.set_cons_succ]
      refine wpAnyH_ready (rs := [11]) (by kernel_rfl) (by simp) ?_
      refine AllReadyH.cons (o := { dst := some 20, op := Op.call { callee := Callee.value (Operand.func 104), args := #[Operand.tmp 9, Operand.tmp 19], argTypes := #[28, 54] }, type := 28, pos := "l04_conjugacy.go:74", after := #[{ on := 0, ground := Ground.data }, { on := 10, ground := Ground.data }, { on := 10, ground := Ground.chain }], guard := none }) rfl (fun K hK => ?_) ?_
      ·go_simp
       refine (conjugateBySimple_any m m2 m8 p hp a (n' + 1) cap l sm _ (HRR.out.below (below_go B.out KB.out (by have := zz.out; omega))) HL.out S_.out hn e kf HM.out).mono ?_
       rintro e8 w8 ⟨a8, n8, c8, rfl, hc8, ho, gg⟩
       have O8 := Lib.hid (ho.mono KB.out.size)
       replace KB := Lib.hid (below_go KB.out gg KB.out.size)
       clear gg ho
       obtain ⟨x0, ⟨x1, x2, x3⟩, y1, y2, y3⟩ := Z.out.below KB.out
       go_wp2_with fail
       refine hK.out _ _ ?_ (fun hHeld => ?_)
       ·first | with_reducible exact SH.out _ KB.out | with_reducible exact SZ.out _ KB.out _ _ _
       clear hK K
       try simp only [Act.put, List.setIfInBounds_toArray, List.set_cons_zero, List.set_cons_succ]
       refine wpAnyH_ready (rs := [12]) (by kernel_rfl) (by simp) ?_
       refine AllReadyH.cons (o := { dst := none, op := Op.store 28 (Operand.tmp 2) (Operand.tmp 20), type := 0, pos := "l04_conjugacy.go:74", after := #[{ on := 11, ground := Ground.data }, { on := 11, ground := Ground.chain }, { on := 0, ground := Ground.phase }, { on := 1, ground := Ground.phase }, { on := 2, ground := Ground.phase }, { on := 3, ground := Ground.phase }, { on := 4, ground := Ground.phase }, { on := 5, ground := Ground.phase }, { on := 6, ground := Ground.phase }, { on := 7, ground := Ground.phase }, { on := 8, ground := Ground.phase }, { on := 9, ground := Ground.phase }, { on := 10, ground := Ground.phase }, { on := 11, ground := Ground.phase }], guard := none }) rfl (fun K hK => ?_) ?_
       ·go_simp
        refine hK.out _ _ ?_ (fun hHeld => ?_)
        ·first | with_reducible exact SH.out _ KB.out | with_reducible exact SZ.out _ KB.out _ _ _
        clear hK K
        try simp only [Act.put, List.setIfInBounds_toArray, List.set_cons_zero, List.set_cons_succ]
        refine wpAnyH_done (by kernel_rfl) ?_ _
        go_wp2_with fail
        try rw [Exit.noGoto_ret]
        obtain ⟨_, ⟨z1, z2, z3⟩, _⟩ := (Z.out.below KB.out).fill (.int .i64 m) (.int .i64 e) (.slice a8 n8 c8)
        exact bodyPost_ret (v := .agg #[.int .i64 m, .int .i64 e, .slice a8 n8 c8]) (by simp [results, Try.results66, go_sem, z1, z2, z3]) rfl ⟨a8, n8, c8, rfl, hc8, (O8.out.set3 (by have := zz.out; omega) _ _ _).mono (by have := zz.out; omega), below_set3 (below_go B.out KB.out (by have := zz.out; omega)) (by omega) _ _ _⟩
       exact AllReadyH.nil
      exact AllReadyH.nil
     exact AllReadyH.nil
    exact AllReadyH.nil
   exact AllReadyH.nil
  exact AllReadyH.nil

end Go.Proofs.Ytleoohplnkdbdab

