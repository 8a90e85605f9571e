/- The model: a normal form and one simple braid more, or its inverse. -/
import Derived.Test.YtleoohplnkdbdabSlSMk0
import Derived.Test.YtleoohplnkdbdabSlKit15
import Derived.Test.YtleoohplnkdbdabSlSTrd
import Derived.Test.YtleoohplnkdbdabSlLeft
namespace Go.Proofs.Ytleoohplnkdbdab
open Go.RowKit Go.ChangeShapes

theorem l02Left_left (n : Nat) (s : List Int) (hs : Sim n s) (w : World) :
  Calls Try.prog 106 #[arr8 .u8 s, .int .i64 n] w (RetArr .u8 w (leftR n s)) := l02Left_any n s hs w

set_option maxRecDepth 100000 in
set_option maxHeartbeats 8000000 in
theorem l03Times_pos (m : Nat) (m1 : 1 ≤ m) (m8 : m ≤ 8) (p : Int) (hp : -1000000 ≤ p ∧ p ≤ 1000000) (a : Option Addr) (n cap : Nat) (l : List (List Int)) (s : List Int) (w : World) (hr : ReadsA w a n l) (hs : Sims m l) (hss : Sim m s) (hn : n ≤ 1000000)
  (q : Int) (kf : List (List Int)) (hM : mkN m p (l ++ [s]) = (q, kf)) :
  Calls Try.prog 68 #[.agg #[.int .i64 m, .int .i64 p, .slice a n cap], arr8 .u8 s, .bool false] w (RetNormal w m q kf) := by
 obtain ⟨i0, hi, hz0, hz1, hz2⟩ := info_parts infoSimple
 have HS := Lib.hid hs; clear hs
 have SS := Lib.hid hss; clear hss
 have HMK := Lib.hid hM; clear hM
 have Rd := Lib.hid hr
 clear hr
 have hlen := Lib.hid SS.out.len
 go_enter Try.func68, Try.ntmps68
 have A := Lib.hid (((At3.place w (.int .i64 m) (.int .i64 p) (.slice a n cap) 28 w.heap.size rfl).alloc (.cells #[.int .u8 (at8 s 0), .int .u8 (at8 s 1), .int .u8 (at8 s 2), .int .u8 (at8 s 3), .int .u8 (at8 s 4), .int .u8 (at8 s 5), .int .u8 (at8 s 6), .int .u8 (at8 s 7)] 54)).alloc (.cells #[.int .i64 0, .int .i64 0, .slice none 0 0] 28))
 have X := Lib.hid ((Row8.place (w.alloc (.cells #[.int .i64 m, .int .i64 p, .slice a n cap] 28)) .u8 s 54 (w.heap.size + 1) (by simp) hlen.out).alloc (.cells #[.int .i64 0, .int .i64 0, .slice none 0 0] 28))
 have Z := Lib.hid (At3.place ((w.alloc (.cells #[.int .i64 m, .int .i64 p, .slice a n cap] 28)).alloc (.cells #[.int .u8 (at8 s 0), .int .u8 (at8 s 1), .int .u8 (at8 s 2), .int .u8 (at8 s 3), .int .u8 (at8 s 4), .int .u8 (at8 s 5), .int .u8 (at8 s 6), .int .u8 (at8 s 7)] 54)) (.int .i64 0) (.int .i64 0) (.slice none 0 0) 28 (w.heap.size + 1 + 1) (by simp))
 have B := Lib.hid (((below1 w (.cells #[.int .i64 m, .int .i64 p, .slice a n cap] 28)).alloc (by simp) (.cells #[.int .u8 (at8 s 0), .int .u8 (at8 s 1), .int .u8 (at8 s 2), .int .u8 (at8 s 3), .int .u8 (at8 s 4), .int .u8 (at8 s 5), .int .u8 (at8 s 6), .int .u8 (at8 s 7)] 54)).alloc (by simp; omega) (.cells #[.int .i64 0, .int .i64 0, .slice none 0 0] 28))
 replace Rd := Lib.hid (((Rd.out.alloc (.cells #[.int .i64 m, .int .i64 p, .slice a n cap] 28)).alloc (.cells #[.int .u8 (at8 s 0), .int .u8 (at8 s 1), .int .u8 (at8 s 2), .int .u8 (at8 s 3), .int .u8 (at8 s 4), .int .u8 (at8 s 5), .int .u8 (at8 s 6), .int .u8 (at8 s 7)] 54)).alloc (.cells #[.int .i64 0, .int .i64 0, .slice none 0 0] 28))
 have zz : Hid ((((w.alloc (.cells #[.int .i64 m, .int .i64 p, .slice a n cap] 28)).alloc (.cells #[.int .u8 (at8 s 0), .int .u8 (at8 s 1), .int .u8 (at8 s 2), .int .u8 (at8 s 3), .int .u8 (at8 s 4), .int .u8 (at8 s 5), .int .u8 (at8 s 6), .int .u8 (at8 s 7)] 54)).alloc (.cells #[.int .i64 0, .int .i64 0, .slice none 0 0] 28)).heap.size = w.heap.size + 1 + 1 + 1) := Lib.hid (by simp)
 have SM : Hid (Sims m (l ++ [s])) := Lib.hid (Sims.app HS.out (Sims.cons SS.out Sims.nil))
 go_upto_region 4 with fail
 obtain ⟨W0, hW0⟩ : ∃ W0, W0 = ((w.alloc (.cells #[.int .i64 m, .int .i64 p, .slice a n cap] 28)).alloc (.cells #[.int .u8 (at8 s 0), .int .u8 (at8 s 1), .int .u8 (at8 s 2), .int .u8 (at8 s 3), .int .u8 (at8 s 4), .int .u8 (at8 s 5), .int .u8 (at8 s 6), .int .u8 (at8 s 7)] 54)).alloc (.cells #[.int .i64 0, .int .i64 0, .slice none 0 0] 28) := ⟨_, rfl⟩
 rw [← hW0] at A X Z B Rd zz ⊢
 clear hW0
 have KB : Hid (Below W0.heap.size W0 W0.drew) := Lib.hid (Below.refl W0.heap.size W0).drew
 have SH : Hid (∀ W, Below W0.heap.size W0 W → (W.cell? ⟨w.heap.size, 0, none⟩ = some (.int .i64 m) ∧ W.cell? ⟨w.heap.size, 1, none⟩ = some (.int .i64 p) ∧ W.cell? ⟨w.heap.size, 2, none⟩ = some (.slice a n cap)) ∧ (W.cell? ⟨w.heap.size + 1, 0, none⟩ = some (.int .u8 (at8 s 0)) ∧ W.cell? ⟨w.heap.size + 1, 1, none⟩ = some (.int .u8 (at8 s 1)) ∧ W.cell? ⟨w.heap.size + 1, 2, none⟩ = some (.int .u8 (at8 s 2)) ∧ W.cell? ⟨w.heap.size + 1, 3, none⟩ = some (.int .u8 (at8 s 3)) ∧ W.cell? ⟨w.heap.size + 1, 4, none⟩ = some (.int .u8 (at8 s 4)) ∧ W.cell? ⟨w.heap.size + 1, 5, none⟩ = some (.int .u8 (at8 s 5)) ∧ W.cell? ⟨w.heap.size + 1, 6, none⟩ = some (.int .u8 (at8 s 6)) ∧ W.cell? ⟨w.heap.size + 1, 7, none⟩ = some (.int .u8 (at8 s 7)))) := Lib.hid fun W h => ⟨(A.out.below h).all, (X.out.below h).flat⟩
 have SZ : Hid (∀ W, Below W0.heap.size W0 W → ∀ u v x, ((((W.setCell ⟨w.heap.size + 1 + 1, 0, none⟩ u).setCell ⟨w.heap.size + 1 + 1, 1, none⟩ v).setCell ⟨w.heap.size + 1 + 1, 2, none⟩ x).cell? ⟨w.heap.size, 0, none⟩ = some (.int .i64 m) ∧ (((W.setCell ⟨w.heap.size + 1 + 1, 0, none⟩ u).setCell ⟨w.heap.size + 1 + 1, 1, none⟩ v).setCell ⟨w.heap.size + 1 + 1, 2, none⟩ x).cell? ⟨w.heap.size, 1, none⟩ = some (.int .i64 p) ∧ (((W.setCell ⟨w.heap.size + 1 + 1, 0, none⟩ u).setCell ⟨w.heap.size + 1 + 1, 1, none⟩ v).setCell ⟨w.heap.size + 1 + 1, 2, none⟩ x).cell? ⟨w.heap.size, 2, none⟩ = some (.slice a n cap)) ∧ ((((W.setCell ⟨w.heap.size + 1 + 1, 0, none⟩ u).setCell ⟨w.heap.size + 1 + 1, 1, none⟩ v).setCell ⟨w.heap.size + 1 + 1, 2, none⟩ x).cell? ⟨w.heap.size + 1, 0, none⟩ = some (.int .u8 (at8 s 0)) ∧ (((W.setCell ⟨w.heap.size + 1 + 1, 0, none⟩ u).setCell ⟨w.heap.size + 1 + 1, 1, none⟩ v).setCell ⟨w.heap.size + 1 + 1, 2, none⟩ x).cell? ⟨w.heap.size + 1, 1, none⟩ = some (.int .u8 (at8 s 1)) ∧ (((W.setCell ⟨w.heap.size + 1 + 1, 0, none⟩ u).setCell ⟨w.heap.size + 1 + 1, 1, none⟩ v).setCell ⟨w.heap.size + 1 + 1, 2, none⟩ x).cell? ⟨w.heap.size + 1, 2, none⟩ = some (.int .u8 (at8 s 2)) ∧ (((W.setCell ⟨w.heap.size + 1 + 1, 0, none⟩ u).setCell ⟨w.heap.size + 1 + 1, 1, none⟩ v).setCell ⟨w.heap.size + 1 + 1, 2, none⟩ x).cell? ⟨w.heap.size + 1, 3, none⟩ = some (.int .u8 (at8 s 3)) ∧ (((W.setCell ⟨w.heap.size + 1 + 1, 0, none⟩ u).setCell ⟨w.heap.size + 1 + 1, 1, none⟩ v).setCell ⟨w.heap.size + 1 + 1, 2, none⟩ x).cell? ⟨w.heap.size + 1, 4, none⟩ = some (.int .u8 (at8 s 4)) ∧ (((W.setCell ⟨w.heap.size + 1 + 1, 0, none⟩ u).setCell ⟨w.heap.size + 1 + 1, 1, none⟩ v).setCell ⟨w.heap.size + 1 + 1, 2, none⟩ x).cell? ⟨w.heap.size + 1, 5, none⟩ = some (.int .u8 (at8 s 5)) ∧ (((W.setCell ⟨w.heap.size + 1 + 1, 0, none⟩ u).setCell ⟨w.heap.size + 1 + 1, 1, none⟩ v).setCell ⟨w.heap.size + 1 + 1, 2, none⟩ x).cell? ⟨w.heap.size + 1, 6, none⟩ = some (.int .u8 (at8 s 6)) ∧ (((W.setCell ⟨w.heap.size + 1 + 1, 0, none⟩ u).setCell ⟨w.heap.size + 1 + 1, 1, none⟩ v).setCell ⟨w.heap.size + 1 + 1, 2, none⟩ x).cell? ⟨w.heap.size + 1, 7, none⟩ = some (.int .u8 (at8 s 7)))) := Lib.hid fun W h u v x => ⟨((A.out.below h).set3 (by omega) u v x).all, ((X.out.below h).set3 (by omega) u v x).flat⟩
 refine wp_region_held_drew (S := (fun w' => (w'.cell? ⟨w.heap.size, 0, none⟩ = some (.int .i64 m) ∧ w'.cell? ⟨w.heap.size, 1, none⟩ = some (.int .i64 p) ∧ w'.cell? ⟨w.heap.size, 2, none⟩ = some (.slice a n cap)) ∧ (w'.cell? ⟨w.heap.size + 1, 0, none⟩ = some (.int .u8 (at8 s 0)) ∧ w'.cell? ⟨w.heap.size + 1, 1, none⟩ = some (.int .u8 (at8 s 1)) ∧ w'.cell? ⟨w.heap.size + 1, 2, none⟩ = some (.int .u8 (at8 s 2)) ∧ w'.cell? ⟨w.heap.size + 1, 3, none⟩ = some (.int .u8 (at8 s 3)) ∧ w'.cell? ⟨w.heap.size + 1, 4, none⟩ = some (.int .u8 (at8 s 4)) ∧ w'.cell? ⟨w.heap.size + 1, 5, none⟩ = some (.int .u8 (at8 s 5)) ∧ w'.cell? ⟨w.heap.size + 1, 6, none⟩ = some (.int .u8 (at8 s 6)) ∧ w'.cell? ⟨w.heap.size + 1, 7, none⟩ = some (.int .u8 (at8 s 7))))) (by kernel_rfl) ?_ (fun hHeld => ?_)
 ·(first | with_reducible exact SH.out _ KB.out | with_reducible exact SZ.out _ KB.out _ _ _)
 refine wpAnyH_take (i := 0) (oi := { dst := some 25, op := Op.move (Operand.tmp 7), type := 2, pos := "l03_normal.go:86", after := #[], guard := none }) (v := ?_) rfl (by kernel_rfl) (by kernel_rfl) (by kernel_rfl) (fun _ _ _ h => h) (Or.inl ⟨by rfl, ?_⟩) (by assumption) ?_
 rotate_left
 ·intro w hSw
  (try dsimp only at hSw)
  go_simp
  try with_reducible rfl
 try simp only [Act.put, List.setIfInBounds_toArray, List.set_cons_zero, List.set_cons_succ]
 refine wpAnyH_take (i := 1) (oi := { dst := some 26, op := Op.fieldAddr 28 (Operand.tmp 3) 1, type := 0, pos := "l03_normal.go:86", after := #[], guard := none }) (v := ?_) rfl (by kernel_rfl) (by kernel_rfl) (by kernel_rfl) (fun _ _ _ h => h) (Or.inl ⟨by rfl, ?_⟩) (by assumption) ?_
 rotate_left
 ·intro w hSw
  (try dsimp only at hSw)
  go_simp
  try with_reducible rfl
 try simp only [Act.put, List.setIfInBounds_toArray, List.set_cons_zero, List.set_cons_succ]
 refine wpAnyH_take (i := 2) (oi := { dst := some 27, op := Op.load 2 (Operand.tmp 26), type := 2, pos := "l03_normal.go:86", after := #[{ on := 1, ground := Ground.data }], guard := none }) (v := ?_) rfl (by kernel_rfl) (by kernel_rfl) (by kernel_rfl) (fun _ _ _ h => h) (Or.inl ⟨by rfl, ?_⟩) (by assumption) ?_
 rotate_left
 ·intro w hSw
  (try dsimp only at hSw)
  go_simp
  try with_reducible rfl
 try simp only [Act.put, List.setIfInBounds_toArray, List.set_cons_zero, List.set_cons_succ]
 refine wpAnyH_take (i := 4) (oi := { dst := some 29, op := Op.fieldAddr 28 (Operand.tmp 3) 2, type := 0, pos := "l03_normal.go:86", after := #[], guard := none }) (v := ?_) rfl (by kernel_rfl) (by kernel_rfl) (by kernel_rfl) (fun _ _ _ h => h) (Or.inl ⟨by rfl, ?_⟩) (by assumption) ?_
 rotate_left
 ·intro w hSw
  (try dsimp only at hSw)
  go_simp
  try with_reducible rfl
 try simp only [Act.put, List.setIfInBounds_toArray, List.set_cons_zero, List.set_cons_succ]
 refine wpAnyH_take (i := 5) (oi := { dst := some 30, op := Op.load 26 (Operand.tmp 29), type := 26, pos := "l03_normal.go:86", after := #[{ on := 4, ground := Ground.data }], guard := none }) (v := ?_) rfl (by kernel_rfl) (by kernel_rfl) (by kernel_rfl) (fun _ _ _ h => h) (Or.inl ⟨by rfl, ?_⟩) (by assumption) ?_
 rotate_left
 ·intro w hSw
  (try dsimp only at hSw)
  go_simp
  try with_reducible rfl
 try simp only [Act.put, List.setIfInBounds_toArray, List.set_cons_zero, List.set_cons_succ]
 refine wpAnyH_take (i := 7) (oi := { dst := some 32, op := Op.load 54 (Operand.tmp 4), type := 54, pos := "l03_normal.go:86", after := #[], guard := none }) (v := ?_) rfl (by kernel_rfl) (by kernel_rfl) (by kernel_rfl) (fun _ _ _ h => h) (Or.inl ⟨by rfl, ?_⟩) (by assumption) ?_
 rotate_left
 ·intro w hSw
  (try dsimp only at hSw)
  go_simp
  try with_reducible rfl
 try simp only [Act.put, List.setIfInBounds_toArray, List.set_cons_zero, List.set_cons_succ]
 refine wpAnyH_ready (rs := [3, 8]) (by kernel_rfl) (by simp) ?_
 refine AllReadyH.cons (o := { dst := some 28, op := Op.buildSlice 26 0 #[], type := 26, pos := "l03_normal.go:86", after := #[], guard := none }) rfl (fun K hK => ?_) ?_
 ·go_simp
  have O : Hid (OwnAV W0.heap.size (W0.alloc (.cells #[] 54)).drew (.slice (some ⟨W0.heap.size, 0, none⟩) 0 0) 0 []) := Lib.hid (own_at W0 (by simp) (by simp))
  replace KB : Hid (Below W0.heap.size W0 (W0.alloc (.cells #[] 54)).drew) := Lib.hid (KB.out.alloc KB.out.size (.cells #[] 54))
  refine hK.out _ _ ?_ (fun hHeld => ?_)
  ·(first | with_reducible exact SH.out _ KB.out | with_reducible exact SZ.out _ KB.out _ _ _)
  clear hK K
  try simp only [Act.put, List.setIfInBounds_toArray, List.set_cons_zero, List.set_cons_succ]
  refine wpAnyH_ready (rs := [6, 8]) (by kernel_rfl) (by simp) ?_
  refine AllReadyH.cons (o := { dst := some 31, op := Op.call { callee := Callee.builtin Builtin.append, args := #[Operand.tmp 28, Operand.tmp 30], argTypes := #[26, 26] }, type := 26, pos := "l03_normal.go:86", after := #[{ on := 3, ground := Ground.data }, { on := 5, ground := Ground.data }], guard := none }) rfl (fun K hK => ?_) ?_
  ·refine step_append_rows_at rfl _ _ 26 rfl W0.heap.size i0 Try.underlying26 hi hz0 hz1 hz2 _ _ _ rfl O.out _ _ _ l rfl (Rd.out.below KB.out) (by omega) KB.out.size ?_
   intro v' w5 ho' hg hv
   replace KB := Lib.hid (below_ownA KB.out KB.out.size (Nat.le_refl _) O.out hg)
   rw [List.nil_append, Nat.zero_add] at ho'
   replace O := Lib.hid ho'
   clear ho' hg hv
   refine hK.out _ _ ?_ (fun hHeld => ?_)
   ·(first | with_reducible exact SH.out _ KB.out | with_reducible exact SZ.out _ KB.out _ _ _)
   clear hK K
   try simp only [Act.put, List.setIfInBounds_toArray, List.set_cons_zero, List.set_cons_succ]
   refine wpAnyH_ready (rs := [8]) (by kernel_rfl) (by simp) ?_
   refine AllReadyH.cons (o := { dst := some 33, op := Op.buildSlice 26 1 #[(0, Operand.tmp 32)], type := 26, pos := "l03_normal.go:86", after := #[{ on := 7, ground := Ground.data }], guard := none }) rfl (fun K hK => ?_) ?_
   ·go_simp
    replace O := Lib.hid (O.out.drawn ((Below.refl _ _).alloc (Nat.le_refl _) (.cells #[.int .u8 (at8 s 0), .int .u8 (at8 s 1), .int .u8 (at8 s 2), .int .u8 (at8 s 3), .int .u8 (at8 s 4), .int .u8 (at8 s 5), .int .u8 (at8 s 6), .int .u8 (at8 s 7)] 54)))
    have Y : Hid (ReadsA (w5.alloc (.cells #[.int .u8 (at8 s 0), .int .u8 (at8 s 1), .int .u8 (at8 s 2), .int .u8 (at8 s 3), .int .u8 (at8 s 4), .int .u8 (at8 s 5), .int .u8 (at8 s 6), .int .u8 (at8 s 7)] 54)) (some ⟨w5.heap.size, 0, none⟩) 1 [s]) := Lib.hid (reads_at w5 s hlen.out 54 (by simp))
    replace KB : Hid (Below W0.heap.size W0 (w5.alloc (.cells #[.int .u8 (at8 s 0), .int .u8 (at8 s 1), .int .u8 (at8 s 2), .int .u8 (at8 s 3), .int .u8 (at8 s 4), .int .u8 (at8 s 5), .int .u8 (at8 s 6), .int .u8 (at8 s 7)] 54))) := Lib.hid (KB.out.alloc KB.out.size (.cells #[.int .u8 (at8 s 0), .int .u8 (at8 s 1), .int .u8 (at8 s 2), .int .u8 (at8 s 3), .int .u8 (at8 s 4), .int .u8 (at8 s 5), .int .u8 (at8 s 6), .int .u8 (at8 s 7)] 54))
    refine hK.out _ _ ?_ (fun hHeld => ?_)
    ·(first | with_reducible exact SH.out _ KB.out | with_reducible exact SZ.out _ KB.out _ _ _)
    clear hK K
    try simp only [Act.put, List.setIfInBounds_toArray, List.set_cons_zero, List.set_cons_succ]
    refine wpAnyH_ready (rs := [9]) (by kernel_rfl) (by simp) ?_
    refine AllReadyH.cons (o := { dst := some 34, op := Op.call { callee := Callee.builtin Builtin.append, args := #[Operand.tmp 31, Operand.tmp 33], argTypes := #[26, 26] }, type := 26, pos := "l03_normal.go:86", after := #[{ on := 6, ground := Ground.data }, { on := 8, ground := Ground.data }, { on := 6, ground := Ground.chain }], guard := none }) rfl (fun K hK => ?_) ?_
    ·refine step_append_rows_at rfl _ _ 26 rfl W0.heap.size i0 Try.underlying26 hi hz0 hz1 hz2 _ _ _ rfl O.out _ _ _ [s] rfl Y.out (by omega) KB.out.size ?_
     intro v'' w7 ho' hg hv
     replace KB := Lib.hid (below_ownA KB.out KB.out.size (Nat.le_refl _) O.out hg)
     obtain ⟨a5, c5, rfl, ho5⟩ := ho'.form
     have P := Lib.hid ho5
     clear ho' hg hv ho5
     refine hK.out _ _ ?_ (fun hHeld => ?_)
     ·(first | with_reducible exact SH.out _ KB.out | with_reducible exact SZ.out _ KB.out _ _ _)
     clear hK K
     try simp only [Act.put, List.setIfInBounds_toArray, List.set_cons_zero, List.set_cons_succ]
     refine wpAnyH_ready (rs := [10]) (by kernel_rfl) (by simp) ?_
     refine AllReadyH.cons (o := { dst := some 35, op := Op.call { callee := Callee.value (Operand.func 59), args := #[Operand.tmp 25, Operand.tmp 27, Operand.tmp 34], argTypes := #[2, 2, 26] }, type := 28, pos := "l03_normal.go:86", after := #[{ on := 0, ground := Ground.data }, { on := 2, ground := Ground.data }, { on := 9, ground := Ground.data }, { on := 9, ground := Ground.chain }], guard := none }) rfl (fun K hK => ?_) ?_
     ·go_simp
      refine (l03Make_any m m1 m8 p (by omega) _ _ _ (l ++ [s]) _ P.out.reads SM.out (by omega) q kf HMK.out).mono ?_
      rintro e w6 ⟨a6, n6, c6, rfl, ho, gg⟩
      have R := Lib.hid (ho.mono KB.out.size)
      replace KB := Lib.hid (below_go KB.out gg KB.out.size)
      clear ho gg
      obtain ⟨x0, ⟨x1, x2, x3⟩, y1, y2, y3⟩ := Z.out.below KB.out
      go_wp2_with fail
      refine hK.out _ _ ?_ (fun hHeld => ?_)
      ·(first | with_reducible exact SH.out _ KB.out | with_reducible exact SZ.out _ KB.out _ _ _)
      clear hK K
      try simp only [Act.put, List.setIfInBounds_toArray, List.set_cons_zero, List.set_cons_succ]
      refine wpAnyH_ready (rs := [11]) (by kernel_rfl) (by simp) ?_
      refine AllReadyH.cons (o := { dst := none, op := Op.store 28 (Operand.tmp 6) (Operand.tmp 35), type := 0, pos := "l03_normal.go:86", after := #[{ on := 10, ground := Ground.data }, { on := 10, ground := Ground.chain }, { on := 0, ground := Ground.phase }, { on := 1, ground := Ground.phase }, { on := 2, ground := Ground.phase }, { on := 3, ground := Ground.phase }, { on := 4, ground := Ground.phase }, { on := 5, ground := Ground.phase }, { on := 6, ground := Ground.phase }, { on := 7, ground := Ground.phase }, { on := 8, ground := Ground.phase }, { on := 9, ground := Ground.phase }, { on := 10, ground := Ground.phase }], guard := none }) rfl (fun K hK => ?_) ?_
      ·go_simp
       refine hK.out _ _ ?_ (fun hHeld => ?_)
       ·(first | with_reducible exact SH.out _ KB.out | with_reducible exact SZ.out _ KB.out _ _ _)
       clear hK K
       try simp only [Act.put, List.setIfInBounds_toArray, List.set_cons_zero, List.set_cons_succ]
       refine wpAnyH_done (by kernel_rfl) ?_ _
       go_wp2_with fail
       try rw [Exit.noGoto_ret]
       obtain ⟨_, ⟨e1, e2, e3⟩, _⟩ := (Z.out.below KB.out).fill (.int .i64 m) (.int .i64 q) (.slice a6 n6 c6)
       refine bodyPost_ret (v := .agg #[.int .i64 m, .int .i64 q, .slice a6 n6 c6]) (by simp [results, Try.results68, go_sem, e1, e2, e3]) rfl ⟨a6, n6, c6, rfl, (R.out.set3 (by have := zz.out; omega) _ _ _).mono (by have := zz.out; omega), below_set3 (below_go B.out KB.out (by have := zz.out; omega)) (by omega) _ _ _⟩
      exact AllReadyH.nil
     exact AllReadyH.nil
    exact AllReadyH.nil
   exact AllReadyH.nil
  refine AllReadyH.cons (o := { dst := some 33, op := Op.buildSlice 26 1 #[(0, Operand.tmp 32)], type := 26, pos := "l03_normal.go:86", after := #[{ on := 7, ground := Ground.data }], guard := none }) rfl (fun K hK => ?_) ?_
  ·go_simp
   replace O : Hid (OwnAV W0.heap.size ((W0.alloc (.cells #[] 54)).alloc (.cells #[.int .u8 (at8 s 0), .int .u8 (at8 s 1), .int .u8 (at8 s 2), .int .u8 (at8 s 3), .int .u8 (at8 s 4), .int .u8 (at8 s 5), .int .u8 (at8 s 6), .int .u8 (at8 s 7)] 54)).drew (.slice (some ⟨W0.heap.size, 0, none⟩) 0 0) 0 []) := Lib.hid (O.out.alloc (.cells #[.int .u8 (at8 s 0), .int .u8 (at8 s 1), .int .u8 (at8 s 2), .int .u8 (at8 s 3), .int .u8 (at8 s 4), .int .u8 (at8 s 5), .int .u8 (at8 s 6), .int .u8 (at8 s 7)] 54))
   have Y : Hid (ReadsA ((W0.alloc (.cells #[] 54)).alloc (.cells #[.int .u8 (at8 s 0), .int .u8 (at8 s 1), .int .u8 (at8 s 2), .int .u8 (at8 s 3), .int .u8 (at8 s 4), .int .u8 (at8 s 5), .int .u8 (at8 s 6), .int .u8 (at8 s 7)] 54)).drew (some ⟨W0.heap.size + 1, 0, none⟩) 1 [s]) := Lib.hid (reads_at (W0.alloc (.cells #[] 54)) s hlen.out 54 (by simp))
   replace KB : Hid (Below W0.heap.size W0 ((W0.alloc (.cells #[] 54)).alloc (.cells #[.int .u8 (at8 s 0), .int .u8 (at8 s 1), .int .u8 (at8 s 2), .int .u8 (at8 s 3), .int .u8 (at8 s 4), .int .u8 (at8 s 5), .int .u8 (at8 s 6), .int .u8 (at8 s 7)] 54)).drew) := Lib.hid (KB.out.alloc KB.out.size (.cells #[.int .u8 (at8 s 0), .int .u8 (at8 s 1), .int .u8 (at8 s 2), .int .u8 (at8 s 3), .int .u8 (at8 s 4), .int .u8 (at8 s 5), .int .u8 (at8 s 6), .int .u8 (at8 s 7)] 54))
   refine hK.out _ _ ?_ (fun hHeld => ?_)
   ·(first | with_reducible exact SH.out _ KB.out | with_reducible exact SZ.out _ KB.out _ _ _)
   clear hK K
   try simp only [Act.put, List.setIfInBounds_toArray, List.set_cons_zero, List.set_cons_succ]
   refine wpAnyH_ready (rs := [6]) (by kernel_rfl) (by simp) ?_
   refine AllReadyH.cons (o := { dst := some 31, op := Op.call { callee := Callee.builtin Builtin.append, args := #[Operand.tmp 28, Operand.tmp 30], argTypes := #[26, 26] }, type := 26, pos := "l03_normal.go:86", after := #[{ on := 3, ground := Ground.data }, { on := 5, ground := Ground.data }], guard := none }) rfl (fun K hK => ?_) ?_
   ·refine step_append_rows_at rfl _ _ 26 rfl W0.heap.size i0 Try.underlying26 hi hz0 hz1 hz2 _ _ _ rfl O.out _ _ _ l rfl (Rd.out.below KB.out) (by omega) KB.out.size ?_
    intro v' w5 ho' hg hv
    have hg2 : World.grownBy _ w5 (some (W0.heap.size)) := hg
    replace Y := Lib.hid (Y.out.grown hg2 (by intro x hx; cases hx; simp))
    clear hg2
    replace KB := Lib.hid (below_ownA KB.out KB.out.size (Nat.le_refl _) O.out hg)
    rw [List.nil_append, Nat.zero_add] at ho'
    replace O := Lib.hid ho'
    clear ho' hg hv
    refine hK.out _ _ ?_ (fun hHeld => ?_)
    ·(first | with_reducible exact SH.out _ KB.out | with_reducible exact SZ.out _ KB.out _ _ _)
    clear hK K
    try simp only [Act.put, List.setIfInBounds_toArray, List.set_cons_zero, List.set_cons_succ]
    refine wpAnyH_ready (rs := [9]) (by kernel_rfl) (by simp) ?_
    refine AllReadyH.cons (o := { dst := some 34, op := Op.call { callee := Callee.builtin Builtin.append, args := #[Operand.tmp 31, Operand.tmp 33], argTypes := #[26, 26] }, type := 26, pos := "l03_normal.go:86", after := #[{ on := 6, ground := Ground.data }, { on := 8, ground := Ground.data }, { on := 6, ground := Ground.chain }], guard := none }) rfl (fun K hK => ?_) ?_
    ·refine step_append_rows_at rfl _ _ 26 rfl W0.heap.size i0 Try.underlying26 hi hz0 hz1 hz2 _ _ _ rfl O.out _ _ _ [s] rfl Y.out (by omega) KB.out.size ?_
     intro v'' w7 ho' hg hv
     replace KB := Lib.hid (below_ownA KB.out KB.out.size (Nat.le_refl _) O.out hg)
     obtain ⟨a5, c5, rfl, ho5⟩ := ho'.form
     have P := Lib.hid ho5
     clear ho' hg hv ho5
     refine hK.out _ _ ?_ (fun hHeld => ?_)
     ·(first | with_reducible exact SH.out _ KB.out | with_reducible exact SZ.out _ KB.out _ _ _)
     clear hK K
     try simp only [Act.put, List.setIfInBounds_toArray, List.set_cons_zero, List.set_cons_succ]
     refine wpAnyH_ready (rs := [10]) (by kernel_rfl) (by simp) ?_
     refine AllReadyH.cons (o := { dst := some 35, op := Op.call { callee := Callee.value (Operand.func 59), args := #[Operand.tmp 25, Operand.tmp 27, Operand.tmp 34], argTypes := #[2, 2, 26] }, type := 28, pos := "l03_normal.go:86", after := #[{ on := 0, ground := Ground.data }, { on := 2, ground := Ground.data }, { on := 9, ground := Ground.data }, { on := 9, ground := Ground.chain }], guard := none }) rfl (fun K hK => ?_) ?_
     ·go_simp
      refine (l03Make_any m m1 m8 p (by omega) _ _ _ (l ++ [s]) _ P.out.reads SM.out (by omega) q kf HMK.out).mono ?_
      rintro e w6 ⟨a6, n6, c6, rfl, ho, gg⟩
      have R := Lib.hid (ho.mono KB.out.size)
      replace KB := Lib.hid (below_go KB.out gg KB.out.size)
      clear ho gg
      obtain ⟨x0, ⟨x1, x2, x3⟩, y1, y2, y3⟩ := Z.out.below KB.out
      go_wp2_with fail
      refine hK.out _ _ ?_ (fun hHeld => ?_)
      ·(first | with_reducible exact SH.out _ KB.out | with_reducible exact SZ.out _ KB.out _ _ _)
      clear hK K
      try simp only [Act.put, List.setIfInBounds_toArray, List.set_cons_zero, List.set_cons_succ]
      refine wpAnyH_ready (rs := [11]) (by kernel_rfl) (by simp) ?_
      refine AllReadyH.cons (o := { dst := none, op := Op.store 28 (Operand.tmp 6) (Operand.tmp 35), type := 0, pos := "l03_normal.go:86", after := #[{ on := 10, ground := Ground.data }, { on := 10, ground := Ground.chain }, { on := 0, ground := Ground.phase }, { on := 1, ground := Ground.phase }, { on := 2, ground := Ground.phase }, { on := 3, ground := Ground.phase }, { on := 4, ground := Ground.phase }, { on := 5, ground := Ground.phase }, { on := 6, ground := Ground.phase }, { on := 7, ground := Ground.phase }, { on := 8, ground := Ground.phase }, { on := 9, ground := Ground.phase }, { on := 10, ground := Ground.phase }], guard := none }) rfl (fun K hK => ?_) ?_
      ·go_simp
       refine hK.out _ _ ?_ (fun hHeld => ?_)
       ·(first | with_reducible exact SH.out _ KB.out | with_reducible exact SZ.out _ KB.out _ _ _)
       clear hK K
       try simp only [Act.put, List.setIfInBounds_toArray, List.set_cons_zero, List.set_cons_succ]
       refine wpAnyH_done (by kernel_rfl) ?_ _
       go_wp2_with fail
       try rw [Exit.noGoto_ret]
       obtain ⟨_, ⟨e1, e2, e3⟩, _⟩ := (Z.out.below KB.out).fill (.int .i64 m) (.int .i64 q) (.slice a6 n6 c6)
       refine bodyPost_ret (v := .agg #[.int .i64 m, .int .i64 q, .slice a6 n6 c6]) (by simp [results, Try.results68, go_sem, e1, e2, e3]) rfl ⟨a6, n6, c6, rfl, (R.out.set3 (by have := zz.out; omega) _ _ _).mono (by have := zz.out; omega), below_set3 (below_go B.out KB.out (by have := zz.out; omega)) (by omega) _ _ _⟩
      exact AllReadyH.nil
     exact AllReadyH.nil
    exact AllReadyH.nil
   exact AllReadyH.nil
  exact AllReadyH.nil
 refine AllReadyH.cons (o := { dst := some 33, op := Op.buildSlice 26 1 #[(0, Operand.tmp 32)], type := 26, pos := "l03_normal.go:86", after := #[{ on := 7, ground := Ground.data }], guard := none }) rfl (fun K hK => ?_) ?_
 ·go_simp
  have Y : Hid (ReadsA (W0.alloc (.cells #[.int .u8 (at8 s 0), .int .u8 (at8 s 1), .int .u8 (at8 s 2), .int .u8 (at8 s 3), .int .u8 (at8 s 4), .int .u8 (at8 s 5), .int .u8 (at8 s 6), .int .u8 (at8 s 7)] 54)).drew (some ⟨W0.heap.size, 0, none⟩) 1 [s]) := Lib.hid (reads_at W0 s hlen.out 54 (by simp))
  replace KB : Hid (Below W0.heap.size W0 (W0.alloc (.cells #[.int .u8 (at8 s 0), .int .u8 (at8 s 1), .int .u8 (at8 s 2), .int .u8 (at8 s 3), .int .u8 (at8 s 4), .int .u8 (at8 s 5), .int .u8 (at8 s 6), .int .u8 (at8 s 7)] 54)).drew) := Lib.hid (KB.out.alloc KB.out.size (.cells #[.int .u8 (at8 s 0), .int .u8 (at8 s 1), .int .u8 (at8 s 2), .int .u8 (at8 s 3), .int .u8 (at8 s 4), .int .u8 (at8 s 5), .int .u8 (at8 s 6), .int .u8 (at8 s 7)] 54))
  refine hK.out _ _ ?_ (fun hHeld => ?_)
  ·(first | with_reducible exact SH.out _ KB.out | with_reducible exact SZ.out _ KB.out _ _ _)
  clear hK K
  try simp only [Act.put, List.setIfInBounds_toArray, List.set_cons_zero, List.set_cons_succ]
  refine wpAnyH_ready (rs := [3]) (by kernel_rfl) (by simp) ?_
  refine AllReadyH.cons (o := { dst := some 28, op := Op.buildSlice 26 0 #[], type := 26, pos := "l03_normal.go:86", after := #[], guard := none }) rfl (fun K hK => ?_) ?_
  ·go_simp
   replace Y : Hid (ReadsA ((W0.alloc (.cells #[.int .u8 (at8 s 0), .int .u8 (at8 s 1), .int .u8 (at8 s 2), .int .u8 (at8 s 3), .int .u8 (at8 s 4), .int .u8 (at8 s 5), .int .u8 (at8 s 6), .int .u8 (at8 s 7)] 54)).alloc (.cells #[] 54)).drew (some ⟨W0.heap.size, 0, none⟩) 1 [s]) := Lib.hid (Y.out.alloc (.cells #[] 54))
   have O : Hid (OwnAV W0.heap.size ((W0.alloc (.cells #[.int .u8 (at8 s 0), .int .u8 (at8 s 1), .int .u8 (at8 s 2), .int .u8 (at8 s 3), .int .u8 (at8 s 4), .int .u8 (at8 s 5), .int .u8 (at8 s 6), .int .u8 (at8 s 7)] 54)).alloc (.cells #[] 54)).drew (.slice (some ⟨W0.heap.size + 1, 0, none⟩) 0 0) 0 []) := Lib.hid (own_at (W0.alloc (.cells #[.int .u8 (at8 s 0), .int .u8 (at8 s 1), .int .u8 (at8 s 2), .int .u8 (at8 s 3), .int .u8 (at8 s 4), .int .u8 (at8 s 5), .int .u8 (at8 s 6), .int .u8 (at8 s 7)] 54)) (by simp) (by simp))
   replace KB : Hid (Below W0.heap.size W0 ((W0.alloc (.cells #[.int .u8 (at8 s 0), .int .u8 (at8 s 1), .int .u8 (at8 s 2), .int .u8 (at8 s 3), .int .u8 (at8 s 4), .int .u8 (at8 s 5), .int .u8 (at8 s 6), .int .u8 (at8 s 7)] 54)).alloc (.cells #[] 54)).drew) := Lib.hid (KB.out.alloc KB.out.size (.cells #[] 54))
   refine hK.out _ _ ?_ (fun hHeld => ?_)
   ·(first | with_reducible exact SH.out _ KB.out | with_reducible exact SZ.out _ KB.out _ _ _)
   clear hK K
   try simp only [Act.put, List.setIfInBounds_toArray, List.set_cons_zero, List.set_cons_succ]
   refine wpAnyH_ready (rs := [6]) (by kernel_rfl) (by simp) ?_
   refine AllReadyH.cons (o := { dst := some 31, op := Op.call { callee := Callee.builtin Builtin.append, args := #[Operand.tmp 28, Operand.tmp 30], argTypes := #[26, 26] }, type := 26, pos := "l03_normal.go:86", after := #[{ on := 3, ground := Ground.data }, { on := 5, ground := Ground.data }], guard := none }) rfl (fun K hK => ?_) ?_
   ·refine step_append_rows_at rfl _ _ 26 rfl W0.heap.size i0 Try.underlying26 hi hz0 hz1 hz2 _ _ _ rfl O.out _ _ _ l rfl (Rd.out.below KB.out) (by omega) KB.out.size ?_
    intro v' w5 ho' hg hv
    have hg2 : World.grownBy _ w5 (some (W0.heap.size + 1)) := hg
    replace Y := Lib.hid (Y.out.grown hg2 (by intro x hx; cases hx; simp))
    clear hg2
    replace KB := Lib.hid (below_ownA KB.out KB.out.size (Nat.le_refl _) O.out hg)
    rw [List.nil_append, Nat.zero_add] at ho'
    replace O := Lib.hid ho'
    clear ho' hg hv
    refine hK.out _ _ ?_ (fun hHeld => ?_)
    ·(first | with_reducible exact SH.out _ KB.out | with_reducible exact SZ.out _ KB.out _ _ _)
    clear hK K
    try simp only [Act.put, List.setIfInBounds_toArray, List.set_cons_zero, List.set_cons_succ]
    refine wpAnyH_ready (rs := [9]) (by kernel_rfl) (by simp) ?_
    refine AllReadyH.cons (o := { dst := some 34, op := Op.call { callee := Callee.builtin Builtin.append, args := #[Operand.tmp 31, Operand.tmp 33], argTypes := #[26, 26] }, type := 26, pos := "l03_normal.go:86", after := #[{ on := 6, ground := Ground.data }, { on := 8, ground := Ground.data }, { on := 6, ground := Ground.chain }], guard := none }) rfl (fun K hK => ?_) ?_
    ·refine step_append_rows_at rfl _ _ 26 rfl W0.heap.size i0 Try.underlying26 hi hz0 hz1 hz2 _ _ _ rfl O.out _ _ _ [s] rfl Y.out (by omega) KB.out.size ?_
     intro v'' w7 ho' hg hv
     replace KB := Lib.hid (below_ownA KB.out KB.out.size (Nat.le_refl _) O.out hg)
     obtain ⟨a5, c5, rfl, ho5⟩ := ho'.form
     have P := Lib.hid ho5
     clear ho' hg hv ho5
     refine hK.out _ _ ?_ (fun hHeld => ?_)
     ·(first | with_reducible exact SH.out _ KB.out | with_reducible exact SZ.out _ KB.out _ _ _)
     clear hK K
     try simp only [Act.put, List.setIfInBounds_toArray, List.set_cons_zero, List.set_cons_succ]
     refine wpAnyH_ready (rs := [10]) (by kernel_rfl) (by simp) ?_
     refine AllReadyH.cons (o := { dst := some 35, op := Op.call { callee := Callee.value (Operand.func 59), args := #[Operand.tmp 25, Operand.tmp 27, Operand.tmp 34], argTypes := #[2, 2, 26] }, type := 28, pos := "l03_normal.go:86", after := #[{ on := 0, ground := Ground.data }, { on := 2, ground := Ground.data }, { on := 9, ground := Ground.data }, { on := 9, ground := Ground.chain }], guard := none }) rfl (fun K hK => ?_) ?_
     ·go_simp
      refine (l03Make_any m m1 m8 p (by omega) _ _ _ (l ++ [s]) _ P.out.reads SM.out (by omega) q kf HMK.out).mono ?_
      rintro e w6 ⟨a6, n6, c6, rfl, ho, gg⟩
      have R := Lib.hid (ho.mono KB.out.size)
      replace KB := Lib.hid (below_go KB.out gg KB.out.size)
      clear ho gg
      obtain ⟨x0, ⟨x1, x2, x3⟩, y1, y2, y3⟩ := Z.out.below KB.out
      go_wp2_with fail
      refine hK.out _ _ ?_ (fun hHeld => ?_)
      ·(first | with_reducible exact SH.out _ KB.out | with_reducible exact SZ.out _ KB.out _ _ _)
      clear hK K
      try simp only [Act.put, List.setIfInBounds_toArray, List.set_cons_zero, List.set_cons_succ]
      refine wpAnyH_ready (rs := [11]) (by kernel_rfl) (by simp) ?_
      refine AllReadyH.cons (o := { dst := none, op := Op.store 28 (Operand.tmp 6) (Operand.tmp 35), type := 0, pos := "l03_normal.go:86", after := #[{ on := 10, ground := Ground.data }, { on := 10, ground := Ground.chain }, { on := 0, ground := Ground.phase }, { on := 1, ground := Ground.phase }, { on := 2, ground := Ground.phase }, { on := 3, ground := Ground.phase }, { on := 4, ground := Ground.phase }, { on := 5, ground := Ground.phase }, { on := 6, ground := Ground.phase }, { on := 7, ground := Ground.phase }, { on := 8, ground := Ground.phase }, { on := 9, ground := Ground.phase }, { on := 10, ground := Ground.phase }], guard := none }) rfl (fun K hK => ?_) ?_
      ·go_simp
       refine hK.out _ _ ?_ (fun hHeld => ?_)
       ·(first | with_reducible exact SH.out _ KB.out | with_reducible exact SZ.out _ KB.out _ _ _)
       clear hK K
       try simp only [Act.put, List.setIfInBounds_toArray, List.set_cons_zero, List.set_cons_succ]
       refine wpAnyH_done (by kernel_rfl) ?_ _
       go_wp2_with fail
       try rw [Exit.noGoto_ret]
       obtain ⟨_, ⟨e1, e2, e3⟩, _⟩ := (Z.out.below KB.out).fill (.int .i64 m) (.int .i64 q) (.slice a6 n6 c6)
       refine bodyPost_ret (v := .agg #[.int .i64 m, .int .i64 q, .slice a6 n6 c6]) (by simp [results, Try.results68, go_sem, e1, e2, e3]) rfl ⟨a6, n6, c6, rfl, (R.out.set3 (by have := zz.out; omega) _ _ _).mono (by have := zz.out; omega), below_set3 (below_go B.out KB.out (by have := zz.out; omega)) (by omega) _ _ _⟩
      exact AllReadyH.nil
     exact AllReadyH.nil
    exact AllReadyH.nil
   exact AllReadyH.nil
  exact AllReadyH.nil
 exact AllReadyH.nil

end Go.Proofs.Ytleoohplnkdbdab

