/- The model: a normal form and one simple braid more, or its inverse. -/
import Derived.Test.YtleoohplnkdbdabCjSMk0
import Derived.Test.YtleoohplnkdbdabCjKit15
import Derived.Test.YtleoohplnkdbdabCjSTrd
import Derived.Test.YtleoohplnkdbdabCjLeft
namespace Go.Proofs.Ytleoohplnkdbdab
open Go.RowKit Go.ChangeShapes

theorem l02Left_left (n : Nat) (s : List Int) (hs : Sim n s) (w : World) :
  Calls Try.prog 106 #[arr8 .u8 s, .int .i64 n] w (RetArr .u8 w (leftR n s)) := l02Left_any n s hs w

set_option maxRecDepth 100000 in
set_option maxHeartbeats 1000000 in
theorem l03Times_neg (m : Nat) (m1 : 1 ≤ m) (m8 : m ≤ 8) (p : Int) (hp : -1000000 ≤ p ∧ p ≤ 1000000) (a : Option Addr) (n cap : Nat) (l : List (List Int)) (s : List Int) (w : World) (hr : ReadsA w a n l) (hs : Sims m l) (hss : Sim m s) (hn : n ≤ 1000000)
  (q : Int) (kf : List (List Int)) (hM : mkN m (p - 1) (turns m 1 l ++ [leftR m s]) = (q, kf)) :
  Calls Try.prog 68 #[.agg #[.int .i64 m, .int .i64 p, .slice a n cap], arr8 .u8 s, .bool true] w (RetNormal w m q kf) := by
 obtain ⟨i0, hi, hz0, hz1, hz2⟩ := info_parts infoSimple
 have HS := Lib.hid hs; clear hs
 have SS := Lib.hid hss; clear hss
 have HMK := Lib.hid hM; clear hM
 have Rd := Lib.hid hr
 clear hr
 have hlen := Lib.hid SS.out.len
 go_enter Try.func68, Try.ntmps68
 have A := Lib.hid (((At3.place w (.int .i64 m) (.int .i64 p) (.slice a n cap) 28 w.heap.size rfl).alloc (.cells #[.int .u8 (at8 s 0), .int .u8 (at8 s 1), .int .u8 (at8 s 2), .int .u8 (at8 s 3), .int .u8 (at8 s 4), .int .u8 (at8 s 5), .int .u8 (at8 s 6), .int .u8 (at8 s 7)] 54)).alloc (.cells #[.int .i64 0, .int .i64 0, .slice none 0 0] 28))
 have X := Lib.hid ((Row8.place (w.alloc (.cells #[.int .i64 m, .int .i64 p, .slice a n cap] 28)) .u8 s 54 (w.heap.size + 1) (by simp) hlen.out).alloc (.cells #[.int .i64 0, .int .i64 0, .slice none 0 0] 28))
 have Z := Lib.hid (At3.place ((w.alloc (.cells #[.int .i64 m, .int .i64 p, .slice a n cap] 28)).alloc (.cells #[.int .u8 (at8 s 0), .int .u8 (at8 s 1), .int .u8 (at8 s 2), .int .u8 (at8 s 3), .int .u8 (at8 s 4), .int .u8 (at8 s 5), .int .u8 (at8 s 6), .int .u8 (at8 s 7)] 54)) (.int .i64 0) (.int .i64 0) (.slice none 0 0) 28 (w.heap.size + 1 + 1) (by simp))
 have B := Lib.hid (((below1 w (.cells #[.int .i64 m, .int .i64 p, .slice a n cap] 28)).alloc (by simp) (.cells #[.int .u8 (at8 s 0), .int .u8 (at8 s 1), .int .u8 (at8 s 2), .int .u8 (at8 s 3), .int .u8 (at8 s 4), .int .u8 (at8 s 5), .int .u8 (at8 s 6), .int .u8 (at8 s 7)] 54)).alloc (by simp; omega) (.cells #[.int .i64 0, .int .i64 0, .slice none 0 0] 28))
 replace Rd := Lib.hid (((Rd.out.alloc (.cells #[.int .i64 m, .int .i64 p, .slice a n cap] 28)).alloc (.cells #[.int .u8 (at8 s 0), .int .u8 (at8 s 1), .int .u8 (at8 s 2), .int .u8 (at8 s 3), .int .u8 (at8 s 4), .int .u8 (at8 s 5), .int .u8 (at8 s 6), .int .u8 (at8 s 7)] 54)).alloc (.cells #[.int .i64 0, .int .i64 0, .slice none 0 0] 28))
 have zz : Hid ((((w.alloc (.cells #[.int .i64 m, .int .i64 p, .slice a n cap] 28)).alloc (.cells #[.int .u8 (at8 s 0), .int .u8 (at8 s 1), .int .u8 (at8 s 2), .int .u8 (at8 s 3), .int .u8 (at8 s 4), .int .u8 (at8 s 5), .int .u8 (at8 s 6), .int .u8 (at8 s 7)] 54)).alloc (.cells #[.int .i64 0, .int .i64 0, .slice none 0 0] 28)).heap.size = w.heap.size + 1 + 1 + 1) := Lib.hid (by simp)
 have hwp : IntKind.i64.wrap (p - 1) = p - 1 := IntWalk.i64_in _ (by omega)
 have HL8 := Lib.hid (leftR_sim SS.out).len
 have SM : Hid (Sims m (turns m 1 l ++ [leftR m s])) := Lib.hid (Sims.app (turnsK_sims HS.out) (Sims.cons (leftR_sim SS.out) Sims.nil))
 go_upto_region 3 with fail
 obtain ⟨W0, hW0⟩ : ∃ W0, W0 = ((w.alloc (.cells #[.int .i64 m, .int .i64 p, .slice a n cap] 28)).alloc (.cells #[.int .u8 (at8 s 0), .int .u8 (at8 s 1), .int .u8 (at8 s 2), .int .u8 (at8 s 3), .int .u8 (at8 s 4), .int .u8 (at8 s 5), .int .u8 (at8 s 6), .int .u8 (at8 s 7)] 54)).alloc (.cells #[.int .i64 0, .int .i64 0, .slice none 0 0] 28) := ⟨_, rfl⟩
 rw [← hW0] at A X Z B Rd zz ⊢
 clear hW0
 have zy : Hid (W0.drew.heap.size = w.heap.size + 1 + 1 + 1) := zz
 have KB := Lib.hid (Below.refl W0.drew.heap.size W0.drew)
 have SH : Hid (∀ W, Below W0.drew.heap.size W0.drew W → (W.cell? ⟨w.heap.size, 0, none⟩ = some (.int .i64 m) ∧ W.cell? ⟨w.heap.size, 1, none⟩ = some (.int .i64 p) ∧ W.cell? ⟨w.heap.size, 2, none⟩ = some (.slice a n cap)) ∧ (W.cell? ⟨w.heap.size + 1, 0, none⟩ = some (.int .u8 (at8 s 0)) ∧ W.cell? ⟨w.heap.size + 1, 1, none⟩ = some (.int .u8 (at8 s 1)) ∧ W.cell? ⟨w.heap.size + 1, 2, none⟩ = some (.int .u8 (at8 s 2)) ∧ W.cell? ⟨w.heap.size + 1, 3, none⟩ = some (.int .u8 (at8 s 3)) ∧ W.cell? ⟨w.heap.size + 1, 4, none⟩ = some (.int .u8 (at8 s 4)) ∧ W.cell? ⟨w.heap.size + 1, 5, none⟩ = some (.int .u8 (at8 s 5)) ∧ W.cell? ⟨w.heap.size + 1, 6, none⟩ = some (.int .u8 (at8 s 6)) ∧ W.cell? ⟨w.heap.size + 1, 7, none⟩ = some (.int .u8 (at8 s 7)))) := Lib.hid fun W h => ⟨(A.out.drew.below h).all, (X.out.drew.below h).flat⟩
 have SZ : Hid (∀ W, Below W0.drew.heap.size W0.drew W → ∀ u v x, ((((W.setCell ⟨w.heap.size + 1 + 1, 0, none⟩ u).setCell ⟨w.heap.size + 1 + 1, 1, none⟩ v).setCell ⟨w.heap.size + 1 + 1, 2, none⟩ x).cell? ⟨w.heap.size, 0, none⟩ = some (.int .i64 m) ∧ (((W.setCell ⟨w.heap.size + 1 + 1, 0, none⟩ u).setCell ⟨w.heap.size + 1 + 1, 1, none⟩ v).setCell ⟨w.heap.size + 1 + 1, 2, none⟩ x).cell? ⟨w.heap.size, 1, none⟩ = some (.int .i64 p) ∧ (((W.setCell ⟨w.heap.size + 1 + 1, 0, none⟩ u).setCell ⟨w.heap.size + 1 + 1, 1, none⟩ v).setCell ⟨w.heap.size + 1 + 1, 2, none⟩ x).cell? ⟨w.heap.size, 2, none⟩ = some (.slice a n cap)) ∧ ((((W.setCell ⟨w.heap.size + 1 + 1, 0, none⟩ u).setCell ⟨w.heap.size + 1 + 1, 1, none⟩ v).setCell ⟨w.heap.size + 1 + 1, 2, none⟩ x).cell? ⟨w.heap.size + 1, 0, none⟩ = some (.int .u8 (at8 s 0)) ∧ (((W.setCell ⟨w.heap.size + 1 + 1, 0, none⟩ u).setCell ⟨w.heap.size + 1 + 1, 1, none⟩ v).setCell ⟨w.heap.size + 1 + 1, 2, none⟩ x).cell? ⟨w.heap.size + 1, 1, none⟩ = some (.int .u8 (at8 s 1)) ∧ (((W.setCell ⟨w.heap.size + 1 + 1, 0, none⟩ u).setCell ⟨w.heap.size + 1 + 1, 1, none⟩ v).setCell ⟨w.heap.size + 1 + 1, 2, none⟩ x).cell? ⟨w.heap.size + 1, 2, none⟩ = some (.int .u8 (at8 s 2)) ∧ (((W.setCell ⟨w.heap.size + 1 + 1, 0, none⟩ u).setCell ⟨w.heap.size + 1 + 1, 1, none⟩ v).setCell ⟨w.heap.size + 1 + 1, 2, none⟩ x).cell? ⟨w.heap.size + 1, 3, none⟩ = some (.int .u8 (at8 s 3)) ∧ (((W.setCell ⟨w.heap.size + 1 + 1, 0, none⟩ u).setCell ⟨w.heap.size + 1 + 1, 1, none⟩ v).setCell ⟨w.heap.size + 1 + 1, 2, none⟩ x).cell? ⟨w.heap.size + 1, 4, none⟩ = some (.int .u8 (at8 s 4)) ∧ (((W.setCell ⟨w.heap.size + 1 + 1, 0, none⟩ u).setCell ⟨w.heap.size + 1 + 1, 1, none⟩ v).setCell ⟨w.heap.size + 1 + 1, 2, none⟩ x).cell? ⟨w.heap.size + 1, 5, none⟩ = some (.int .u8 (at8 s 5)) ∧ (((W.setCell ⟨w.heap.size + 1 + 1, 0, none⟩ u).setCell ⟨w.heap.size + 1 + 1, 1, none⟩ v).setCell ⟨w.heap.size + 1 + 1, 2, none⟩ x).cell? ⟨w.heap.size + 1, 6, none⟩ = some (.int .u8 (at8 s 6)) ∧ (((W.setCell ⟨w.heap.size + 1 + 1, 0, none⟩ u).setCell ⟨w.heap.size + 1 + 1, 1, none⟩ v).setCell ⟨w.heap.size + 1 + 1, 2, none⟩ x).cell? ⟨w.heap.size + 1, 7, none⟩ = some (.int .u8 (at8 s 7)))) := Lib.hid fun W h u v x => ⟨((A.out.drew.below h).set3 (by omega) u v x).all, ((X.out.drew.below h).set3 (by omega) u v x).flat⟩
 refine wp_region_held_drew (S := (fun w' => (w'.cell? ⟨w.heap.size, 0, none⟩ = some (.int .i64 m) ∧ w'.cell? ⟨w.heap.size, 1, none⟩ = some (.int .i64 p) ∧ w'.cell? ⟨w.heap.size, 2, none⟩ = some (.slice a n cap)) ∧ (w'.cell? ⟨w.heap.size + 1, 0, none⟩ = some (.int .u8 (at8 s 0)) ∧ w'.cell? ⟨w.heap.size + 1, 1, none⟩ = some (.int .u8 (at8 s 1)) ∧ w'.cell? ⟨w.heap.size + 1, 2, none⟩ = some (.int .u8 (at8 s 2)) ∧ w'.cell? ⟨w.heap.size + 1, 3, none⟩ = some (.int .u8 (at8 s 3)) ∧ w'.cell? ⟨w.heap.size + 1, 4, none⟩ = some (.int .u8 (at8 s 4)) ∧ w'.cell? ⟨w.heap.size + 1, 5, none⟩ = some (.int .u8 (at8 s 5)) ∧ w'.cell? ⟨w.heap.size + 1, 6, none⟩ = some (.int .u8 (at8 s 6)) ∧ w'.cell? ⟨w.heap.size + 1, 7, none⟩ = some (.int .u8 (at8 s 7))))) (by kernel_rfl) ?_ (fun hHeld => ?_)
 ·(first | with_reducible exact SH.out _ KB.out | with_reducible exact SZ.out _ KB.out _ _ _)
 refine wpAnyH_take (i := 0) (oi := { dst := some 11, op := Op.move (Operand.tmp 7), type := 2, pos := "l03_normal.go:84", after := #[], guard := none }) (v := ?_) rfl (by kernel_rfl) (by kernel_rfl) (by kernel_rfl) (fun _ _ _ h => h) (Or.inl ⟨by rfl, ?_⟩) (by assumption) ?_
 rotate_left
 ·intro w hSw
  (try dsimp only at hSw)
  go_simp
  try with_reducible rfl
 try simp only [Act.put, List.setIfInBounds_toArray, List.set_cons_zero, List.set_cons_succ]
 refine wpAnyH_take (i := 1) (oi := { dst := some 12, op := Op.fieldAddr 28 (Operand.tmp 3) 1, type := 0, pos := "l03_normal.go:84", after := #[], guard := none }) (v := ?_) rfl (by kernel_rfl) (by kernel_rfl) (by kernel_rfl) (fun _ _ _ h => h) (Or.inl ⟨by rfl, ?_⟩) (by assumption) ?_
 rotate_left
 ·intro w hSw
  (try dsimp only at hSw)
  go_simp
  try with_reducible rfl
 try simp only [Act.put, List.setIfInBounds_toArray, List.set_cons_zero, List.set_cons_succ]
 refine wpAnyH_take (i := 2) (oi := { dst := some 13, op := Op.load 2 (Operand.tmp 12), type := 2, pos := "l03_normal.go:84", after := #[{ on := 1, ground := Ground.data }], guard := none }) (v := ?_) rfl (by kernel_rfl) (by kernel_rfl) (by kernel_rfl) (fun _ _ _ h => h) (Or.inl ⟨by rfl, ?_⟩) (by assumption) ?_
 rotate_left
 ·intro w hSw
  (try dsimp only at hSw)
  go_simp
  try with_reducible rfl
 try simp only [Act.put, List.setIfInBounds_toArray, List.set_cons_zero, List.set_cons_succ]
 refine wpAnyH_take (i := 3) (oi := { dst := some 14, op := Op.binOp BinOp.sub 2 (Operand.tmp 13) (Operand.const (Value.int IntKind.i64 1)) 2, type := 2, pos := "l03_normal.go:84", after := #[{ on := 2, ground := Ground.data }], guard := none }) (v := ?_) rfl (by kernel_rfl) (by kernel_rfl) (by kernel_rfl) (fun _ _ _ h => h) (Or.inl ⟨by rfl, ?_⟩) (by assumption) ?_
 rotate_left
 ·intro w hSw
  (try dsimp only at hSw)
  go_simp
  try with_reducible rfl
 try simp only [Act.put, List.setIfInBounds_toArray, List.set_cons_zero, List.set_cons_succ]
 refine wpAnyH_take (i := 4) (oi := { dst := some 15, op := Op.fieldAddr 28 (Operand.tmp 3) 2, type := 0, pos := "l03_normal.go:84", after := #[], guard := none }) (v := ?_) rfl (by kernel_rfl) (by kernel_rfl) (by kernel_rfl) (fun _ _ _ h => h) (Or.inl ⟨by rfl, ?_⟩) (by assumption) ?_
 rotate_left
 ·intro w hSw
  (try dsimp only at hSw)
  go_simp
  try with_reducible rfl
 try simp only [Act.put, List.setIfInBounds_toArray, List.set_cons_zero, List.set_cons_succ]
 refine wpAnyH_take (i := 5) (oi := { dst := some 16, op := Op.load 26 (Operand.tmp 15), type := 26, pos := "l03_normal.go:84", after := #[{ on := 4, ground := Ground.data }], guard := none }) (v := ?_) rfl (by kernel_rfl) (by kernel_rfl) (by kernel_rfl) (fun _ _ _ h => h) (Or.inl ⟨by rfl, ?_⟩) (by assumption) ?_
 rotate_left
 ·intro w hSw
  (try dsimp only at hSw)
  go_simp
  try with_reducible rfl
 try simp only [Act.put, List.setIfInBounds_toArray, List.set_cons_zero, List.set_cons_succ]
 refine wpAnyH_take (i := 6) (oi := { dst := some 17, op := Op.move (Operand.tmp 7), type := 2, pos := "l03_normal.go:84", after := #[], guard := none }) (v := ?_) rfl (by kernel_rfl) (by kernel_rfl) (by kernel_rfl) (fun _ _ _ h => h) (Or.inl ⟨by rfl, ?_⟩) (by assumption) ?_
 rotate_left
 ·intro w hSw
  (try dsimp only at hSw)
  go_simp
  try with_reducible rfl
 try simp only [Act.put, List.setIfInBounds_toArray, List.set_cons_zero, List.set_cons_succ]
 refine wpAnyH_take (i := 8) (oi := { dst := some 19, op := Op.load 54 (Operand.tmp 4), type := 54, pos := "l03_normal.go:84", after := #[], guard := none }) (v := ?_) rfl (by kernel_rfl) (by kernel_rfl) (by kernel_rfl) (fun _ _ _ h => h) (Or.inl ⟨by rfl, ?_⟩) (by assumption) ?_
 rotate_left
 ·intro w hSw
  (try dsimp only at hSw)
  go_simp
  try with_reducible rfl
 try simp only [Act.put, List.setIfInBounds_toArray, List.set_cons_zero, List.set_cons_succ]
 refine wpAnyH_take (i := 9) (oi := { dst := some 20, op := Op.move (Operand.tmp 7), type := 2, pos := "l03_normal.go:84", after := #[], guard := none }) (v := ?_) rfl (by kernel_rfl) (by kernel_rfl) (by kernel_rfl) (fun _ _ _ h => h) (Or.inl ⟨by rfl, ?_⟩) (by assumption) ?_
 rotate_left
 ·intro w hSw
  (try dsimp only at hSw)
  go_simp
  try with_reducible rfl
 try simp only [Act.put, List.setIfInBounds_toArray, List.set_cons_zero, List.set_cons_succ]
 refine wpAnyH_ready (rs := [7]) (by kernel_rfl) (by simp) ?_
 refine AllReadyH.cons (o := { dst := some 18, op := Op.call { callee := Callee.value (Operand.func 82), args := #[Operand.tmp 16, Operand.tmp 17, Operand.const (Value.int IntKind.i64 1)], argTypes := #[26, 2, 2] }, type := 26, pos := "l03_normal.go:84", after := #[{ on := 5, ground := Ground.data }, { on := 6, ground := Ground.data }], guard := none }) rfl (fun K hK => ?_) ?_
 ·go_simp
  refine (l03Turned_any m 1 a n cap l _ (Rd.out.drew.below KB.out) (rows_sims.1 HS.out) (by omega)).mono ?_
  rintro e w3 ⟨a3, n3, c3, rfl, ho, gg⟩
  have hn3 : n3 = n := by have h1 := ho.len; have h2 := Rd.out.len; rw [List.length_map] at h1; omega
  subst hn3
  have O := Lib.hid (ho.mono KB.out.size)
  replace KB := Lib.hid (below_go KB.out gg KB.out.size)
  clear ho gg
  go_wp2_with fail
  refine hK.out _ _ ?_ (fun hHeld => ?_)
  ·(first | with_reducible exact SH.out _ KB.out | with_reducible exact SZ.out _ KB.out _ _ _)
  clear hK K
  try simp only [Act.put, List.setIfInBounds_toArray, List.set_cons_zero, List.set_cons_succ]
  refine wpAnyH_ready (rs := [10]) (by kernel_rfl) (by simp) ?_
  refine AllReadyH.cons (o := { dst := some 21, op := Op.call { callee := Callee.value (Operand.func 106), args := #[Operand.tmp 19, Operand.tmp 20], argTypes := #[54, 2] }, type := 54, pos := "l03_normal.go:84", after := #[{ on := 8, ground := Ground.data }, { on := 9, ground := Ground.data }, { on := 7, ground := Ground.chain }], guard := none }) rfl (fun K hK => ?_) ?_
  ·go_simp
   refine (l02Left_left m s SS.out _).mono ?_
   rintro e w4 ⟨rfl, gg⟩
   replace O := Lib.hid (O.out.below gg)
   replace KB := Lib.hid (below_go KB.out gg KB.out.size)
   clear gg
   go_wp2_with fail
   refine hK.out _ _ ?_ (fun hHeld => ?_)
   ·(first | with_reducible exact SH.out _ KB.out | with_reducible exact SZ.out _ KB.out _ _ _)
   clear hK K
   try simp only [Act.put, List.setIfInBounds_toArray, List.set_cons_zero, List.set_cons_succ]
   refine wpAnyH_ready (rs := [11]) (by kernel_rfl) (by simp) ?_
   refine AllReadyH.cons (o := { dst := some 22, op := Op.buildSlice 26 1 #[(0, Operand.tmp 21)], type := 26, pos := "l03_normal.go:84", after := #[{ on := 10, ground := Ground.data }], guard := none }) rfl (fun K hK => ?_) ?_
   ·go_simp
    have Y := Lib.hid (readsA_one w4 (leftR m s) HL8.out 54)
    replace O := Lib.hid (O.out.alloc (.cells #[.int .u8 (at8 (leftR m s) 0), .int .u8 (at8 (leftR m s) 1), .int .u8 (at8 (leftR m s) 2), .int .u8 (at8 (leftR m s) 3), .int .u8 (at8 (leftR m s) 4), .int .u8 (at8 (leftR m s) 5), .int .u8 (at8 (leftR m s) 6), .int .u8 (at8 (leftR m s) 7)] 54))
    replace KB := Lib.hid (KB.out.alloc KB.out.size (.cells #[.int .u8 (at8 (leftR m s) 0), .int .u8 (at8 (leftR m s) 1), .int .u8 (at8 (leftR m s) 2), .int .u8 (at8 (leftR m s) 3), .int .u8 (at8 (leftR m s) 4), .int .u8 (at8 (leftR m s) 5), .int .u8 (at8 (leftR m s) 6), .int .u8 (at8 (leftR m s) 7)] 54))
    refine hK.out _ _ ?_ (fun hHeld => ?_)
    ·(first | with_reducible exact SH.out _ KB.out | with_reducible exact SZ.out _ KB.out _ _ _)
    clear hK K
    try simp only [Act.put, List.setIfInBounds_toArray, List.set_cons_zero, List.set_cons_succ]
    refine wpAnyH_ready (rs := [12]) (by kernel_rfl) (by simp) ?_
    refine AllReadyH.cons (o := { dst := some 23, op := Op.call { callee := Callee.builtin Builtin.append, args := #[Operand.tmp 18, Operand.tmp 22], argTypes := #[26, 26] }, type := 26, pos := "l03_normal.go:84", after := #[{ on := 7, ground := Ground.data }, { on := 11, ground := Ground.data }, { on := 10, ground := Ground.chain }], guard := none }) rfl (fun K hK => ?_) ?_
    ·refine step_append_rows_at rfl _ _ 26 rfl W0.drew.heap.size i0 Try.underlying26 hi hz0 hz1 hz2 _ _ _ rfl (OwnAV.of O.out) _ _ _ [leftR m s] rfl Y.out (by omega) KB.out.size ?_
     intro v' w5 ho' hg hv
     replace KB := Lib.hid (below_ownA KB.out KB.out.size (Nat.le_refl _) (OwnAV.of O.out) hg)
     obtain ⟨a5, c5, rfl, ho5⟩ := ho'.form
     have P := Lib.hid ho5
     clear ho' hg hv ho5
     refine hK.out _ _ ?_ (fun hHeld => ?_)
     ·(first | with_reducible exact SH.out _ KB.out | with_reducible exact SZ.out _ KB.out _ _ _)
     clear hK K
     try simp only [Act.put, List.setIfInBounds_toArray, List.set_cons_zero, List.set_cons_succ]
     refine wpAnyH_ready (rs := [13]) (by kernel_rfl) (by simp) ?_
     refine AllReadyH.cons (o := { dst := some 24, op := Op.call { callee := Callee.value (Operand.func 59), args := #[Operand.tmp 11, Operand.tmp 14, Operand.tmp 23], argTypes := #[2, 2, 26] }, type := 28, pos := "l03_normal.go:84", after := #[{ on := 0, ground := Ground.data }, { on := 3, ground := Ground.data }, { on := 12, ground := Ground.data }, { on := 12, ground := Ground.chain }], guard := none }) rfl (fun K hK => ?_) ?_
     ·go_simp
      refine (l03Make_any m m1 m8 (p - 1) (by omega) _ _ _ (turns m 1 l ++ [leftR m s]) _ P.out.reads SM.out (by omega) q kf HMK.out).mono ?_
      rintro e w6 ⟨a6, n6, c6, rfl, ho, gg⟩
      have R := Lib.hid (ho.mono KB.out.size)
      replace KB := Lib.hid (below_go KB.out gg KB.out.size)
      clear ho gg
      obtain ⟨x0, ⟨x1, x2, x3⟩, y1, y2, y3⟩ := Z.out.drew.below KB.out
      go_wp2_with fail
      refine hK.out _ _ ?_ (fun hHeld => ?_)
      ·(first | with_reducible exact SH.out _ KB.out | with_reducible exact SZ.out _ KB.out _ _ _)
      clear hK K
      try simp only [Act.put, List.setIfInBounds_toArray, List.set_cons_zero, List.set_cons_succ]
      refine wpAnyH_ready (rs := [14]) (by kernel_rfl) (by simp) ?_
      refine AllReadyH.cons (o := { dst := none, op := Op.store 28 (Operand.tmp 6) (Operand.tmp 24), type := 0, pos := "l03_normal.go:84", after := #[{ on := 13, ground := Ground.data }, { on := 13, ground := Ground.chain }, { on := 0, ground := Ground.phase }, { on := 1, ground := Ground.phase }, { on := 2, ground := Ground.phase }, { on := 3, ground := Ground.phase }, { on := 4, ground := Ground.phase }, { on := 5, ground := Ground.phase }, { on := 6, ground := Ground.phase }, { on := 7, ground := Ground.phase }, { on := 8, ground := Ground.phase }, { on := 9, ground := Ground.phase }, { on := 10, ground := Ground.phase }, { on := 11, ground := Ground.phase }, { on := 12, ground := Ground.phase }, { on := 13, ground := Ground.phase }], guard := none }) rfl (fun K hK => ?_) ?_
      ·go_simp
       refine hK.out _ _ ?_ (fun hHeld => ?_)
       ·(first | with_reducible exact SH.out _ KB.out | with_reducible exact SZ.out _ KB.out _ _ _)
       clear hK K
       try simp only [Act.put, List.setIfInBounds_toArray, List.set_cons_zero, List.set_cons_succ]
       refine wpAnyH_done (by kernel_rfl) ?_ _
       go_wp2_with fail
       try rw [Exit.noGoto_ret]
       obtain ⟨_, ⟨e1, e2, e3⟩, _⟩ := (Z.out.drew.below KB.out).fill (.int .i64 m) (.int .i64 q) (.slice a6 n6 c6)
       refine bodyPost_ret (v := .agg #[.int .i64 m, .int .i64 q, .slice a6 n6 c6]) (by simp [results, Try.results68, go_sem, e1, e2, e3]) rfl ⟨a6, n6, c6, rfl, (R.out.set3 (by have := zy.out; omega) _ _ _).mono (by have := zy.out; omega), below_set3 (below_go B.out.drew KB.out (by have := zy.out; omega)) (by omega) _ _ _⟩
      exact AllReadyH.nil
     exact AllReadyH.nil
    exact AllReadyH.nil
   exact AllReadyH.nil
  exact AllReadyH.nil
 exact AllReadyH.nil

end Go.Proofs.Ytleoohplnkdbdab

