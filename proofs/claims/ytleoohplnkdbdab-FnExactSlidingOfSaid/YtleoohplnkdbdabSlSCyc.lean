/- The model: cycling. -/
import Derived.Test.YtleoohplnkdbdabSlNConj
import Derived.Test.YtleoohplnkdbdabSlPB
import Derived.Test.YtleoohplnkdbdabSlSB
import Derived.Test.YtleoohplnkdbdabSlICyc
namespace Go.Proofs.Ytleoohplnkdbdab
open Go.RowKit Go.ChangeShapes

theorem OwnA.cap_le {B : Nat} {w : World} {a : Option Addr} {n cap : Nat} {rs : List (List Int)} (ho : OwnA B w a n cap rs) : n ≤ cap := by
 rcases ho.2.2 with ⟨hv, h0⟩ | ⟨g, c', cur, hv, _, _, h1, _⟩
 ·omega
 ·simp only [Value.slice.injEq] at hv
  omega

theorem l02Turn_turnR (n : Nat) (s : List Int) (hs : Sim n s) (w : World) :
  Calls Try.prog 98 #[arr8 .u8 s, .int .i64 n] w (RetArr .u8 w (turnR n s)) := l02Turn_any n s hs w

set_option maxRecDepth 100000 in
set_option maxHeartbeats 1000000 in
theorem l04First_any (m : Nat) (p : Int) (a : Option Addr) (n cap : Nat) (l : List (List Int)) (w : World) (hr : ReadsA w a n l) (hl : Sims m l) (h0 : 0 < n) (hn : n ≤ 1048576) :
  Calls Try.prog 91 #[.agg #[.int .i64 m, .int .i64 p, .slice a n cap]] w (RetArr .u8 w (turnK m p (rowAt l 0))) := by
 obtain ⟨row, hrow⟩ : ∃ row, row = rowAt l 0 := ⟨_, rfl⟩
 have SR : Hid (Sim m row) := Lib.hid (by rw [hrow]; exact hl _ (rowAt_getElem (by rw [hr.len]; exact h0)))
 obtain ⟨ba, off, rfl, hbl, hcl⟩ := hr.cells h0
 have hC : Cells8 w ba off row := by rw [hrow]; exact fun i hi => by have := hcl 0 h0 i hi; rw [Nat.zero_mul, Nat.add_zero] at this; exact this
 rw [← hrow]
 clear hrow hcl
 have HC := Lib.hid hC
 have HT8 := Lib.hid (turnR_sim SR.out).len
 have hi0 : (0 : Int) < (n : Int) := by omega
 have t0 := tmod_even p
 have hba : ba < w.heap.size := by exact hbl
 have A := Lib.hid ((At3.place w (.int .i64 m) (.int .i64 p) (.slice (some ⟨ba, off, none⟩) n cap) 28 w.heap.size rfl).alloc (.cells #[.int .u8 0, .int .u8 0, .int .u8 0, .int .u8 0, .int .u8 0, .int .u8 0, .int .u8 0, .int .u8 0] 54))
 have RZ := Lib.hid (Row8.zeros (w.alloc (.cells #[.int .i64 m, .int .i64 p, .slice (some ⟨ba, off, none⟩) n cap] 28)) .u8 54 (w.heap.size + 1) (by simp))
 have B := Lib.hid (below2 w (.cells #[.int .i64 m, .int .i64 p, .slice (some ⟨ba, off, none⟩) n cap] 28) (.cells #[.int .u8 0, .int .u8 0, .int .u8 0, .int .u8 0, .int .u8 0, .int .u8 0, .int .u8 0, .int .u8 0] 54))
 have HC2 : Hid (Cells8 ((w.alloc (.cells #[.int .i64 m, .int .i64 p, .slice (some ⟨ba, off, none⟩) n cap] 28)).alloc (.cells #[.int .u8 0, .int .u8 0, .int .u8 0, .int .u8 0, .int .u8 0, .int .u8 0, .int .u8 0, .int .u8 0] 54)) ba off row) := Lib.hid fun i hi => (B.out.cell hba).trans (HC.out i hi)
 go_enter Try.func91, Try.ntmps91
 go_upto_region 1 with fail
 obtain ⟨W0, hW0⟩ : ∃ W0, W0 = ((w.alloc (.cells #[.int .i64 m, .int .i64 p, .slice (some ⟨ba, off, none⟩) n cap] 28)).alloc (.cells #[.int .u8 0, .int .u8 0, .int .u8 0, .int .u8 0, .int .u8 0, .int .u8 0, .int .u8 0, .int .u8 0] 54)) := ⟨_, rfl⟩
 rw [← hW0] at A RZ B HC2 ⊢
 have zz : Hid (W0.heap.size = w.heap.size + 1 + 1) := Lib.hid (by rw [hW0]; simp)
 clear hW0
 obtain ⟨q1, q2, q3⟩ := A.out.all
 by_cases hk : p % 2 = 0
 ·have e1 : turnK m p row = row := by unfold turnK; rw [if_pos hk]
  have E1 := Lib.hid e1
  have t1 : (p.tmod 2 != 0) = false := by rw [bne, t0, decide_eq_true hk]; rfl
  clear t0 hk e1
  have HR8 := Lib.hid SR.out.len
  obtain ⟨c0, c1, c2, c3, c4, c5, c6, c7⟩ := HC2.out.flat
  obtain ⟨⟨d0, d1, d2, d3⟩, d4, d5, d6, d7⟩ := RZ.out.all
  obtain ⟨⟨f0, f1, f2, f3⟩, f4, f5, f6, f7⟩ := RZ.out.frees
  go_wp2
  try rw [Exit.noGoto_ret]
  obtain ⟨⟨e0, e1, e2, e3⟩, e4, e5, e6, e7⟩ := (RZ.out.fill row HR8.out).all
  refine bodyPost_ret (v := arr8 .u8 row) (by simp [results, Try.results91, go_sem, e0, e1, e2, e3, e4, e5, e6, e7]) rfl ⟨by rw [E1.out], ?_⟩
  exact below_fill8 B.out _ (by omega) _ _ _ _ _ _ _ _
 ·have e1 : turnK m p row = turnR m row := by unfold turnK; rw [if_neg hk]
  have E1 := Lib.hid e1
  have t1 : (p.tmod 2 != 0) = true := by rw [bne, t0, decide_eq_false hk]; rfl
  clear t0 hk e1
  go_upto_region 2 with fail
  clear q1 q2 q3
  have KB : Hid (Below W0.heap.size W0 W0.drew) := Lib.hid (Below.refl W0.heap.size W0).drew
  have SH : Hid (∀ W, Below W0.heap.size W0 W → (W.cell? ⟨w.heap.size, 0, none⟩ = some (.int .i64 m) ∧ W.cell? ⟨w.heap.size, 1, none⟩ = some (.int .i64 p) ∧ W.cell? ⟨w.heap.size, 2, none⟩ = some (.slice (some ⟨ba, off, none⟩) n cap)) ∧ (W.cell? ⟨ba, off, none⟩ = some (.int .u8 (at8 row 0)) ∧ W.cell? ⟨ba, off + 1, none⟩ = some (.int .u8 (at8 row 1)) ∧ W.cell? ⟨ba, off + 2, none⟩ = some (.int .u8 (at8 row 2)) ∧ W.cell? ⟨ba, off + 3, none⟩ = some (.int .u8 (at8 row 3)) ∧ W.cell? ⟨ba, off + 4, none⟩ = some (.int .u8 (at8 row 4)) ∧ W.cell? ⟨ba, off + 5, none⟩ = some (.int .u8 (at8 row 5)) ∧ W.cell? ⟨ba, off + 6, none⟩ = some (.int .u8 (at8 row 6)) ∧ W.cell? ⟨ba, off + 7, none⟩ = some (.int .u8 (at8 row 7)))) := Lib.hid fun W h => ⟨(A.out.below h).all, (show Cells8 W ba off row from fun i hi => ((below_go B.out h (by have := zz.out; omega)).cell hba).trans (HC.out i hi)).flat⟩
  have SZ : Hid (∀ W, Below W0.heap.size W0 W → ∀ v0 v1 v2 v3 v4 v5 v6 v7, (((((((((W.setCell ⟨w.heap.size + 1, 0, none⟩ v0).setCell ⟨w.heap.size + 1, 1, none⟩ v1).setCell ⟨w.heap.size + 1, 2, none⟩ v2).setCell ⟨w.heap.size + 1, 3, none⟩ v3).setCell ⟨w.heap.size + 1, 4, none⟩ v4).setCell ⟨w.heap.size + 1, 5, none⟩ v5).setCell ⟨w.heap.size + 1, 6, none⟩ v6).setCell ⟨w.heap.size + 1, 7, none⟩ v7).cell? ⟨w.heap.size, 0, none⟩ = some (.int .i64 m) ∧ ((((((((W.setCell ⟨w.heap.size + 1, 0, none⟩ v0).setCell ⟨w.heap.size + 1, 1, none⟩ v1).setCell ⟨w.heap.size + 1, 2, none⟩ v2).setCell ⟨w.heap.size + 1, 3, none⟩ v3).setCell ⟨w.heap.size + 1, 4, none⟩ v4).setCell ⟨w.heap.size + 1, 5, none⟩ v5).setCell ⟨w.heap.size + 1, 6, none⟩ v6).setCell ⟨w.heap.size + 1, 7, none⟩ v7).cell? ⟨w.heap.size, 1, none⟩ = some (.int .i64 p) ∧ ((((((((W.setCell ⟨w.heap.size + 1, 0, none⟩ v0).setCell ⟨w.heap.size + 1, 1, none⟩ v1).setCell ⟨w.heap.size + 1, 2, none⟩ v2).setCell ⟨w.heap.size + 1, 3, none⟩ v3).setCell ⟨w.heap.size + 1, 4, none⟩ v4).setCell ⟨w.heap.size + 1, 5, none⟩ v5).setCell ⟨w.heap.size + 1, 6, none⟩ v6).setCell ⟨w.heap.size + 1, 7, none⟩ v7).cell? ⟨w.heap.size, 2, none⟩ = some (.slice (some ⟨ba, off, none⟩) n cap)) ∧ (((((((((W.setCell ⟨w.heap.size + 1, 0, none⟩ v0).setCell ⟨w.heap.size + 1, 1, none⟩ v1).setCell ⟨w.heap.size + 1, 2, none⟩ v2).setCell ⟨w.heap.size + 1, 3, none⟩ v3).setCell ⟨w.heap.size + 1, 4, none⟩ v4).setCell ⟨w.heap.size + 1, 5, none⟩ v5).setCell ⟨w.heap.size + 1, 6, none⟩ v6).setCell ⟨w.heap.size + 1, 7, none⟩ v7).cell? ⟨ba, off, none⟩ = some (.int .u8 (at8 row 0)) ∧ ((((((((W.setCell ⟨w.heap.size + 1, 0, none⟩ v0).setCell ⟨w.heap.size + 1, 1, none⟩ v1).setCell ⟨w.heap.size + 1, 2, none⟩ v2).setCell ⟨w.heap.size + 1, 3, none⟩ v3).setCell ⟨w.heap.size + 1, 4, none⟩ v4).setCell ⟨w.heap.size + 1, 5, none⟩ v5).setCell ⟨w.heap.size + 1, 6, none⟩ v6).setCell ⟨w.heap.size + 1, 7, none⟩ v7).cell? ⟨ba, off + 1, none⟩ = some (.int .u8 (at8 row 1)) ∧ ((((((((W.setCell ⟨w.heap.size + 1, 0, none⟩ v0).setCell ⟨w.heap.size + 1, 1, none⟩ v1).setCell ⟨w.heap.size + 1, 2, none⟩ v2).setCell ⟨w.heap.size + 1, 3, none⟩ v3).setCell ⟨w.heap.size + 1, 4, none⟩ v4).setCell ⟨w.heap.size + 1, 5, none⟩ v5).setCell ⟨w.heap.size + 1, 6, none⟩ v6).setCell ⟨w.heap.size + 1, 7, none⟩ v7).cell? ⟨ba, off + 2, none⟩ = some (.int .u8 (at8 row 2)) ∧ ((((((((W.setCell ⟨w.heap.size + 1, 0, none⟩ v0).setCell ⟨w.heap.size + 1, 1, none⟩ v1).setCell ⟨w.heap.size + 1, 2, none⟩ v2).setCell ⟨w.heap.size + 1, 3, none⟩ v3).setCell ⟨w.heap.size + 1, 4, none⟩ v4).setCell ⟨w.heap.size + 1, 5, none⟩ v5).setCell ⟨w.heap.size + 1, 6, none⟩ v6).setCell ⟨w.heap.size + 1, 7, none⟩ v7).cell? ⟨ba, off + 3, none⟩ = some (.int .u8 (at8 row 3)) ∧ ((((((((W.setCell ⟨w.heap.size + 1, 0, none⟩ v0).setCell ⟨w.heap.size + 1, 1, none⟩ v1).setCell ⟨w.heap.size + 1, 2, none⟩ v2).setCell ⟨w.heap.size + 1, 3, none⟩ v3).setCell ⟨w.heap.size + 1, 4, none⟩ v4).setCell ⟨w.heap.size + 1, 5, none⟩ v5).setCell ⟨w.heap.size + 1, 6, none⟩ v6).setCell ⟨w.heap.size + 1, 7, none⟩ v7).cell? ⟨ba, off + 4, none⟩ = some (.int .u8 (at8 row 4)) ∧ ((((((((W.setCell ⟨w.heap.size + 1, 0, none⟩ v0).setCell ⟨w.heap.size + 1, 1, none⟩ v1).setCell ⟨w.heap.size + 1, 2, none⟩ v2).setCell ⟨w.heap.size + 1, 3, none⟩ v3).setCell ⟨w.heap.size + 1, 4, none⟩ v4).setCell ⟨w.heap.size + 1, 5, none⟩ v5).setCell ⟨w.heap.size + 1, 6, none⟩ v6).setCell ⟨w.heap.size + 1, 7, none⟩ v7).cell? ⟨ba, off + 5, none⟩ = some (.int .u8 (at8 row 5)) ∧ ((((((((W.setCell ⟨w.heap.size + 1, 0, none⟩ v0).setCell ⟨w.heap.size + 1, 1, none⟩ v1).setCell ⟨w.heap.size + 1, 2, none⟩ v2).setCell ⟨w.heap.size + 1, 3, none⟩ v3).setCell ⟨w.heap.size + 1, 4, none⟩ v4).setCell ⟨w.heap.size + 1, 5, none⟩ v5).setCell ⟨w.heap.size + 1, 6, none⟩ v6).setCell ⟨w.heap.size + 1, 7, none⟩ v7).cell? ⟨ba, off + 6, none⟩ = some (.int .u8 (at8 row 6)) ∧ ((((((((W.setCell ⟨w.heap.size + 1, 0, none⟩ v0).setCell ⟨w.heap.size + 1, 1, none⟩ v1).setCell ⟨w.heap.size + 1, 2, none⟩ v2).setCell ⟨w.heap.size + 1, 3, none⟩ v3).setCell ⟨w.heap.size + 1, 4, none⟩ v4).setCell ⟨w.heap.size + 1, 5, none⟩ v5).setCell ⟨w.heap.size + 1, 6, none⟩ v6).setCell ⟨w.heap.size + 1, 7, none⟩ v7).cell? ⟨ba, off + 7, none⟩ = some (.int .u8 (at8 row 7)))) := Lib.hid fun W h v0 v1 v2 v3 v4 v5 v6 v7 => ⟨((A.out.below h).set8 (g2 := w.heap.size + 1) (o := 0) (by omega) v0 v1 v2 v3 v4 v5 v6 v7).all, (show Cells8 ((((((((W.setCell ⟨w.heap.size + 1, 0, none⟩ v0).setCell ⟨w.heap.size + 1, 1, none⟩ v1).setCell ⟨w.heap.size + 1, 2, none⟩ v2).setCell ⟨w.heap.size + 1, 3, none⟩ v3).setCell ⟨w.heap.size + 1, 4, none⟩ v4).setCell ⟨w.heap.size + 1, 5, none⟩ v5).setCell ⟨w.heap.size + 1, 6, none⟩ v6).setCell ⟨w.heap.size + 1, 7, none⟩ v7) ba off row from fun i hi => ((below_fill8 (below_go B.out h (by have := zz.out; omega)) (w.heap.size + 1) (by omega) v0 v1 v2 v3 v4 v5 v6 v7).cell hba).trans (HC.out i hi)).flat⟩
  refine wp_region_held_drew (S := (fun w' => (w'.cell? ⟨w.heap.size, 0, none⟩ = some (.int .i64 m) ∧ w'.cell? ⟨w.heap.size, 1, none⟩ = some (.int .i64 p) ∧ w'.cell? ⟨w.heap.size, 2, none⟩ = some (.slice (some ⟨ba, off, none⟩) n cap)) ∧ (w'.cell? ⟨ba, off, none⟩ = some (.int .u8 (at8 row 0)) ∧ w'.cell? ⟨ba, off + 1, none⟩ = some (.int .u8 (at8 row 1)) ∧ w'.cell? ⟨ba, off + 2, none⟩ = some (.int .u8 (at8 row 2)) ∧ w'.cell? ⟨ba, off + 3, none⟩ = some (.int .u8 (at8 row 3)) ∧ w'.cell? ⟨ba, off + 4, none⟩ = some (.int .u8 (at8 row 4)) ∧ w'.cell? ⟨ba, off + 5, none⟩ = some (.int .u8 (at8 row 5)) ∧ w'.cell? ⟨ba, off + 6, none⟩ = some (.int .u8 (at8 row 6)) ∧ w'.cell? ⟨ba, off + 7, none⟩ = some (.int .u8 (at8 row 7))))) (by kernel_rfl) ?_ (fun hHeld => ?_)
  ·first | with_reducible exact SH.out _ KB.out | with_reducible exact SZ.out _ KB.out _ _ _ _ _ _ _ _
  refine wpAnyH_take (i := 0) (oi := { dst := some 7, op := Op.fieldAddr 28 (Operand.tmp 1) 2, type := 0, pos := "l04_conjugacy.go:23", after := #[], guard := none }) (v := ?_) rfl (by kernel_rfl) (by kernel_rfl) (by kernel_rfl) (fun _ _ _ h => h) (Or.inl ⟨by rfl, ?_⟩) (by assumption) ?_
  rotate_left
  ·intro w hSw
   (try dsimp only at hSw)
   go_simp
   try with_reducible rfl
  try simp only [Act.put, List.setIfInBounds_toArray, List.set_cons_zero, List.set_cons_succ]
  refine wpAnyH_take (i := 1) (oi := { dst := some 8, op := Op.load 26 (Operand.tmp 7), type := 26, pos := "l04_conjugacy.go:23", after := #[{ on := 0, ground := Ground.data }], guard := none }) (v := ?_) rfl (by kernel_rfl) (by kernel_rfl) (by kernel_rfl) (fun _ _ _ h => h) (Or.inl ⟨by rfl, ?_⟩) (by assumption) ?_
  rotate_left
  ·intro w hSw
   (try dsimp only at hSw)
   go_simp
   try with_reducible rfl
  try simp only [Act.put, List.setIfInBounds_toArray, List.set_cons_zero, List.set_cons_succ]
  refine wpAnyH_take (i := 2) (oi := { dst := some 9, op := Op.indexAddr 26 (Operand.tmp 8) (Operand.const (Value.int IntKind.i64 0)), type := 0, pos := "l04_conjugacy.go:23", after := #[{ on := 1, ground := Ground.data }], guard := none }) (v := ?_) rfl (by kernel_rfl) (by kernel_rfl) (by kernel_rfl) (fun _ _ _ h => h) (Or.inl ⟨by rfl, ?_⟩) (by assumption) ?_
  rotate_left
  ·intro w hSw
   (try dsimp only at hSw)
   go_simp
   try with_reducible rfl
  try simp only [Act.put, List.setIfInBounds_toArray, List.set_cons_zero, List.set_cons_succ]
  refine wpAnyH_take (i := 3) (oi := { dst := some 10, op := Op.load 54 (Operand.tmp 9), type := 54, pos := "l04_conjugacy.go:23", after := #[{ on := 2, ground := Ground.data }], guard := none }) (v := ?_) rfl (by kernel_rfl) (by kernel_rfl) (by kernel_rfl) (fun _ _ _ h => h) (Or.inl ⟨by rfl, ?_⟩) (by assumption) ?_
  rotate_left
  ·intro w hSw
   (try dsimp only at hSw)
   go_simp
   try with_reducible rfl
  try simp only [Act.put, List.setIfInBounds_toArray, List.set_cons_zero, List.set_cons_succ]
  refine wpAnyH_take (i := 4) (oi := { dst := some 11, op := Op.fieldAddr 28 (Operand.tmp 1) 0, type := 0, pos := "l04_conjugacy.go:23", after := #[], guard := none }) (v := ?_) rfl (by kernel_rfl) (by kernel_rfl) (by kernel_rfl) (fun _ _ _ h => h) (Or.inl ⟨by rfl, ?_⟩) (by assumption) ?_
  rotate_left
  ·intro w hSw
   (try dsimp only at hSw)
   go_simp
   try with_reducible rfl
  try simp only [Act.put, List.setIfInBounds_toArray, List.set_cons_zero, List.set_cons_succ]
  refine wpAnyH_take (i := 5) (oi := { dst := some 12, op := Op.load 2 (Operand.tmp 11), type := 2, pos := "l04_conjugacy.go:23", after := #[{ on := 4, ground := Ground.data }], guard := none }) (v := ?_) rfl (by kernel_rfl) (by kernel_rfl) (by kernel_rfl) (fun _ _ _ h => h) (Or.inl ⟨by rfl, ?_⟩) (by assumption) ?_
  rotate_left
  ·intro w hSw
   (try dsimp only at hSw)
   go_simp
   try with_reducible rfl
  try simp only [Act.put, List.setIfInBounds_toArray, List.set_cons_zero, List.set_cons_succ]
  refine wpAnyH_ready (rs := [6]) (by kernel_rfl) (by simp) ?_
  refine AllReadyH.cons (o := { dst := some 13, op := Op.call { callee := Callee.value (Operand.func 98), args := #[Operand.tmp 10, Operand.tmp 12], argTypes := #[54, 2] }, type := 54, pos := "l04_conjugacy.go:23", after := #[{ on := 3, ground := Ground.data }, { on := 5, ground := Ground.data }], guard := none }) rfl (fun K hK => ?_) ?_
  ·go_simp
   refine (l02Turn_turnR m row SR.out _).mono ?_
   rintro e w3 ⟨rfl, gg⟩
   replace KB := Lib.hid (below_go KB.out gg KB.out.size)
   clear gg
   obtain ⟨⟨d0, d1, d2, d3⟩, d4, d5, d6, d7⟩ := (RZ.out.below KB.out).all
   obtain ⟨⟨f0, f1, f2, f3⟩, f4, f5, f6, f7⟩ := (RZ.out.below KB.out).frees
   go_wp2_with fail
   refine hK.out _ _ ?_ (fun hHeld => ?_)
   ·first | with_reducible exact SH.out _ KB.out | with_reducible exact SZ.out _ KB.out _ _ _ _ _ _ _ _
   clear hK K
   try simp only [Act.put, List.setIfInBounds_toArray, List.set_cons_zero, List.set_cons_succ]
   refine wpAnyH_ready (rs := [7]) (by kernel_rfl) (by simp) ?_
   refine AllReadyH.cons (o := { dst := none, op := Op.store 54 (Operand.tmp 2) (Operand.tmp 13), type := 0, pos := "l04_conjugacy.go:23", after := #[{ on := 6, ground := Ground.data }, { on := 6, ground := Ground.chain }, { on := 0, ground := Ground.phase }, { on := 1, ground := Ground.phase }, { on := 2, ground := Ground.phase }, { on := 3, ground := Ground.phase }, { on := 4, ground := Ground.phase }, { on := 5, ground := Ground.phase }, { on := 6, ground := Ground.phase }], guard := none }) rfl (fun K hK => ?_) ?_
   ·go_simp
    refine hK.out _ _ ?_ (fun hHeld => ?_)
    ·first | with_reducible exact SH.out _ KB.out | with_reducible exact SZ.out _ KB.out _ _ _ _ _ _ _ _
    clear hK K
    try simp only [Act.put, List.setIfInBounds_toArray, List.set_cons_zero, List.set_cons_succ]
    refine wpAnyH_done (by kernel_rfl) ?_ _
    go_wp2_with fail
    try rw [Exit.noGoto_ret]
    obtain ⟨⟨e0, e1, e2, e3⟩, e4, e5, e6, e7⟩ := ((RZ.out.below KB.out).fill (turnR m row) HT8.out).all
    refine bodyPost_ret (v := arr8 .u8 (turnR m row)) (by simp [results, Try.results91, go_sem, e0, e1, e2, e3, e4, e5, e6, e7]) rfl ⟨by rw [E1.out], ?_⟩
    exact below_fill8 (below_go B.out KB.out (by have := zz.out; omega)) _ (by omega) _ _ _ _ _ _ _ _
   exact AllReadyH.nil
  exact AllReadyH.nil

end Go.Proofs.Ytleoohplnkdbdab

