/- The model: cycling. -/
import Derived.Test.YtpkhddndapcpjaaSmNMul
import Derived.Test.YtpkhddndapcpjaaSmSInv
import Derived.Test.YtpkhddndapcpjaaSmITrd
import Derived.Test.YtpkhddndapcpjaaSmKit15
import Derived.Test.YtpkhddndapcpjaaSmSMk0
import Derived.Test.YtpkhddndapcpjaaSmSB
import Derived.Test.YtpkhddndapcpjaaSmCycP
import Derived.Test.YtpkhddndapcpjaaSmICyc
namespace Go.Proofs.Ytpkhddndapcpjaa
open Go.RowKit Go.ChangeShapes

theorem OwnA.cap_le {B : Nat} {w : World} {a : Option Addr} {n cap : Nat} {rs : List (List Int)} (ho : OwnA B w a n cap rs) : n ≤ cap := by
 rcases ho.2.2 with ⟨hv, h0⟩ | ⟨g, c', cur, hv, _, _, h1, _⟩
 ·omega
 ·simp only [Value.slice.injEq] at hv
  omega

theorem l02Turn_turnR (n : Nat) (s : List Int) (hs : Sim n s) (w : World) :
  Calls Try.prog 60 #[arr8 .u8 s, .int .i64 n] w (RetArr .u8 w (turnR n s)) := l02Turn_any n s hs w

set_option maxRecDepth 100000 in
set_option maxHeartbeats 1000000 in
theorem l04First_any (m : Nat) (p : Int) (a : Option Addr) (n cap : Nat) (l : List (List Int)) (w : World) (hr : ReadsA w a n l) (hl : Sims m l) (h0 : 0 < n) (hn : n ≤ 1048576) :
  Calls Try.prog 59 #[.agg #[.int .i64 m, .int .i64 p, .slice a n cap]] w (RetArr .u8 w (turnK m p (rowAt l 0))) := by
 obtain ⟨row, hrow⟩ : ∃ row, row = rowAt l 0 := ⟨_, rfl⟩
 have SR : Hid (Sim m row) := Lib.hid (by rw [hrow]; exact hl _ (rowAt_getElem (by rw [hr.len]; exact h0)))
 obtain ⟨ba, off, rfl, hbl, hcl⟩ := hr.cells h0
 have hC : Cells8 w ba off row := by rw [hrow]; exact fun i hi => by have := hcl 0 h0 i hi; rw [Nat.zero_mul, Nat.add_zero] at this; exact this
 rw [← hrow]
 clear hrow hcl
 have HC := Lib.hid hC
 have HT8 := Lib.hid (turnR_sim SR.out).len
 have hi0 : (0 : Int) < (n : Int) := by omega
 have t0 := tmod_even p
 have hba : ba < w.heap.size := by exact hbl
 have A := Lib.hid ((At3.place w (.int .i64 m) (.int .i64 p) (.slice (some ⟨ba, off, none⟩) n cap) 28 w.heap.size rfl).alloc (.cells #[.int .u8 0, .int .u8 0, .int .u8 0, .int .u8 0, .int .u8 0, .int .u8 0, .int .u8 0, .int .u8 0] 53))
 have RZ := Lib.hid (Row8.zeros (w.alloc (.cells #[.int .i64 m, .int .i64 p, .slice (some ⟨ba, off, none⟩) n cap] 28)) .u8 53 (w.heap.size + 1) (by simp))
 have B := Lib.hid (below2 w (.cells #[.int .i64 m, .int .i64 p, .slice (some ⟨ba, off, none⟩) n cap] 28) (.cells #[.int .u8 0, .int .u8 0, .int .u8 0, .int .u8 0, .int .u8 0, .int .u8 0, .int .u8 0, .int .u8 0] 53))
 have HC2 : Hid (Cells8 ((w.alloc (.cells #[.int .i64 m, .int .i64 p, .slice (some ⟨ba, off, none⟩) n cap] 28)).alloc (.cells #[.int .u8 0, .int .u8 0, .int .u8 0, .int .u8 0, .int .u8 0, .int .u8 0, .int .u8 0, .int .u8 0] 53)) ba off row) := Lib.hid fun i hi => (B.out.cell hba).trans (HC.out i hi)
 go_enter Try.func59, Try.ntmps59
 go_upto_region 1 with fail
 obtain ⟨W0, hW0⟩ : ∃ W0, W0 = ((w.alloc (.cells #[.int .i64 m, .int .i64 p, .slice (some ⟨ba, off, none⟩) n cap] 28)).alloc (.cells #[.int .u8 0, .int .u8 0, .int .u8 0, .int .u8 0, .int .u8 0, .int .u8 0, .int .u8 0, .int .u8 0] 53)) := ⟨_, rfl⟩
 rw [← hW0] at A RZ B HC2 ⊢
 have zz : Hid (W0.heap.size = w.heap.size + 1 + 1) := Lib.hid (by rw [hW0]; simp)
 clear hW0
 obtain ⟨q1, q2, q3⟩ := A.out.all
 by_cases hk : p % 2 = 0
 ·have e1 : turnK m p row = row := by unfold turnK; rw [if_pos hk]
  have E1 := Lib.hid e1
  have t1 : (p.tmod 2 != 0) = false := by rw [bne, t0, decide_eq_true hk]; rfl
  clear t0 hk e1
  have HR8 := Lib.hid SR.out.len
  obtain ⟨c0, c1, c2, c3, c4, c5, c6, c7⟩ := HC2.out.flat
  obtain ⟨⟨d0, d1, d2, d3⟩, d4, d5, d6, d7⟩ := RZ.out.all
  obtain ⟨⟨f0, f1, f2, f3⟩, f4, f5, f6, f7⟩ := RZ.out.frees
  go_wp2
  try rw [Exit.noGoto_ret]
  obtain ⟨⟨e0, e1, e2, e3⟩, e4, e5, e6, e7⟩ := (RZ.out.fill row HR8.out).all
  refine bodyPost_ret (v := arr8 .u8 row) (by simp [results, Try.results59, go_sem, e0, e1, e2, e3, e4, e5, e6, e7]) rfl ⟨by rw [E1.out], ?_⟩
  exact below_fill8 B.out _ (by omega) _ _ _ _ _ _ _ _
 ·have e1 : turnK m p row = turnR m row := by unfold turnK; rw [if_neg hk]
  have E1 := Lib.hid e1
  have t1 : (p.tmod 2 != 0) = true := by rw [bne, t0, decide_eq_false hk]; rfl
  clear t0 hk e1
  go_upto_region 2 with fail
  clear q1 q2 q3
  have KB : Hid (Below W0.heap.size W0 W0.drew) := Lib.hid (Below.refl W0.heap.size W0).drew
  have SH : Hid (∀ W, Below W0.heap.size W0 W → (W.cell? ⟨w.heap.size, 0, none⟩ = some (.int .i64 m) ∧ W.cell? ⟨w.heap.size, 1, none⟩ = some (.int .i64 p) ∧ W.cell? ⟨w.heap.size, 2, none⟩ = some (.slice (some ⟨ba, off, none⟩) n cap)) ∧ (W.cell? ⟨ba, off, none⟩ = some (.int .u8 (at8 row 0)) ∧ W.cell? ⟨ba, off + 1, none⟩ = some (.int .u8 (at8 row 1)) ∧ W.cell? ⟨ba, off + 2, none⟩ = some (.int .u8 (at8 row 2)) ∧ W.cell? ⟨ba, off + 3, none⟩ = some (.int .u8 (at8 row 3)) ∧ W.cell? ⟨ba, off + 4, none⟩ = some (.int .u8 (at8 row 4)) ∧ W.cell? ⟨ba, off + 5, none⟩ = some (.int .u8 (at8 row 5)) ∧ W.cell? ⟨ba, off + 6, none⟩ = some (.int .u8 (at8 row 6)) ∧ W.cell? ⟨ba, off + 7, none⟩ = some (.int .u8 (at8 row 7)))) := Lib.hid fun W h => ⟨(A.out.below h).all, (show Cells8 W ba off row from fun i hi => ((below_go B.out h (by have := zz.out; omega)).cell hba).trans (HC.out i hi)).flat⟩
  have SZ : Hid (∀ W, Below W0.heap.size W0 W → ∀ v0 v1 v2 v3 v4 v5 v6 v7, (((((((((W.setCell ⟨w.heap.size + 1, 0, none⟩ v0).setCell ⟨w.heap.size + 1, 1, none⟩ v1).setCell ⟨w.heap.size + 1, 2, none⟩ v2).setCell ⟨w.heap.size + 1, 3, none⟩ v3).setCell ⟨w.heap.size + 1, 4, none⟩ v4).setCell ⟨w.heap.size + 1, 5, none⟩ v5).setCell ⟨w.heap.size + 1, 6, none⟩ v6).setCell ⟨w.heap.size + 1, 7, none⟩ v7).cell? ⟨w.heap.size, 0, none⟩ = some (.int .i64 m) ∧ ((((((((W.setCell ⟨w.heap.size + 1, 0, none⟩ v0).setCell ⟨w.heap.size + 1, 1, none⟩ v1).setCell ⟨w.heap.size + 1, 2, none⟩ v2).setCell ⟨w.heap.size + 1, 3, none⟩ v3).setCell ⟨w.heap.size + 1, 4, none⟩ v4).setCell ⟨w.heap.size + 1, 5, none⟩ v5).setCell ⟨w.heap.size + 1, 6, none⟩ v6).setCell ⟨w.heap.size + 1, 7, none⟩ v7).cell? ⟨w.heap.size, 1, none⟩ = some (.int .i64 p) ∧ ((((((((W.setCell ⟨w.heap.size + 1, 0, none⟩ v0).setCell ⟨w.heap.size + 1, 1, none⟩ v1).setCell ⟨w.heap.size + 1, 2, none⟩ v2).setCell ⟨w.heap.size + 1, 3, none⟩ v3).setCell ⟨w.heap.size + 1, 4, none⟩ v4).setCell ⟨w.heap.size + 1, 5, none⟩ v5).setCell ⟨w.heap.size + 1, 6, none⟩ v6).setCell ⟨w.heap.size + 1, 7, none⟩ v7).cell? ⟨w.heap.size, 2, none⟩ = some (.slice (some ⟨ba, off, none⟩) n cap)) ∧ (((((((((W.setCell ⟨w.heap.size + 1, 0, none⟩ v0).setCell ⟨w.heap.size + 1, 1, none⟩ v1).setCell ⟨w.heap.size + 1, 2, none⟩ v2).setCell ⟨w.heap.size + 1, 3, none⟩ v3).setCell ⟨w.heap.size + 1, 4, none⟩ v4).setCell ⟨w.heap.size + 1, 5, none⟩ v5).setCell ⟨w.heap.size + 1, 6, none⟩ v6).setCell ⟨w.heap.size + 1, 7, none⟩ v7).cell? ⟨ba, off, none⟩ = some (.int .u8 (at8 row 0)) ∧ ((((((((W.setCell ⟨w.heap.size + 1, 0, none⟩ v0).setCell ⟨w.heap.size + 1, 1, none⟩ v1).setCell ⟨w.heap.size + 1, 2, none⟩ v2).setCell ⟨w.heap.size + 1, 3, none⟩ v3).setCell ⟨w.heap.size + 1, 4, none⟩ v4).setCell ⟨w.heap.size + 1, 5, none⟩ v5).setCell ⟨w.heap.size + 1, 6, none⟩ v6).setCell ⟨w.heap.size + 1, 7, none⟩ v7).cell? ⟨ba, off + 1, none⟩ = some (.int .u8 (at8 row 1)) ∧ ((((((((W.setCell ⟨w.heap.size + 1, 0, none⟩ v0).setCell ⟨w.heap.size + 1, 1, none⟩ v1).setCell ⟨w.heap.size + 1, 2, none⟩ v2).setCell ⟨w.heap.size + 1, 3, none⟩ v3).setCell ⟨w.heap.size + 1, 4, none⟩ v4).setCell ⟨w.heap.size + 1, 5, none⟩ v5).setCell ⟨w.heap.size + 1, 6, none⟩ v6).setCell ⟨w.heap.size + 1, 7, none⟩ v7).cell? ⟨ba, off + 2, none⟩ = some (.int .u8 (at8 row 2)) ∧ ((((((((W.setCell ⟨w.heap.size + 1, 0, none⟩ v0).setCell ⟨w.heap.size + 1, 1, none⟩ v1).setCell ⟨w.heap.size + 1, 2, none⟩ v2).setCell ⟨w.heap.size + 1, 3, none⟩ v3).setCell ⟨w.heap.size + 1, 4, none⟩ v4).setCell ⟨w.heap.size + 1, 5, none⟩ v5).setCell ⟨w.heap.size + 1, 6, none⟩ v6).setCell ⟨w.heap.size + 1, 7, none⟩ v7).cell? ⟨ba, off + 3, none⟩ = some (.int .u8 (at8 row 3)) ∧ ((((((((W.setCell ⟨w.heap.size + 1, 0, none⟩ v0).setCell ⟨w.heap.size + 1, 1, none⟩ v1).setCell ⟨w.heap.size + 1, 2, none⟩ v2).setCell ⟨w.heap.size + 1, 3, none⟩ v3).setCell ⟨w.heap.size + 1, 4, none⟩ v4).setCell ⟨w.heap.size + 1, 5, none⟩ v5).setCell ⟨w.heap.size + 1, 6, none⟩ v6).setCell ⟨w.heap.size + 1, 7, none⟩ v7).cell? ⟨ba, off + 4, none⟩ = some (.int .u8 (at8 row 4)) ∧ ((((((((W.setCell ⟨w.heap.size + 1, 0, none⟩ v0).setCell ⟨w.heap.size + 1, 1, none⟩ v1).setCell ⟨w.heap.size + 1, 2, none⟩ v2).setCell ⟨w.heap.size + 1, 3, none⟩ v3).setCell ⟨w.heap.size + 1, 4, none⟩ v4).setCell ⟨w.heap.size + 1, 5, none⟩ v5).setCell ⟨w.heap.size + 1, 6, none⟩ v6).setCell ⟨w.heap.size + 1, 7, none⟩ v7).cell? ⟨ba, off + 5, none⟩ = some (.int .u8 (at8 row 5)) ∧ ((((((((W.setCell ⟨w.heap.size + 1, 0, none⟩ v0).setCell ⟨w.heap.size + 1, 1, none⟩ v1).setCell ⟨w.heap.size + 1, 2, none⟩ v2).setCell ⟨w.heap.size + 1, 3, none⟩ v3).setCell ⟨w.heap.size + 1, 4, none⟩ v4).setCell ⟨w.heap.size + 1, 5, none⟩ v5).setCell ⟨w.heap.size + 1, 6, none⟩ v6).setCell ⟨w.heap.size + 1, 7, none⟩ v7).cell? ⟨ba, off + 6, none⟩ = some (.int .u8 (at8 row 6)) ∧ ((((((((W.setCell ⟨w.heap.size + 1, 0, none⟩ v0).setCell ⟨w.heap.size + 1, 1, none⟩ v1).setCell ⟨w.heap.size + 1, 2, none⟩ v2).setCell ⟨w.heap.size + 1, 3, none⟩ v3).setCell ⟨w.heap.size + 1, 4, none⟩ v4).setCell ⟨w.heap.size + 1, 5, none⟩ v5).setCell ⟨w.heap.size + 1, 6, none⟩ v6).setCell ⟨w.heap.size + 1, 7, none⟩ v7).cell? ⟨ba, off + 7, none⟩ = some (.int .u8 (at8 row 7)))) := Lib.hid fun W h v0 v1 v2 v3 v4 v5 v6 v7 => ⟨((A.out.below h).set8 (g2 := w.heap.size + 1) (o := 0) (by omega) v0 v1 v2 v3 v4 v5 v6 v7).all, (show Cells8 ((((((((W.setCell ⟨w.heap.size + 1, 0, none⟩ v0).setCell ⟨w.heap.size + 1, 1, none⟩ v1).setCell ⟨w.heap.size + 1, 2, none⟩ v2).setCell ⟨w.heap.size + 1, 3, none⟩ v3).setCell ⟨w.heap.size + 1, 4, none⟩ v4).setCell ⟨w.heap.size + 1, 5, none⟩ v5).setCell ⟨w.heap.size + 1, 6, none⟩ v6).setCell ⟨w.heap.size + 1, 7, none⟩ v7) ba off row from fun i hi => ((below_fill8 (below_go B.out h (by have := zz.out; omega)) (w.heap.size + 1) (by omega) v0 v1 v2 v3 v4 v5 v6 v7).cell hba).trans (HC.out i hi)).flat⟩
  refine wp_region_held_drew (S := (fun w' => (w'.cell? ⟨w.heap.size, 0, none⟩ = some (.int .i64 m) ∧ w'.cell? ⟨w.heap.size, 1, none⟩ = some (.int .i64 p) ∧ w'.cell? ⟨w.heap.size, 2, none⟩ = some (.slice (some ⟨ba, off, none⟩) n cap)) ∧ (w'.cell? ⟨ba, off, none⟩ = some (.int .u8 (at8 row 0)) ∧ w'.cell? ⟨ba, off + 1, none⟩ = some (.int .u8 (at8 row 1)) ∧ w'.cell? ⟨ba, off + 2, none⟩ = some (.int .u8 (at8 row 2)) ∧ w'.cell? ⟨ba, off + 3, none⟩ = some (.int .u8 (at8 row 3)) ∧ w'.cell? ⟨ba, off + 4, none⟩ = some (.int .u8 (at8 row 4)) ∧ w'.cell? ⟨ba, off + 5, none⟩ = some (.int .u8 (at8 row 5)) ∧ w'.cell? ⟨ba, off + 6, none⟩ = some (.int .u8 (at8 row 6)) ∧ w'.cell? ⟨ba, off + 7, none⟩ = some (.int .u8 (at8 row 7))))) (by kernel_rfl) ?_ (fun hHeld => ?_)
  ·first | with_reducible exact SH.out _ KB.out | with_reducible exact SZ.out _ KB.out _ _ _ _ _ _ _ _
  refine wpAnyH_take (i := 0) (oi := { dst := some 7, op := Op.fieldAddr 28 (Operand.tmp 1) 2, type := 0, pos := "l04_conjugacy.go:23", after := #[], guard := none }) (v := ?_) rfl (by kernel_rfl) (by kernel_rfl) (by kernel_rfl) (fun _ _ _ h => h) (Or.inl ⟨by rfl, ?_⟩) (by assumption) ?_
  rotate_left
  ·intro w hSw
   (try dsimp only at hSw)
   go_simp
   try with_reducible rfl
  try simp only [Act.put, List.setIfInBounds_toArray, List.set_cons_zero, List.set_cons_succ]
  refine wpAnyH_take (i := 1) (oi := { dst := some 8, op := Op.load 26 (Operand.tmp 7), type := 26, pos := "l04_conjugacy.go:23", after := #[{ on := 0, ground := Ground.data }], guard := none }) (v := ?_) rfl (by kernel_rfl) (by kernel_rfl) (by kernel_rfl) (fun _ _ _ h => h) (Or.inl ⟨by rfl, ?_⟩) (by assumption) ?_
  rotate_left
  ·intro w hSw
   (try dsimp only at hSw)
   go_simp
   try with_reducible rfl
  try simp only [Act.put, List.setIfInBounds_toArray, List.set_cons_zero, List.set_cons_succ]
  refine wpAnyH_take (i := 2) (oi := { dst := some 9, op := Op.indexAddr 26 (Operand.tmp 8) (Operand.const (Value.int IntKind.i64 0)), type := 0, pos := "l04_conjugacy.go:23", after := #[{ on := 1, ground := Ground.data }], guard := none }) (v := ?_) rfl (by kernel_rfl) (by kernel_rfl) (by kernel_rfl) (fun _ _ _ h => h) (Or.inl ⟨by rfl, ?_⟩) (by assumption) ?_
  rotate_left
  ·intro w hSw
   (try dsimp only at hSw)
   go_simp
   try with_reducible rfl
  try simp only [Act.put, List.setIfInBounds_toArray, List.set_cons_zero, List.set_cons_succ]
  refine wpAnyH_take (i := 3) (oi := { dst := some 10, op := Op.load 53 (Operand.tmp 9), type := 53, pos := "l04_conjugacy.go:23", after := #[{ on := 2, ground := Ground.data }], guard := none }) (v := ?_) rfl (by kernel_rfl) (by kernel_rfl) (by kernel_rfl) (fun _ _ _ h => h) (Or.inl ⟨by rfl, ?_⟩) (by assumption) ?_
  rotate_left
  ·intro w hSw
   (try dsimp only at hSw)
   go_simp
   try with_reducible rfl
  try simp only [Act.put, List.setIfInBounds_toArray, List.set_cons_zero, List.set_cons_succ]
  refine wpAnyH_take (i := 4) (oi := { dst := some 11, op := Op.fieldAddr 28 (Operand.tmp 1) 0, type := 0, pos := "l04_conjugacy.go:23", after := #[], guard := none }) (v := ?_) rfl (by kernel_rfl) (by kernel_rfl) (by kernel_rfl) (fun _ _ _ h => h) (Or.inl ⟨by rfl, ?_⟩) (by assumption) ?_
  rotate_left
  ·intro w hSw
   (try dsimp only at hSw)
   go_simp
   try with_reducible rfl
  try simp only [Act.put, List.setIfInBounds_toArray, List.set_cons_zero, List.set_cons_succ]
  refine wpAnyH_take (i := 5) (oi := { dst := some 12, op := Op.load 2 (Operand.tmp 11), type := 2, pos := "l04_conjugacy.go:23", after := #[{ on := 4, ground := Ground.data }], guard := none }) (v := ?_) rfl (by kernel_rfl) (by kernel_rfl) (by kernel_rfl) (fun _ _ _ h => h) (Or.inl ⟨by rfl, ?_⟩) (by assumption) ?_
  rotate_left
  ·intro w hSw
   (try dsimp only at hSw)
   go_simp
   try with_reducible rfl
  try simp only [Act.put, List.setIfInBounds_toArray, List.set_cons_zero, List.set_cons_succ]
  refine wpAnyH_ready (rs := [6]) (by kernel_rfl) (by simp) ?_
  refine AllReadyH.cons (o := { dst := some 13, op := Op.call { callee := Callee.value (Operand.func 60), args := #[Operand.tmp 10, Operand.tmp 12], argTypes := #[53, 2] }, type := 53, pos := "l04_conjugacy.go:23", after := #[{ on := 3, ground := Ground.data }, { on := 5, ground := Ground.data }], guard := none }) rfl (fun K hK => ?_) ?_
  ·go_simp
   refine (l02Turn_turnR m row SR.out _).mono ?_
   rintro e w3 ⟨rfl, gg⟩
   replace KB := Lib.hid (below_go KB.out gg KB.out.size)
   clear gg
   obtain ⟨⟨d0, d1, d2, d3⟩, d4, d5, d6, d7⟩ := (RZ.out.below KB.out).all
   obtain ⟨⟨f0, f1, f2, f3⟩, f4, f5, f6, f7⟩ := (RZ.out.below KB.out).frees
   go_wp2_with fail
   refine hK.out _ _ ?_ (fun hHeld => ?_)
   ·first | with_reducible exact SH.out _ KB.out | with_reducible exact SZ.out _ KB.out _ _ _ _ _ _ _ _
   clear hK K
   try simp only [Act.put, List.setIfInBounds_toArray, List.set_cons_zero, List.set_cons_succ]
   refine wpAnyH_ready (rs := [7]) (by kernel_rfl) (by simp) ?_
   refine AllReadyH.cons (o := { dst := none, op := Op.store 53 (Operand.tmp 2) (Operand.tmp 13), type := 0, pos := "l04_conjugacy.go:23", after := #[{ on := 6, ground := Ground.data }, { on := 6, ground := Ground.chain }, { on := 0, ground := Ground.phase }, { on := 1, ground := Ground.phase }, { on := 2, ground := Ground.phase }, { on := 3, ground := Ground.phase }, { on := 4, ground := Ground.phase }, { on := 5, ground := Ground.phase }, { on := 6, ground := Ground.phase }], guard := none }) rfl (fun K hK => ?_) ?_
   ·go_simp
    refine hK.out _ _ ?_ (fun hHeld => ?_)
    ·first | with_reducible exact SH.out _ KB.out | with_reducible exact SZ.out _ KB.out _ _ _ _ _ _ _ _
    clear hK K
    try simp only [Act.put, List.setIfInBounds_toArray, List.set_cons_zero, List.set_cons_succ]
    refine wpAnyH_done (by kernel_rfl) ?_ _
    go_wp2_with fail
    try rw [Exit.noGoto_ret]
    obtain ⟨⟨e0, e1, e2, e3⟩, e4, e5, e6, e7⟩ := ((RZ.out.below KB.out).fill (turnR m row) HT8.out).all
    refine bodyPost_ret (v := arr8 .u8 (turnR m row)) (by simp [results, Try.results59, go_sem, e0, e1, e2, e3, e4, e5, e6, e7]) rfl ⟨by rw [E1.out], ?_⟩
    exact below_fill8 (below_go B.out KB.out (by have := zz.out; omega)) _ (by omega) _ _ _ _ _ _ _ _
   exact AllReadyH.nil
  exact AllReadyH.nil

set_option maxRecDepth 100000 in
set_option maxHeartbeats 300000 in
theorem l04Cycle_own (m : Nat) (m1 : 1 ≤ m) (m8 : m ≤ 8) (p : Int) (hp : -100000 ≤ p ∧ p ≤ 100000) (a : Option Addr) (n cap : Nat) (hcap : n ≤ cap) (l : List (List Int)) (w : World) (hr : ReadsA w a n l) (hl : Sims m l) (hn : n ≤ 50000) (e : Int) (kf : List (List Int)) (hM : cycN m p l = (e, kf)) :
  Calls Try.prog 39 #[.agg #[.int .i64 m, .int .i64 p, .slice a n cap]] w (RetNS w.heap.size w m e kf) := by
 obtain ⟨i0, hi, hz0, hz1, hz2⟩ := info_parts infoSimple
 have HN := Lib.hid hr.len
 have R := Lib.hid hr
 have HL := Lib.hid hl
 clear hl
 have HRR := Lib.hid hr
 clear hr
 go_enter Try.func39, Try.ntmps39
 have A := Lib.hid ((At3.place w (.int .i64 m) (.int .i64 p) (.slice a n cap) 28 w.heap.size rfl).alloc (.cells #[.int .i64 0, .int .i64 0, .slice none 0 0] 28))
 have Z := Lib.hid (At3.place (w.alloc (.cells #[.int .i64 m, .int .i64 p, .slice a n cap] 28)) (.int .i64 0) (.int .i64 0) (.slice none 0 0) 28 (w.heap.size + 1) (by simp))
 have B := Lib.hid ((below1 w (.cells #[.int .i64 m, .int .i64 p, .slice a n cap] 28)).alloc (by simp) (.cells #[.int .i64 0, .int .i64 0, .slice none 0 0] 28))
 replace R := Lib.hid ((R.out.alloc (.cells #[.int .i64 m, .int .i64 p, .slice a n cap] 28)).alloc (.cells #[.int .i64 0, .int .i64 0, .slice none 0 0] 28))
 have zz : Hid (((w.alloc (.cells #[.int .i64 m, .int .i64 p, .slice a n cap] 28)).alloc (.cells #[.int .i64 0, .int .i64 0, .slice none 0 0] 28)).heap.size = w.heap.size + 1 + 1) := Lib.hid (by simp)
 go_upto_region 1 with fail
 obtain ⟨W0, hW0⟩ : ∃ W0, W0 = ((w.alloc (.cells #[.int .i64 m, .int .i64 p, .slice a n cap] 28)).alloc (.cells #[.int .i64 0, .int .i64 0, .slice none 0 0] 28)) := ⟨_, rfl⟩
 rw [← hW0] at A Z B R zz ⊢
 clear hW0
 obtain ⟨q1, q2, q3⟩ := A.out.all
 by_cases h0 : n = 0
 ·subst h0
  obtain rfl : l = [] := List.eq_nil_of_length_eq_zero HN.out
  simp only [cycN, Prod.mk.injEq] at hM
  obtain ⟨rfl, rfl⟩ := hM
  obtain ⟨x0, ⟨x1, x2, x3⟩, y1, y2, y3⟩ := Z.out
  obtain ⟨_, ⟨e1, e2, e3⟩, _⟩ := Z.out.fill (.int .i64 m) (.int .i64 p) (.slice a 0 cap)
  go_wp2
  try rw [Exit.noGoto_ret]
  exact bodyPost_ret (v := .agg #[.int .i64 m, .int .i64 p, .slice a 0 cap]) (by simp [results, Try.results39, go_sem, e1, e2, e3]) rfl ⟨a, 0, cap, rfl, hcap, OwnS.nil _ _ _, below_set3 B.out (by omega) _ _ _⟩
 ·have hz : ((n : Int) == 0) = false := by simpa using h0
  go_upto_region 3 with fail
  obtain ⟨n', rfl⟩ : ∃ n', n = n' + 1 := ⟨n - 1, by omega⟩
  obtain ⟨c', rfl⟩ : ∃ c', cap = c' + 1 := ⟨cap - 1, by omega⟩
  clear q1 q2 q3
  obtain ⟨ba, off, rfl, hbl, hcl⟩ := R.out.cells (by omega)
  clear hbl hcl
  have hi1 : (1 : Int) ≤ ((n' + 1 : Nat) : Int) := by omega
  have hi2 : (1 : Int) ≤ (n' : Int) + 1 := by omega
  have ST : Hid (Sim m (turnK m p (rowAt l 0))) := Lib.hid (turnK_sim p (HL.out _ (rowAt_getElem (by rw [HN.out]; omega))))
  have S8 := Lib.hid ST.out.len
  have HM : Hid (mkN m p (l.drop 1 ++ [(turnK m p (rowAt l 0))]) = (e, kf)) := Lib.hid (by
   cases l with
   | nil => have := HN.out; simp at this
   | cons f l => exact hM)
  clear hM
  have SM : Hid (Sims m (l.drop 1 ++ [(turnK m p (rowAt l 0))])) := Lib.hid (Sims.app (fun x hx => HL.out x (List.mem_of_mem_drop hx)) (Sims.cons ST.out Sims.nil))
  obtain ⟨sl, hsl⟩ : ∃ sl : Option Addr, sl = if c' = 0 then some ⟨ba, off, none⟩ else some ⟨ba, off + 8, none⟩ := ⟨_, rfl⟩
  have HSL := Lib.hid hsl
  clear hsl
  have RT : Hid (∀ W, Below W0.heap.size W0 W → ReadsA W sl n' (l.drop 1)) := Lib.hid fun W h => by rw [HSL.out]; exact (R.out.below h).tail c' (by omega)
  have KB : Hid (Below W0.heap.size W0 W0.drew) := Lib.hid (Below.refl W0.heap.size W0).drew
  have SH : Hid (∀ W, Below W0.heap.size W0 W → W.cell? ⟨w.heap.size, 0, none⟩ = some (.int .i64 m) ∧ W.cell? ⟨w.heap.size, 1, none⟩ = some (.int .i64 p) ∧ W.cell? ⟨w.heap.size, 2, none⟩ = some (.slice (some ⟨ba, off, none⟩) (n' + 1) (c' + 1))) := Lib.hid fun W h => (A.out.below h).all
  have SZ : Hid (∀ W, Below W0.heap.size W0 W → ∀ u v x, (((W.setCell ⟨w.heap.size + 1, 0, none⟩ u).setCell ⟨w.heap.size + 1, 1, none⟩ v).setCell ⟨w.heap.size + 1, 2, none⟩ x).cell? ⟨w.heap.size, 0, none⟩ = some (.int .i64 m) ∧ (((W.setCell ⟨w.heap.size + 1, 0, none⟩ u).setCell ⟨w.heap.size + 1, 1, none⟩ v).setCell ⟨w.heap.size + 1, 2, none⟩ x).cell? ⟨w.heap.size, 1, none⟩ = some (.int .i64 p) ∧ (((W.setCell ⟨w.heap.size + 1, 0, none⟩ u).setCell ⟨w.heap.size + 1, 1, none⟩ v).setCell ⟨w.heap.size + 1, 2, none⟩ x).cell? ⟨w.heap.size, 2, none⟩ = some (.slice (some ⟨ba, off, none⟩) (n' + 1) (c' + 1))) := Lib.hid fun W h u v x => ((A.out.below h).set3 (g2 := w.heap.size + 1) (by omega) u v x).all
  refine wp_region_held_drew (S := (fun w' => w'.cell? ⟨w.heap.size, 0, none⟩ = some (.int .i64 m) ∧ w'.cell? ⟨w.heap.size, 1, none⟩ = some (.int .i64 p) ∧ w'.cell? ⟨w.heap.size, 2, none⟩ = some (.slice (some ⟨ba, off, none⟩) (n' + 1) (c' + 1)))) (by kernel_rfl) ?_ (fun hHeld => ?_)
  ·first | with_reducible exact SH.out _ KB.out | with_reducible exact SZ.out _ KB.out _ _ _
  refine wpAnyH_take (i := 0) (oi := { dst := some 8, op := Op.fieldAddr 28 (Operand.tmp 1) 0, type := 0, pos := "l04_conjugacy.go:33", after := #[], guard := none }) (v := ?_) rfl (by kernel_rfl) (by kernel_rfl) (by kernel_rfl) (fun _ _ _ h => h) (Or.inl ⟨by rfl, ?_⟩) (by assumption) ?_
  rotate_left
  ·intro w hSw
   (try dsimp only at hSw)
   go_simp
   try with_reducible rfl
  try simp only [Act.put, List.setIfInBounds_toArray, List.set_cons_zero, List.set_cons_succ]
  refine wpAnyH_take (i := 1) (oi := { dst := some 9, op := Op.load 2 (Operand.tmp 8), type := 2, pos := "l04_conjugacy.go:33", after := #[{ on := 0, ground := Ground.data }], guard := none }) (v := ?_) rfl (by kernel_rfl) (by kernel_rfl) (by kernel_rfl) (fun _ _ _ h => h) (Or.inl ⟨by rfl, ?_⟩) (by assumption) ?_
  rotate_left
  ·intro w hSw
   (try dsimp only at hSw)
   go_simp
   try with_reducible rfl
  try simp only [Act.put, List.setIfInBounds_toArray, List.set_cons_zero, List.set_cons_succ]
  refine wpAnyH_take (i := 2) (oi := { dst := some 10, op := Op.fieldAddr 28 (Operand.tmp 1) 1, type := 0, pos := "l04_conjugacy.go:33", after := #[], guard := none }) (v := ?_) rfl (by kernel_rfl) (by kernel_rfl) (by kernel_rfl) (fun _ _ _ h => h) (Or.inl ⟨by rfl, ?_⟩) (by assumption) ?_
  rotate_left
  ·intro w hSw
   (try dsimp only at hSw)
   go_simp
   try with_reducible rfl
  try simp only [Act.put, List.setIfInBounds_toArray, List.set_cons_zero, List.set_cons_succ]
  refine wpAnyH_take (i := 3) (oi := { dst := some 11, op := Op.load 2 (Operand.tmp 10), type := 2, pos := "l04_conjugacy.go:33", after := #[{ on := 2, ground := Ground.data }], guard := none }) (v := ?_) rfl (by kernel_rfl) (by kernel_rfl) (by kernel_rfl) (fun _ _ _ h => h) (Or.inl ⟨by rfl, ?_⟩) (by assumption) ?_
  rotate_left
  ·intro w hSw
   (try dsimp only at hSw)
   go_simp
   try with_reducible rfl
  try simp only [Act.put, List.setIfInBounds_toArray, List.set_cons_zero, List.set_cons_succ]
  refine wpAnyH_take (i := 5) (oi := { dst := some 13, op := Op.fieldAddr 28 (Operand.tmp 1) 2, type := 0, pos := "l04_conjugacy.go:33", after := #[], guard := none }) (v := ?_) rfl (by kernel_rfl) (by kernel_rfl) (by kernel_rfl) (fun _ _ _ h => h) (Or.inl ⟨by rfl, ?_⟩) (by assumption) ?_
  rotate_left
  ·intro w hSw
   (try dsimp only at hSw)
   go_simp
   try with_reducible rfl
  try simp only [Act.put, List.setIfInBounds_toArray, List.set_cons_zero, List.set_cons_succ]
  refine wpAnyH_take (i := 6) (oi := { dst := some 14, op := Op.load 26 (Operand.tmp 13), type := 26, pos := "l04_conjugacy.go:33", after := #[{ on := 5, ground := Ground.data }], guard := none }) (v := ?_) rfl (by kernel_rfl) (by kernel_rfl) (by kernel_rfl) (fun _ _ _ h => h) (Or.inl ⟨by rfl, ?_⟩) (by assumption) ?_
  rotate_left
  ·intro w hSw
   (try dsimp only at hSw)
   go_simp
   try with_reducible rfl
  try simp only [Act.put, List.setIfInBounds_toArray, List.set_cons_zero, List.set_cons_succ]
  refine wpAnyH_take (i := 7) (oi := { dst := some 15, op := Op.slice 26 (Operand.tmp 14) (some (Operand.const (Value.int IntKind.i64 1))) none none, type := 26, pos := "l04_conjugacy.go:33", after := #[{ on := 6, ground := Ground.data }], guard := none }) (v := ?_) rfl (by kernel_rfl) (by kernel_rfl) (by kernel_rfl) (fun _ _ _ h => h) (Or.inl ⟨by rfl, ?_⟩) (by assumption) ?_
  rotate_left
  ·intro w hSw
   (try dsimp only at hSw)
   go_simp
   try with_reducible rfl
  try simp only [Act.put, List.setIfInBounds_toArray, List.set_cons_zero, List.set_cons_succ]
  rw [← HSL.out]
  refine wpAnyH_take (i := 9) (oi := { dst := some 17, op := Op.load 28 (Operand.tmp 1), type := 28, pos := "l04_conjugacy.go:33", after := #[], guard := none }) (v := ?_) rfl (by kernel_rfl) (by kernel_rfl) (by kernel_rfl) (fun _ _ _ h => h) (Or.inl ⟨by rfl, ?_⟩) (by assumption) ?_
  rotate_left
  ·intro w hSw
   (try dsimp only at hSw)
   go_simp
   try with_reducible rfl
  try simp only [Act.put, List.setIfInBounds_toArray, List.set_cons_zero, List.set_cons_succ]
  refine wpAnyH_ready (rs := [4]) (by kernel_rfl) (by simp) ?_
  refine AllReadyH.cons (o := { dst := some 12, op := Op.buildSlice 26 0 #[], type := 26, pos := "l04_conjugacy.go:33", after := #[], guard := none }) rfl (fun K hK => ?_) ?_
  ·go_simp
   have O := Lib.hid (own_at W0 rfl (Nat.le_refl _)).drew
   replace KB : Hid (Below W0.heap.size W0 (W0.alloc (.cells #[] 53)).drew) := Lib.hid (below1 W0 (.cells #[] 53)).drew
   obtain ⟨V4, hV4⟩ : ∃ V, V = (W0.alloc (.cells #[] 53)).drew := ⟨_, rfl⟩
   rw [← hV4] at O KB ⊢
   clear hV4
   refine hK.out _ _ ?_ (fun hHeld => ?_)
   ·first | with_reducible exact SH.out _ KB.out | with_reducible exact SZ.out _ KB.out _ _ _
   clear hK K
   try simp only [Act.put, List.setIfInBounds_toArray, List.set_cons_zero, List.set_cons_succ]
   refine wpAnyH_ready (rs := [8]) (by kernel_rfl) (by simp) ?_
   refine AllReadyH.cons (o := { dst := some 16, op := Op.call { callee := Callee.builtin Builtin.append, args := #[Operand.tmp 12, Operand.tmp 15], argTypes := #[26, 26] }, type := 26, pos := "l04_conjugacy.go:33", after := #[{ on := 4, ground := Ground.data }, { on := 7, ground := Ground.data }], guard := none }) rfl (fun K hK => ?_) ?_
   ·refine step_append_rows_at rfl _ _ 26 rfl W0.heap.size i0 Try.underlying26 hi hz0 hz1 hz2 _ _ _ rfl O.out _ _ _ (l.drop 1) rfl (RT.out _ KB.out) (by omega) KB.out.size ?_
    intro v' w5 ho' hg hv
    replace KB := Lib.hid (below_ownA KB.out KB.out.size (Nat.le_refl _) O.out hg)
    rw [List.nil_append, Nat.zero_add] at ho'
    replace O := Lib.hid ho'
    clear ho' hg hv
    refine hK.out _ _ ?_ (fun hHeld => ?_)
    ·first | with_reducible exact SH.out _ KB.out | with_reducible exact SZ.out _ KB.out _ _ _
    clear hK K
    try simp only [Act.put, List.setIfInBounds_toArray, List.set_cons_zero, List.set_cons_succ]
    refine wpAnyH_ready (rs := [10]) (by kernel_rfl) (by simp) ?_
    refine AllReadyH.cons (o := { dst := some 18, op := Op.call { callee := Callee.value (Operand.func 59), args := #[Operand.tmp 17], argTypes := #[28] }, type := 53, pos := "l04_conjugacy.go:33", after := #[{ on := 9, ground := Ground.data }, { on := 8, ground := Ground.chain }], guard := none }) rfl (fun K hK => ?_) ?_
    ·go_simp
     refine (l04First_any m p (some ⟨ba, off, none⟩) (n' + 1) (c' + 1) l _ (R.out.below KB.out) HL.out (by omega) (by omega)).mono ?_
     rintro e6 w6 ⟨rfl, gg⟩
     replace O := Lib.hid (O.out.drawn gg)
     replace KB := Lib.hid (below_go KB.out gg KB.out.size)
     clear gg
     go_wp2_with fail
     refine hK.out _ _ ?_ (fun hHeld => ?_)
     ·first | with_reducible exact SH.out _ KB.out | with_reducible exact SZ.out _ KB.out _ _ _
     clear hK K
     try simp only [Act.put, List.setIfInBounds_toArray, List.set_cons_zero, List.set_cons_succ]
     refine wpAnyH_ready (rs := [11]) (by kernel_rfl) (by simp) ?_
     refine AllReadyH.cons (o := { dst := some 19, op := Op.buildSlice 26 1 #[(0, Operand.tmp 18)], type := 26, pos := "l04_conjugacy.go:33", after := #[{ on := 10, ground := Ground.data }], guard := none }) rfl (fun K hK => ?_) ?_
     ·go_simp
      have Y := Lib.hid (readsA_one w6 (turnK m p (rowAt l 0)) S8.out 53)
      replace O := Lib.hid (O.out.alloc (.cells #[.int .u8 (at8 (turnK m p (rowAt l 0)) 0), .int .u8 (at8 (turnK m p (rowAt l 0)) 1), .int .u8 (at8 (turnK m p (rowAt l 0)) 2), .int .u8 (at8 (turnK m p (rowAt l 0)) 3), .int .u8 (at8 (turnK m p (rowAt l 0)) 4), .int .u8 (at8 (turnK m p (rowAt l 0)) 5), .int .u8 (at8 (turnK m p (rowAt l 0)) 6), .int .u8 (at8 (turnK m p (rowAt l 0)) 7)] 53))
      replace KB := Lib.hid (KB.out.alloc KB.out.size (.cells #[.int .u8 (at8 (turnK m p (rowAt l 0)) 0), .int .u8 (at8 (turnK m p (rowAt l 0)) 1), .int .u8 (at8 (turnK m p (rowAt l 0)) 2), .int .u8 (at8 (turnK m p (rowAt l 0)) 3), .int .u8 (at8 (turnK m p (rowAt l 0)) 4), .int .u8 (at8 (turnK m p (rowAt l 0)) 5), .int .u8 (at8 (turnK m p (rowAt l 0)) 6), .int .u8 (at8 (turnK m p (rowAt l 0)) 7)] 53))
      refine hK.out _ _ ?_ (fun hHeld => ?_)
      ·first | with_reducible exact SH.out _ KB.out | with_reducible exact SZ.out _ KB.out _ _ _
      clear hK K
      try simp only [Act.put, List.setIfInBounds_toArray, List.set_cons_zero, List.set_cons_succ]
      refine wpAnyH_ready (rs := [12]) (by kernel_rfl) (by simp) ?_
      refine AllReadyH.cons (o := { dst := some 20, op := Op.call { callee := Callee.builtin Builtin.append, args := #[Operand.tmp 16, Operand.tmp 19], argTypes := #[26, 26] }, type := 26, pos := "l04_conjugacy.go:33", after := #[{ on := 8, ground := Ground.data }, { on := 11, ground := Ground.data }, { on := 10, ground := Ground.chain }], guard := none }) rfl (fun K hK => ?_) ?_
      ·refine step_append_rows_at rfl _ _ 26 rfl W0.heap.size i0 Try.underlying26 hi hz0 hz1 hz2 _ _ _ rfl O.out _ _ _ [(turnK m p (rowAt l 0))] rfl Y.out (by omega) KB.out.size ?_
       intro v'' w7 ho' hg hv
       replace KB := Lib.hid (below_ownA KB.out KB.out.size (Nat.le_refl _) O.out hg)
       obtain ⟨a5, c5, rfl, ho5⟩ := ho'.form
       have P := Lib.hid ho5
       clear ho' hg hv ho5
       refine hK.out _ _ ?_ (fun hHeld => ?_)
       ·first | with_reducible exact SH.out _ KB.out | with_reducible exact SZ.out _ KB.out _ _ _
       clear hK K
       try simp only [Act.put, List.setIfInBounds_toArray, List.set_cons_zero, List.set_cons_succ]
       refine wpAnyH_ready (rs := [13]) (by kernel_rfl) (by simp) ?_
       refine AllReadyH.cons (o := { dst := some 21, op := Op.call { callee := Callee.value (Operand.func 24), args := #[Operand.tmp 9, Operand.tmp 11, Operand.tmp 20], argTypes := #[2, 2, 26] }, type := 28, pos := "l04_conjugacy.go:33", after := #[{ on := 1, ground := Ground.data }, { on := 3, ground := Ground.data }, { on := 12, ground := Ground.data }, { on := 12, ground := Ground.chain }], guard := none }) rfl (fun K hK => ?_) ?_
       ·go_simp
        refine (l03Make_any m m1 m8 p (by omega) _ _ _ (l.drop 1 ++ [(turnK m p (rowAt l 0))]) _ P.out.reads SM.out (by omega) e kf HM.out).mono ?_
        rintro e8 w8 ⟨a8, n8, c8, rfl, ho, gg⟩
        have O8 := Lib.hid (ho.mono KB.out.size)
        have hc8 : n8 ≤ c8 := ho.cap_le
        replace KB := Lib.hid (below_go KB.out gg KB.out.size)
        clear ho gg
        obtain ⟨x0, ⟨x1, x2, x3⟩, y1, y2, y3⟩ := Z.out.below KB.out
        go_wp2_with fail
        refine hK.out _ _ ?_ (fun hHeld => ?_)
        ·first | with_reducible exact SH.out _ KB.out | with_reducible exact SZ.out _ KB.out _ _ _
        clear hK K
        try simp only [Act.put, List.setIfInBounds_toArray, List.set_cons_zero, List.set_cons_succ]
        refine wpAnyH_ready (rs := [14]) (by kernel_rfl) (by simp) ?_
        refine AllReadyH.cons (o := { dst := none, op := Op.store 28 (Operand.tmp 2) (Operand.tmp 21), type := 0, pos := "l04_conjugacy.go:33", after := #[{ on := 13, ground := Ground.data }, { on := 13, ground := Ground.chain }, { on := 0, ground := Ground.phase }, { on := 1, ground := Ground.phase }, { on := 2, ground := Ground.phase }, { on := 3, ground := Ground.phase }, { on := 4, ground := Ground.phase }, { on := 5, ground := Ground.phase }, { on := 6, ground := Ground.phase }, { on := 7, ground := Ground.phase }, { on := 8, ground := Ground.phase }, { on := 9, ground := Ground.phase }, { on := 10, ground := Ground.phase }, { on := 11, ground := Ground.phase }, { on := 12, ground := Ground.phase }, { on := 13, ground := Ground.phase }], guard := none }) rfl (fun K hK => ?_) ?_
        ·go_simp
         refine hK.out _ _ ?_ (fun hHeld => ?_)
         ·first | with_reducible exact SH.out _ KB.out | with_reducible exact SZ.out _ KB.out _ _ _
         clear hK K
         try simp only [Act.put, List.setIfInBounds_toArray, List.set_cons_zero, List.set_cons_succ]
         refine wpAnyH_done (by kernel_rfl) ?_ _
         go_wp2_with fail
         try rw [Exit.noGoto_ret]
         obtain ⟨_, ⟨e1, e2, e3⟩, _⟩ := (Z.out.below KB.out).fill (.int .i64 m) (.int .i64 e) (.slice a8 n8 c8)
         exact bodyPost_ret (v := .agg #[.int .i64 m, .int .i64 e, .slice a8 n8 c8]) (by simp [results, Try.results39, go_sem, e1, e2, e3]) rfl ⟨a8, n8, c8, rfl, hc8, ((O8.out.set3 (by have := zz.out; omega) _ _ _).mono (by have := zz.out; omega)).toS, below_set3 (below_go B.out KB.out (by have := zz.out; omega)) (by omega) _ _ _⟩
        exact AllReadyH.nil
       exact AllReadyH.nil
      exact AllReadyH.nil
     exact AllReadyH.nil
    exact AllReadyH.nil
   exact AllReadyH.nil
  exact AllReadyH.nil

end Go.Proofs.Ytpkhddndapcpjaa

