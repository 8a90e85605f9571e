/- The model: decycling. -/
import Derived.Test.YtpkhddndapcpjaaSmIDec
import Derived.Test.YtpkhddndapcpjaaSmSCyc
namespace Go.Proofs.Ytpkhddndapcpjaa
open Go.RowKit Go.ChangeShapes

theorem OwnAV.one (w : World) (r : List Int) (h : r.length = 8) : OwnAV w.heap.size (w.alloc (.cells #[.int .u8 (at8 r 0), .int .u8 (at8 r 1), .int .u8 (at8 r 2), .int .u8 (at8 r 3), .int .u8 (at8 r 4), .int .u8 (at8 r 5), .int .u8 (at8 r 6), .int .u8 (at8 r 7)] 53)) (.slice (some ⟨w.heap.size, 0, none⟩) 1 1) 1 [r] := by
 have := World.ownsRow_lit (base := w.heap.size) (size := 8) (e := 53) w #[.int .u8 (at8 r 0), .int .u8 (at8 r 1), .int .u8 (at8 r 2), .int .u8 (at8 r 3), .int .u8 (at8 r 4), .int .u8 (at8 r 5), .int .u8 (at8 r 6), .int .u8 (at8 r 7)] 1 (Nat.le_refl _) (by unfold maxLen; omega) rfl
 exact ⟨(fun x hx => by simp at hx; rw [hx]; exact h), this⟩

set_option maxRecDepth 100000 in
set_option maxHeartbeats 1000000 in
theorem l04Decycle_own (m : Nat) (m1 : 1 ≤ m) (m8 : m ≤ 8) (p : Int) (hp : -100000 ≤ p ∧ p ≤ 100000) (a : Option Addr) (n cap : Nat) (hcap : n ≤ cap) (l : List (List Int)) (w : World) (hr : ReadsA w a n l) (hl : Sims m l) (hn : n ≤ 50000) (e : Int) (kf : List (List Int)) (hM : decN m p l = (e, kf)) :
  Calls Try.prog 40 #[.agg #[.int .i64 m, .int .i64 p, .slice a n cap]] w (RetNS w.heap.size w m e kf) := by
 obtain ⟨i0, hi, hz0, hz1, hz2⟩ := info_parts infoSimple
 have HN := Lib.hid hr.len
 have R := Lib.hid hr
 have HRR := Lib.hid hr
 have HL := Lib.hid hl
 clear hl hr
 unfold decN at hM
 rw [HN.out] at hM
 go_enter Try.func40, Try.ntmps40
 have A := Lib.hid ((At3.place w (.int .i64 m) (.int .i64 p) (.slice a n cap) 28 w.heap.size rfl).alloc (.cells #[.int .i64 0, .int .i64 0, .slice none 0 0] 28))
 have Z := Lib.hid (At3.place (w.alloc (.cells #[.int .i64 m, .int .i64 p, .slice a n cap] 28)) (.int .i64 0) (.int .i64 0) (.slice none 0 0) 28 (w.heap.size + 1) (by simp))
 have B := Lib.hid ((below1 w (.cells #[.int .i64 m, .int .i64 p, .slice a n cap] 28)).alloc (by simp) (.cells #[.int .i64 0, .int .i64 0, .slice none 0 0] 28))
 replace R := Lib.hid ((R.out.alloc (.cells #[.int .i64 m, .int .i64 p, .slice a n cap] 28)).alloc (.cells #[.int .i64 0, .int .i64 0, .slice none 0 0] 28))
 have zz : Hid (((w.alloc (.cells #[.int .i64 m, .int .i64 p, .slice a n cap] 28)).alloc (.cells #[.int .i64 0, .int .i64 0, .slice none 0 0] 28)).heap.size = w.heap.size + 1 + 1) := Lib.hid (by simp)
 go_upto_region 1 with fail
 obtain ⟨W0, hW0⟩ : ∃ W0, W0 = ((w.alloc (.cells #[.int .i64 m, .int .i64 p, .slice a n cap] 28)).alloc (.cells #[.int .i64 0, .int .i64 0, .slice none 0 0] 28)) := ⟨_, rfl⟩
 rw [← hW0] at A Z B R zz ⊢
 clear hW0
 obtain ⟨q1, q2, q3⟩ := A.out.all
 by_cases h0 : n = 0
 ·subst h0
  rw [if_pos rfl] at hM
  obtain rfl : l = [] := List.eq_nil_of_length_eq_zero HN.out
  simp only [Prod.mk.injEq] at hM
  obtain ⟨rfl, rfl⟩ := hM
  obtain ⟨x0, ⟨x1, x2, x3⟩, y1, y2, y3⟩ := Z.out
  obtain ⟨_, ⟨e1, e2, e3⟩, _⟩ := Z.out.fill (.int .i64 m) (.int .i64 p) (.slice a 0 cap)
  go_wp2
  try rw [Exit.noGoto_ret]
  exact bodyPost_ret (v := .agg #[.int .i64 m, .int .i64 p, .slice a 0 cap]) (by simp [results, Try.results40, go_sem, e1, e2, e3]) rfl ⟨a, 0, cap, rfl, hcap, OwnS.nil _ _ _, below_set3 B.out (by omega) _ _ _⟩
 ·have hz : ((n : Int) == 0) = false := by simpa using h0
  rw [if_neg h0] at hM
  obtain ⟨n', rfl⟩ : ∃ n', n = n' + 1 := ⟨n - 1, by omega⟩
  obtain ⟨c', rfl⟩ : ∃ c', cap = c' + 1 := ⟨cap - 1, by omega⟩
  obtain ⟨ba, off, rfl, hbl, hcl⟩ := R.out.cells (by omega)
  obtain ⟨row, hrow⟩ : ∃ row, row = rowAt l n' := ⟨_, rfl⟩
  have SR : Hid (Sim m row) := Lib.hid (by rw [hrow]; exact HL.out _ (rowAt_getElem (by rw [HN.out]; omega)))
  have S8 := Lib.hid SR.out.len
  have hC : Cells8 W0 ba (off + n' * 8) row := by rw [hrow]; exact fun i hi => hcl n' (by omega) i hi
  have HM : Hid (mkN m p (turnK m p row :: l.take n') = (e, kf)) := Lib.hid (by rw [hrow]; simpa using hM)
  clear hM hbl hcl hrow
  have hw1 : IntKind.i64.wrap ((((n' + 1 : Nat) : Int)) - 1) = (n' : Int) := by rw [show (((n' + 1 : Nat) : Int)) - 1 = (n' : Int) by omega]; exact IntWalk.i64_in _ (by omega)
  have hw1' : IntKind.i64.wrap ((n' : Int) + 1 - 1) = (n' : Int) := by rw [show (n' : Int) + 1 - 1 = (n' : Int) by omega]; exact IntWalk.i64_in _ (by omega)
  have hw4 : IntKind.i64.wrap (n' : Int) = (n' : Int) := IntWalk.i64_in _ (by omega)
  have hi1 : (n' : Int) ≤ ((c' + 1 : Nat) : Int) := by omega
  have hi2 : (n' : Int) ≤ (c' : Int) + 1 := by omega
  have hi3 : (0 : Int) ≤ (n' : Int) := by omega
  have hi4 : (n' : Int) < ((n' + 1 : Nat) : Int) := by omega
  have hi5 : (n' : Int) < (n' : Int) + 1 := by omega
  obtain ⟨c0, c1, c2, c3, c4, c5, c6, c7⟩ := hC.flat
  clear hC
  have X := Lib.hid (Row8.place W0 .u8 row 53 W0.heap.size rfl S8.out)
  replace A := Lib.hid (A.out.alloc (.cells #[.int .u8 (at8 row 0), .int .u8 (at8 row 1), .int .u8 (at8 row 2), .int .u8 (at8 row 3), .int .u8 (at8 row 4), .int .u8 (at8 row 5), .int .u8 (at8 row 6), .int .u8 (at8 row 7)] 53))
  replace Z := Lib.hid (Z.out.alloc (.cells #[.int .u8 (at8 row 0), .int .u8 (at8 row 1), .int .u8 (at8 row 2), .int .u8 (at8 row 3), .int .u8 (at8 row 4), .int .u8 (at8 row 5), .int .u8 (at8 row 6), .int .u8 (at8 row 7)] 53))
  replace B := Lib.hid (B.out.alloc B.out.size (.cells #[.int .u8 (at8 row 0), .int .u8 (at8 row 1), .int .u8 (at8 row 2), .int .u8 (at8 row 3), .int .u8 (at8 row 4), .int .u8 (at8 row 5), .int .u8 (at8 row 6), .int .u8 (at8 row 7)] 53))
  replace R := Lib.hid (R.out.alloc (.cells #[.int .u8 (at8 row 0), .int .u8 (at8 row 1), .int .u8 (at8 row 2), .int .u8 (at8 row 3), .int .u8 (at8 row 4), .int .u8 (at8 row 5), .int .u8 (at8 row 6), .int .u8 (at8 row 7)] 53))
  go_upto_region 5 with fail
  obtain ⟨W1, hW1⟩ : ∃ V, V = W0.alloc (.cells #[.int .u8 (at8 row 0), .int .u8 (at8 row 1), .int .u8 (at8 row 2), .int .u8 (at8 row 3), .int .u8 (at8 row 4), .int .u8 (at8 row 5), .int .u8 (at8 row 6), .int .u8 (at8 row 7)] 53) := ⟨_, rfl⟩
  have zy : Hid (W1.heap.size = w.heap.size + 1 + 1 + 1) := Lib.hid (by rw [hW1]; simp; exact zz.out)
  rw [← hW1] at A Z B R X ⊢
  clear hW1 q1 q2 q3 c0 c1 c2 c3 c4 c5 c6 c7
  obtain ⟨gl, hgl⟩ : ∃ gl, gl = W0.heap.size := ⟨_, rfl⟩
  have GLZ : Hid (gl = w.heap.size + 1 + 1) := Lib.hid (by rw [hgl]; exact zz.out)
  rw [← hgl] at X ⊢
  clear hgl
  obtain ⟨q1, q2, q3⟩ := A.out.all
  have t0 := tmod_even p
  have ST : Hid (Sim m (turnK m p row)) := Lib.hid (turnK_sim p SR.out)
  have T8 := Lib.hid ST.out.len
  have SM : Hid (Sims m (turnK m p row :: l.take n')) := Lib.hid (Sims.cons ST.out (fun x hx => HL.out x (List.mem_of_mem_take hx)))
  by_cases hk : p % 2 = 0
  ·have e1 : turnK m p row = row := by unfold turnK; rw [if_pos hk]
   rw [e1] at ST T8 SM HM
   have t1 : (p.tmod 2 != 0) = false := by rw [bne, t0, decide_eq_true hk]; rfl
   clear t0 hk e1
   go_upto_region 7 with fail
   have hz3 : w.heap.size + 1 + 1 + 1 ≤ W1.heap.size := by rw [zy.out]; exact Nat.le_refl _
   clear q1 q2 q3
   have RT : Hid (∀ W, Below W1.heap.size W1 W → ReadsA W (some ⟨ba, off, none⟩) n' (l.take n')) := Lib.hid fun W h => (HRR.out.below (below_go B.out h (by omega))).upto
   have KB : Hid (Below W1.heap.size W1 W1.drew) := Lib.hid (Below.refl W1.heap.size W1).drew
   have hgl0 : gl = w.heap.size + 1 + 1 := GLZ.out
   have hgz := Lib.hid hgl0
   clear hgl0
   have SH : Hid (∀ W, Below W1.heap.size W1 W → (W.cell? ⟨w.heap.size, 0, none⟩ = some (.int .i64 m) ∧ W.cell? ⟨w.heap.size, 1, none⟩ = some (.int .i64 p) ∧ W.cell? ⟨w.heap.size, 2, none⟩ = some (.slice (some ⟨ba, off, none⟩) (n' + 1) (c' + 1))) ∧ (W.cell? ⟨gl, 0, none⟩ = some (.int .u8 (at8 row 0)) ∧ W.cell? ⟨gl, 1, none⟩ = some (.int .u8 (at8 row 1)) ∧ W.cell? ⟨gl, 2, none⟩ = some (.int .u8 (at8 row 2)) ∧ W.cell? ⟨gl, 3, none⟩ = some (.int .u8 (at8 row 3)) ∧ W.cell? ⟨gl, 4, none⟩ = some (.int .u8 (at8 row 4)) ∧ W.cell? ⟨gl, 5, none⟩ = some (.int .u8 (at8 row 5)) ∧ W.cell? ⟨gl, 6, none⟩ = some (.int .u8 (at8 row 6)) ∧ W.cell? ⟨gl, 7, none⟩ = some (.int .u8 (at8 row 7)))) := Lib.hid fun W h => ⟨(A.out.below h).all, (X.out.below h).flat⟩
   have SZ : Hid (∀ W, Below W1.heap.size W1 W → ∀ u v x, ((((W.setCell ⟨w.heap.size + 1, 0, none⟩ u).setCell ⟨w.heap.size + 1, 1, none⟩ v).setCell ⟨w.heap.size + 1, 2, none⟩ x).cell? ⟨w.heap.size, 0, none⟩ = some (.int .i64 m) ∧ (((W.setCell ⟨w.heap.size + 1, 0, none⟩ u).setCell ⟨w.heap.size + 1, 1, none⟩ v).setCell ⟨w.heap.size + 1, 2, none⟩ x).cell? ⟨w.heap.size, 1, none⟩ = some (.int .i64 p) ∧ (((W.setCell ⟨w.heap.size + 1, 0, none⟩ u).setCell ⟨w.heap.size + 1, 1, none⟩ v).setCell ⟨w.heap.size + 1, 2, none⟩ x).cell? ⟨w.heap.size, 2, none⟩ = some (.slice (some ⟨ba, off, none⟩) (n' + 1) (c' + 1))) ∧ ((((W.setCell ⟨w.heap.size + 1, 0, none⟩ u).setCell ⟨w.heap.size + 1, 1, none⟩ v).setCell ⟨w.heap.size + 1, 2, none⟩ x).cell? ⟨gl, 0, none⟩ = some (.int .u8 (at8 row 0)) ∧ (((W.setCell ⟨w.heap.size + 1, 0, none⟩ u).setCell ⟨w.heap.size + 1, 1, none⟩ v).setCell ⟨w.heap.size + 1, 2, none⟩ x).cell? ⟨gl, 1, none⟩ = some (.int .u8 (at8 row 1)) ∧ (((W.setCell ⟨w.heap.size + 1, 0, none⟩ u).setCell ⟨w.heap.size + 1, 1, none⟩ v).setCell ⟨w.heap.size + 1, 2, none⟩ x).cell? ⟨gl, 2, none⟩ = some (.int .u8 (at8 row 2)) ∧ (((W.setCell ⟨w.heap.size + 1, 0, none⟩ u).setCell ⟨w.heap.size + 1, 1, none⟩ v).setCell ⟨w.heap.size + 1, 2, none⟩ x).cell? ⟨gl, 3, none⟩ = some (.int .u8 (at8 row 3)) ∧ (((W.setCell ⟨w.heap.size + 1, 0, none⟩ u).setCell ⟨w.heap.size + 1, 1, none⟩ v).setCell ⟨w.heap.size + 1, 2, none⟩ x).cell? ⟨gl, 4, none⟩ = some (.int .u8 (at8 row 4)) ∧ (((W.setCell ⟨w.heap.size + 1, 0, none⟩ u).setCell ⟨w.heap.size + 1, 1, none⟩ v).setCell ⟨w.heap.size + 1, 2, none⟩ x).cell? ⟨gl, 5, none⟩ = some (.int .u8 (at8 row 5)) ∧ (((W.setCell ⟨w.heap.size + 1, 0, none⟩ u).setCell ⟨w.heap.size + 1, 1, none⟩ v).setCell ⟨w.heap.size + 1, 2, none⟩ x).cell? ⟨gl, 6, none⟩ = some (.int .u8 (at8 row 6)) ∧ (((W.setCell ⟨w.heap.size + 1, 0, none⟩ u).setCell ⟨w.heap.size + 1, 1, none⟩ v).setCell ⟨w.heap.size + 1, 2, none⟩ x).cell? ⟨gl, 7, none⟩ = some (.int .u8 (at8 row 7)))) := Lib.hid fun W h u v x => ⟨((A.out.below h).set3 (g2 := w.heap.size + 1) (by omega) u v x).all, ((X.out.below h).set3 (g2 := w.heap.size + 1) (by have := hgz.out; omega) u v x).flat⟩
   refine wp_region_held_drew (S := (fun w' => (w'.cell? ⟨w.heap.size, 0, none⟩ = some (.int .i64 m) ∧ w'.cell? ⟨w.heap.size, 1, none⟩ = some (.int .i64 p) ∧ w'.cell? ⟨w.heap.size, 2, none⟩ = some (.slice (some ⟨ba, off, none⟩) (n' + 1) (c' + 1))) ∧ (w'.cell? ⟨gl, 0, none⟩ = some (.int .u8 (at8 row 0)) ∧ w'.cell? ⟨gl, 1, none⟩ = some (.int .u8 (at8 row 1)) ∧ w'.cell? ⟨gl, 2, none⟩ = some (.int .u8 (at8 row 2)) ∧ w'.cell? ⟨gl, 3, none⟩ = some (.int .u8 (at8 row 3)) ∧ w'.cell? ⟨gl, 4, none⟩ = some (.int .u8 (at8 row 4)) ∧ w'.cell? ⟨gl, 5, none⟩ = some (.int .u8 (at8 row 5)) ∧ w'.cell? ⟨gl, 6, none⟩ = some (.int .u8 (at8 row 6)) ∧ w'.cell? ⟨gl, 7, none⟩ = some (.int .u8 (at8 row 7))))) (by kernel_rfl) ?_ (fun hHeld => ?_)
   ·first | with_reducible exact SH.out _ KB.out | with_reducible exact SZ.out _ KB.out _ _ _
   refine wpAnyH_take (i := 0) (oi := { dst := some 25, op := Op.fieldAddr 28 (Operand.tmp 1) 0, type := 0, pos := "l04_conjugacy.go:46", after := #[], guard := none }) (v := ?_) rfl (by kernel_rfl) (by kernel_rfl) (by kernel_rfl) (fun _ _ _ h => h) (Or.inl ⟨by rfl, ?_⟩) (by assumption) ?_
   rotate_left
   ·intro w hSw
    (try dsimp only at hSw)
    go_simp
    try with_reducible rfl
   try simp only [Act.put, List.setIfInBounds_toArray, List.set_cons_zero, List.set_cons_succ]
   refine wpAnyH_take (i := 1) (oi := { dst := some 26, op := Op.load 2 (Operand.tmp 25), type := 2, pos := "l04_conjugacy.go:46", after := #[{ on := 0, ground := Ground.data }], guard := none }) (v := ?_) rfl (by kernel_rfl) (by kernel_rfl) (by kernel_rfl) (fun _ _ _ h => h) (Or.inl ⟨by rfl, ?_⟩) (by assumption) ?_
   rotate_left
   ·intro w hSw
    (try dsimp only at hSw)
    go_simp
    try with_reducible rfl
   try simp only [Act.put, List.setIfInBounds_toArray, List.set_cons_zero, List.set_cons_succ]
   refine wpAnyH_take (i := 2) (oi := { dst := some 27, op := Op.fieldAddr 28 (Operand.tmp 1) 1, type := 0, pos := "l04_conjugacy.go:46", after := #[], guard := none }) (v := ?_) rfl (by kernel_rfl) (by kernel_rfl) (by kernel_rfl) (fun _ _ _ h => h) (Or.inl ⟨by rfl, ?_⟩) (by assumption) ?_
   rotate_left
   ·intro w hSw
    (try dsimp only at hSw)
    go_simp
    try with_reducible rfl
   try simp only [Act.put, List.setIfInBounds_toArray, List.set_cons_zero, List.set_cons_succ]
   refine wpAnyH_take (i := 3) (oi := { dst := some 28, op := Op.load 2 (Operand.tmp 27), type := 2, pos := "l04_conjugacy.go:46", after := #[{ on := 2, ground := Ground.data }], guard := none }) (v := ?_) rfl (by kernel_rfl) (by kernel_rfl) (by kernel_rfl) (fun _ _ _ h => h) (Or.inl ⟨by rfl, ?_⟩) (by assumption) ?_
   rotate_left
   ·intro w hSw
    (try dsimp only at hSw)
    go_simp
    try with_reducible rfl
   try simp only [Act.put, List.setIfInBounds_toArray, List.set_cons_zero, List.set_cons_succ]
   refine wpAnyH_take (i := 4) (oi := { dst := some 29, op := Op.load 53 (Operand.tmp 4), type := 53, pos := "l04_conjugacy.go:46", after := #[], guard := none }) (v := ?_) rfl (by kernel_rfl) (by kernel_rfl) (by kernel_rfl) (fun _ _ _ h => h) (Or.inl ⟨by rfl, ?_⟩) (by assumption) ?_
   rotate_left
   ·intro w hSw
    (try dsimp only at hSw)
    go_simp
    try with_reducible rfl
   try simp only [Act.put, List.setIfInBounds_toArray, List.set_cons_zero, List.set_cons_succ]
   refine wpAnyH_take (i := 6) (oi := { dst := some 31, op := Op.fieldAddr 28 (Operand.tmp 1) 2, type := 0, pos := "l04_conjugacy.go:46", after := #[], guard := none }) (v := ?_) rfl (by kernel_rfl) (by kernel_rfl) (by kernel_rfl) (fun _ _ _ h => h) (Or.inl ⟨by rfl, ?_⟩) (by assumption) ?_
   rotate_left
   ·intro w hSw
    (try dsimp only at hSw)
    go_simp
    try with_reducible rfl
   try simp only [Act.put, List.setIfInBounds_toArray, List.set_cons_zero, List.set_cons_succ]
   refine wpAnyH_take (i := 7) (oi := { dst := some 32, op := Op.load 26 (Operand.tmp 31), type := 26, pos := "l04_conjugacy.go:46", after := #[{ on := 6, ground := Ground.data }], guard := none }) (v := ?_) rfl (by kernel_rfl) (by kernel_rfl) (by kernel_rfl) (fun _ _ _ h => h) (Or.inl ⟨by rfl, ?_⟩) (by assumption) ?_
   rotate_left
   ·intro w hSw
    (try dsimp only at hSw)
    go_simp
    try with_reducible rfl
   try simp only [Act.put, List.setIfInBounds_toArray, List.set_cons_zero, List.set_cons_succ]
   refine wpAnyH_take (i := 8) (oi := { dst := some 33, op := Op.move (Operand.tmp 3), type := 3, pos := "l04_conjugacy.go:46", after := #[], guard := none }) (v := ?_) rfl (by kernel_rfl) (by kernel_rfl) (by kernel_rfl) (fun _ _ _ h => h) (Or.inl ⟨by rfl, ?_⟩) (by assumption) ?_
   rotate_left
   ·intro w hSw
    (try dsimp only at hSw)
    go_simp
    try with_reducible rfl
   try simp only [Act.put, List.setIfInBounds_toArray, List.set_cons_zero, List.set_cons_succ]
   refine wpAnyH_take (i := 9) (oi := { dst := some 34, op := Op.binOp BinOp.sub 3 (Operand.tmp 33) (Operand.const (Value.int IntKind.i64 1)) 3, type := 3, pos := "l04_conjugacy.go:46", after := #[{ on := 8, ground := Ground.data }], guard := none }) (v := ?_) rfl (by kernel_rfl) (by kernel_rfl) (by kernel_rfl) (fun _ _ _ h => h) (Or.inl ⟨by rfl, ?_⟩) (by assumption) ?_
   rotate_left
   ·intro w hSw
    (try dsimp only at hSw)
    go_simp
    try with_reducible rfl
   try simp only [Act.put, List.setIfInBounds_toArray, List.set_cons_zero, List.set_cons_succ]
   refine wpAnyH_take (i := 10) (oi := { dst := some 35, op := Op.slice 26 (Operand.tmp 32) none (some (Operand.tmp 34)) none, type := 26, pos := "l04_conjugacy.go:46", after := #[{ on := 7, ground := Ground.data }, { on := 9, ground := Ground.data }], guard := none }) (v := ?_) rfl (by kernel_rfl) (by kernel_rfl) (by kernel_rfl) (fun _ _ _ h => h) (Or.inl ⟨by rfl, ?_⟩) (by assumption) ?_
   rotate_left
   ·intro w hSw
    (try dsimp only at hSw)
    go_simp
    try with_reducible rfl
   try simp only [Act.put, List.setIfInBounds_toArray, List.set_cons_zero, List.set_cons_succ]
   refine wpAnyH_ready (rs := [5]) (by kernel_rfl) (by simp) ?_
   refine AllReadyH.cons (o := { dst := some 30, op := Op.buildSlice 26 1 #[(0, Operand.tmp 29)], type := 26, pos := "l04_conjugacy.go:46", after := #[{ on := 4, ground := Ground.data }], guard := none }) rfl (fun K hK => ?_) ?_
   ·go_simp
    have O := Lib.hid (OwnAV.one W1 (row) T8.out).drew
    replace KB : Hid (Below W1.heap.size W1 (W1.alloc (.cells #[.int .u8 (at8 row 0), .int .u8 (at8 row 1), .int .u8 (at8 row 2), .int .u8 (at8 row 3), .int .u8 (at8 row 4), .int .u8 (at8 row 5), .int .u8 (at8 row 6), .int .u8 (at8 row 7)] 53)).drew) := Lib.hid (below1 W1 (.cells #[.int .u8 (at8 row 0), .int .u8 (at8 row 1), .int .u8 (at8 row 2), .int .u8 (at8 row 3), .int .u8 (at8 row 4), .int .u8 (at8 row 5), .int .u8 (at8 row 6), .int .u8 (at8 row 7)] 53)).drew
    obtain ⟨V4, hV4⟩ : ∃ Vx, Vx = (W1.alloc (.cells #[.int .u8 (at8 row 0), .int .u8 (at8 row 1), .int .u8 (at8 row 2), .int .u8 (at8 row 3), .int .u8 (at8 row 4), .int .u8 (at8 row 5), .int .u8 (at8 row 6), .int .u8 (at8 row 7)] 53)).drew := ⟨_, rfl⟩
    rw [← hV4] at O KB ⊢
    clear hV4
    refine hK.out _ _ ?_ (fun hHeld => ?_)
    ·first | with_reducible exact SH.out _ KB.out | with_reducible exact SZ.out _ KB.out _ _ _
    clear hK K
    try simp only [Act.put, List.setIfInBounds_toArray, List.set_cons_zero, List.set_cons_succ]
    refine wpAnyH_ready (rs := [11]) (by kernel_rfl) (by simp) ?_
    refine AllReadyH.cons (o := { dst := some 36, op := Op.call { callee := Callee.builtin Builtin.append, args := #[Operand.tmp 30, Operand.tmp 35], argTypes := #[26, 26] }, type := 26, pos := "l04_conjugacy.go:46", after := #[{ on := 5, ground := Ground.data }, { on := 10, ground := Ground.data }], guard := none }) rfl (fun K hK => ?_) ?_
    ·refine step_append_rows_at rfl _ _ 26 rfl W1.heap.size i0 Try.underlying26 hi hz0 hz1 hz2 _ _ _ rfl O.out _ _ _ (l.take n') rfl (RT.out _ KB.out) (by omega) KB.out.size ?_
     intro v' w5 ho' hg hv
     replace KB := Lib.hid (below_ownA KB.out KB.out.size (Nat.le_refl _) O.out hg)
     rw [List.singleton_append] at ho'
     obtain ⟨a5, c5, rfl, ho5⟩ := ho'.form
     have P := Lib.hid ho5
     clear ho' hg hv ho5
     refine hK.out _ _ ?_ (fun hHeld => ?_)
     ·first | with_reducible exact SH.out _ KB.out | with_reducible exact SZ.out _ KB.out _ _ _
     clear hK K
     try simp only [Act.put, List.setIfInBounds_toArray, List.set_cons_zero, List.set_cons_succ]
     refine wpAnyH_ready (rs := [12]) (by kernel_rfl) (by simp) ?_
     refine AllReadyH.cons (o := { dst := some 37, op := Op.call { callee := Callee.value (Operand.func 24), args := #[Operand.tmp 26, Operand.tmp 28, Operand.tmp 36], argTypes := #[2, 2, 26] }, type := 28, pos := "l04_conjugacy.go:46", after := #[{ on := 1, ground := Ground.data }, { on := 3, ground := Ground.data }, { on := 11, ground := Ground.data }, { on := 11, ground := Ground.chain }], guard := none }) rfl (fun K hK => ?_) ?_
     ·go_simp
      refine (l03Make_any m m1 m8 p (by omega) _ _ _ (row :: l.take n') _ P.out.reads SM.out (by omega) e kf HM.out).mono ?_
      rintro e8 w8 ⟨a8, n8, c8, rfl, ho, gg⟩
      have O8 := Lib.hid (ho.mono KB.out.size)
      have hc8 : n8 ≤ c8 := ho.cap_le
      replace KB := Lib.hid (below_go KB.out gg KB.out.size)
      clear ho gg
      obtain ⟨x0, ⟨x1, x2, x3⟩, y1, y2, y3⟩ := Z.out.below KB.out
      go_wp2_with fail
      refine hK.out _ _ ?_ (fun hHeld => ?_)
      ·first | with_reducible exact SH.out _ KB.out | with_reducible exact SZ.out _ KB.out _ _ _
      clear hK K
      try simp only [Act.put, List.setIfInBounds_toArray, List.set_cons_zero, List.set_cons_succ]
      refine wpAnyH_ready (rs := [13]) (by kernel_rfl) (by simp) ?_
      refine AllReadyH.cons (o := { dst := none, op := Op.store 28 (Operand.tmp 2) (Operand.tmp 37), type := 0, pos := "l04_conjugacy.go:46", after := #[{ on := 12, ground := Ground.data }, { on := 12, ground := Ground.chain }, { on := 0, ground := Ground.phase }, { on := 1, ground := Ground.phase }, { on := 2, ground := Ground.phase }, { on := 3, ground := Ground.phase }, { on := 4, ground := Ground.phase }, { on := 5, ground := Ground.phase }, { on := 6, ground := Ground.phase }, { on := 7, ground := Ground.phase }, { on := 8, ground := Ground.phase }, { on := 9, ground := Ground.phase }, { on := 10, ground := Ground.phase }, { on := 11, ground := Ground.phase }, { on := 12, ground := Ground.phase }], guard := none }) rfl (fun K hK => ?_) ?_
      ·go_simp
       refine hK.out _ _ ?_ (fun hHeld => ?_)
       ·first | with_reducible exact SH.out _ KB.out | with_reducible exact SZ.out _ KB.out _ _ _
       clear hK K
       try simp only [Act.put, List.setIfInBounds_toArray, List.set_cons_zero, List.set_cons_succ]
       refine wpAnyH_done (by kernel_rfl) ?_ _
       go_wp2_with fail
       try rw [Exit.noGoto_ret]
       obtain ⟨_, ⟨e1, e2, e3⟩, _⟩ := (Z.out.below KB.out).fill (.int .i64 m) (.int .i64 e) (.slice a8 n8 c8)
       exact bodyPost_ret (v := .agg #[.int .i64 m, .int .i64 e, .slice a8 n8 c8]) (by simp [results, Try.results40, go_sem, e1, e2, e3]) rfl ⟨a8, n8, c8, rfl, hc8, ((O8.out.set3 (by omega) _ _ _).mono (by omega)).toS, below_set3 (below_go B.out KB.out (by omega)) (by omega) _ _ _⟩
      exact AllReadyH.nil
     exact AllReadyH.nil
    exact AllReadyH.nil
   exact AllReadyH.nil
  ·have e1 : turnK m p row = turnR m row := by unfold turnK; rw [if_neg hk]
   rw [e1] at ST T8 SM HM
   have t1 : (p.tmod 2 != 0) = true := by rw [bne, t0, decide_eq_false hk]; rfl
   clear t0 hk e1
   obtain ⟨s0, s1, s2, s3, s4, s5, s6, s7⟩ := X.out.flat
   go_wp2_with fail
   refine (l02Turn_turnR m row SR.out _).mono ?_
   rintro e w3 ⟨rfl, gg⟩
   replace A := Lib.hid (A.out.below gg)
   replace Z := Lib.hid (Z.out.below gg)
   replace R := Lib.hid (R.out.below gg)
   replace X := Lib.hid (X.out.below gg)
   replace B := Lib.hid (below_go B.out gg B.out.size)
   have hz3 : w.heap.size + 1 + 1 + 1 ≤ w3.heap.size := by rw [← zy.out]; exact gg.size
   clear gg q1 q2 q3 s0 s1 s2 s3 s4 s5 s6 s7
   obtain ⟨⟨d0, d1, d2, d3⟩, d4, d5, d6, d7⟩ := X.out.all
   obtain ⟨⟨f0, f1, f2, f3⟩, f4, f5, f6, f7⟩ := X.out.frees
   replace A := Lib.hid (A.out.set8 (g2 := gl) (o := 0) (by have := GLZ.out; omega) (.int .u8 (at8 (turnR m row) 0)) (.int .u8 (at8 (turnR m row) 1)) (.int .u8 (at8 (turnR m row) 2)) (.int .u8 (at8 (turnR m row) 3)) (.int .u8 (at8 (turnR m row) 4)) (.int .u8 (at8 (turnR m row) 5)) (.int .u8 (at8 (turnR m row) 6)) (.int .u8 (at8 (turnR m row) 7)))
   replace Z := Lib.hid (Z.out.set8 (g2 := gl) (o := 0) (by have := GLZ.out; omega) (.int .u8 (at8 (turnR m row) 0)) (.int .u8 (at8 (turnR m row) 1)) (.int .u8 (at8 (turnR m row) 2)) (.int .u8 (at8 (turnR m row) 3)) (.int .u8 (at8 (turnR m row) 4)) (.int .u8 (at8 (turnR m row) 5)) (.int .u8 (at8 (turnR m row) 6)) (.int .u8 (at8 (turnR m row) 7)))
   replace X := Lib.hid (X.out.fill (turnR m row) T8.out)
   replace B := Lib.hid (below_fill8 B.out gl (by have := GLZ.out; omega) (.int .u8 (at8 (turnR m row) 0)) (.int .u8 (at8 (turnR m row) 1)) (.int .u8 (at8 (turnR m row) 2)) (.int .u8 (at8 (turnR m row) 3)) (.int .u8 (at8 (turnR m row) 4)) (.int .u8 (at8 (turnR m row) 5)) (.int .u8 (at8 (turnR m row) 6)) (.int .u8 (at8 (turnR m row) 7)))
   go_upto_region 7 with fail
   obtain ⟨V, hV⟩ : ∃ V, V = ((((((((w3.setCell ⟨gl, 0, none⟩ (.int .u8 (at8 (turnR m row) 0))).setCell ⟨gl, 1, none⟩ (.int .u8 (at8 (turnR m row) 1))).setCell ⟨gl, 2, none⟩ (.int .u8 (at8 (turnR m row) 2))).setCell ⟨gl, 3, none⟩ (.int .u8 (at8 (turnR m row) 3))).setCell ⟨gl, 4, none⟩ (.int .u8 (at8 (turnR m row) 4))).setCell ⟨gl, 5, none⟩ (.int .u8 (at8 (turnR m row) 5))).setCell ⟨gl, 6, none⟩ (.int .u8 (at8 (turnR m row) 6))).setCell ⟨gl, 7, none⟩ (.int .u8 (at8 (turnR m row) 7))) := ⟨_, rfl⟩
   have hzv : w.heap.size + 1 + 1 + 1 ≤ V.heap.size := by rw [hV]; simp [World.setCell]; omega
   rw [← hV] at A Z X B ⊢
   clear hV d0 d1 d2 d3 d4 d5 d6 d7 f0 f1 f2 f3 f4 f5 f6 f7 R
   have RT : Hid (∀ W, Below V.heap.size V W → ReadsA W (some ⟨ba, off, none⟩) n' (l.take n')) := Lib.hid fun W h => (HRR.out.below (below_go B.out h (by omega))).upto
   have KB : Hid (Below V.heap.size V V.drew) := Lib.hid (Below.refl V.heap.size V).drew
   have hgl0 : gl = w.heap.size + 1 + 1 := GLZ.out
   have hgz := Lib.hid hgl0
   clear hgl0
   have SH : Hid (∀ W, Below V.heap.size V W → (W.cell? ⟨w.heap.size, 0, none⟩ = some (.int .i64 m) ∧ W.cell? ⟨w.heap.size, 1, none⟩ = some (.int .i64 p) ∧ W.cell? ⟨w.heap.size, 2, none⟩ = some (.slice (some ⟨ba, off, none⟩) (n' + 1) (c' + 1))) ∧ (W.cell? ⟨gl, 0, none⟩ = some (.int .u8 (at8 (turnR m row) 0)) ∧ W.cell? ⟨gl, 1, none⟩ = some (.int .u8 (at8 (turnR m row) 1)) ∧ W.cell? ⟨gl, 2, none⟩ = some (.int .u8 (at8 (turnR m row) 2)) ∧ W.cell? ⟨gl, 3, none⟩ = some (.int .u8 (at8 (turnR m row) 3)) ∧ W.cell? ⟨gl, 4, none⟩ = some (.int .u8 (at8 (turnR m row) 4)) ∧ W.cell? ⟨gl, 5, none⟩ = some (.int .u8 (at8 (turnR m row) 5)) ∧ W.cell? ⟨gl, 6, none⟩ = some (.int .u8 (at8 (turnR m row) 6)) ∧ W.cell? ⟨gl, 7, none⟩ = some (.int .u8 (at8 (turnR m row) 7)))) := Lib.hid fun W h => ⟨(A.out.below h).all, (X.out.below h).flat⟩
   have SZ : Hid (∀ W, Below V.heap.size V W → ∀ u v x, ((((W.setCell ⟨w.heap.size + 1, 0, none⟩ u).setCell ⟨w.heap.size + 1, 1, none⟩ v).setCell ⟨w.heap.size + 1, 2, none⟩ x).cell? ⟨w.heap.size, 0, none⟩ = some (.int .i64 m) ∧ (((W.setCell ⟨w.heap.size + 1, 0, none⟩ u).setCell ⟨w.heap.size + 1, 1, none⟩ v).setCell ⟨w.heap.size + 1, 2, none⟩ x).cell? ⟨w.heap.size, 1, none⟩ = some (.int .i64 p) ∧ (((W.setCell ⟨w.heap.size + 1, 0, none⟩ u).setCell ⟨w.heap.size + 1, 1, none⟩ v).setCell ⟨w.heap.size + 1, 2, none⟩ x).cell? ⟨w.heap.size, 2, none⟩ = some (.slice (some ⟨ba, off, none⟩) (n' + 1) (c' + 1))) ∧ ((((W.setCell ⟨w.heap.size + 1, 0, none⟩ u).setCell ⟨w.heap.size + 1, 1, none⟩ v).setCell ⟨w.heap.size + 1, 2, none⟩ x).cell? ⟨gl, 0, none⟩ = some (.int .u8 (at8 (turnR m row) 0)) ∧ (((W.setCell ⟨w.heap.size + 1, 0, none⟩ u).setCell ⟨w.heap.size + 1, 1, none⟩ v).setCell ⟨w.heap.size + 1, 2, none⟩ x).cell? ⟨gl, 1, none⟩ = some (.int .u8 (at8 (turnR m row) 1)) ∧ (((W.setCell ⟨w.heap.size + 1, 0, none⟩ u).setCell ⟨w.heap.size + 1, 1, none⟩ v).setCell ⟨w.heap.size + 1, 2, none⟩ x).cell? ⟨gl, 2, none⟩ = some (.int .u8 (at8 (turnR m row) 2)) ∧ (((W.setCell ⟨w.heap.size + 1, 0, none⟩ u).setCell ⟨w.heap.size + 1, 1, none⟩ v).setCell ⟨w.heap.size + 1, 2, none⟩ x).cell? ⟨gl, 3, none⟩ = some (.int .u8 (at8 (turnR m row) 3)) ∧ (((W.setCell ⟨w.heap.size + 1, 0, none⟩ u).setCell ⟨w.heap.size + 1, 1, none⟩ v).setCell ⟨w.heap.size + 1, 2, none⟩ x).cell? ⟨gl, 4, none⟩ = some (.int .u8 (at8 (turnR m row) 4)) ∧ (((W.setCell ⟨w.heap.size + 1, 0, none⟩ u).setCell ⟨w.heap.size + 1, 1, none⟩ v).setCell ⟨w.heap.size + 1, 2, none⟩ x).cell? ⟨gl, 5, none⟩ = some (.int .u8 (at8 (turnR m row) 5)) ∧ (((W.setCell ⟨w.heap.size + 1, 0, none⟩ u).setCell ⟨w.heap.size + 1, 1, none⟩ v).setCell ⟨w.heap.size + 1, 2, none⟩ x).cell? ⟨gl, 6, none⟩ = some (.int .u8 (at8 (turnR m row) 6)) ∧ (((W.setCell ⟨w.heap.size + 1, 0, none⟩ u).setCell ⟨w.heap.size + 1, 1, none⟩ v).setCell ⟨w.heap.size + 1, 2, none⟩ x).cell? ⟨gl, 7, none⟩ = some (.int .u8 (at8 (turnR m row) 7)))) := Lib.hid fun W h u v x => ⟨((A.out.below h).set3 (g2 := w.heap.size + 1) (by omega) u v x).all, ((X.out.below h).set3 (g2 := w.heap.size + 1) (by have := hgz.out; omega) u v x).flat⟩
   refine wp_region_held_drew (S := (fun w' => (w'.cell? ⟨w.heap.size, 0, none⟩ = some (.int .i64 m) ∧ w'.cell? ⟨w.heap.size, 1, none⟩ = some (.int .i64 p) ∧ w'.cell? ⟨w.heap.size, 2, none⟩ = some (.slice (some ⟨ba, off, none⟩) (n' + 1) (c' + 1))) ∧ (w'.cell? ⟨gl, 0, none⟩ = some (.int .u8 (at8 (turnR m row) 0)) ∧ w'.cell? ⟨gl, 1, none⟩ = some (.int .u8 (at8 (turnR m row) 1)) ∧ w'.cell? ⟨gl, 2, none⟩ = some (.int .u8 (at8 (turnR m row) 2)) ∧ w'.cell? ⟨gl, 3, none⟩ = some (.int .u8 (at8 (turnR m row) 3)) ∧ w'.cell? ⟨gl, 4, none⟩ = some (.int .u8 (at8 (turnR m row) 4)) ∧ w'.cell? ⟨gl, 5, none⟩ = some (.int .u8 (at8 (turnR m row) 5)) ∧ w'.cell? ⟨gl, 6, none⟩ = some (.int .u8 (at8 (turnR m row) 6)) ∧ w'.cell? ⟨gl, 7, none⟩ = some (.int .u8 (at8 (turnR m row) 7))))) (by kernel_rfl) ?_ (fun hHeld => ?_)
   ·first | with_reducible exact SH.out _ KB.out | with_reducible exact SZ.out _ KB.out _ _ _
   refine wpAnyH_take (i := 0) (oi := { dst := some 25, op := Op.fieldAddr 28 (Operand.tmp 1) 0, type := 0, pos := "l04_conjugacy.go:46", after := #[], guard := none }) (v := ?_) rfl (by kernel_rfl) (by kernel_rfl) (by kernel_rfl) (fun _ _ _ h => h) (Or.inl ⟨by rfl, ?_⟩) (by assumption) ?_
   rotate_left
   ·intro w hSw
    (try dsimp only at hSw)
    go_simp
    try with_reducible rfl
   try simp only [Act.put, List.setIfInBounds_toArray, List.set_cons_zero, List.set_cons_succ]
   refine wpAnyH_take (i := 1) (oi := { dst := some 26, op := Op.load 2 (Operand.tmp 25), type := 2, pos := "l04_conjugacy.go:46", after := #[{ on := 0, ground := Ground.data }], guard := none }) (v := ?_) rfl (by kernel_rfl) (by kernel_rfl) (by kernel_rfl) (fun _ _ _ h => h) (Or.inl ⟨by rfl, ?_⟩) (by assumption) ?_
   rotate_left
   ·intro w hSw
    (try dsimp only at hSw)
    go_simp
    try with_reducible rfl
   try simp only [Act.put, List.setIfInBounds_toArray, List.set_cons_zero, List.set_cons_succ]
   refine wpAnyH_take (i := 2) (oi := { dst := some 27, op := Op.fieldAddr 28 (Operand.tmp 1) 1, type := 0, pos := "l04_conjugacy.go:46", after := #[], guard := none }) (v := ?_) rfl (by kernel_rfl) (by kernel_rfl) (by kernel_rfl) (fun _ _ _ h => h) (Or.inl ⟨by rfl, ?_⟩) (by assumption) ?_
   rotate_left
   ·intro w hSw
    (try dsimp only at hSw)
    go_simp
    try with_reducible rfl
   try simp only [Act.put, List.setIfInBounds_toArray, List.set_cons_zero, List.set_cons_succ]
   refine wpAnyH_take (i := 3) (oi := { dst := some 28, op := Op.load 2 (Operand.tmp 27), type := 2, pos := "l04_conjugacy.go:46", after := #[{ on := 2, ground := Ground.data }], guard := none }) (v := ?_) rfl (by kernel_rfl) (by kernel_rfl) (by kernel_rfl) (fun _ _ _ h => h) (Or.inl ⟨by rfl, ?_⟩) (by assumption) ?_
   rotate_left
   ·intro w hSw
    (try dsimp only at hSw)
    go_simp
    try with_reducible rfl
   try simp only [Act.put, List.setIfInBounds_toArray, List.set_cons_zero, List.set_cons_succ]
   refine wpAnyH_take (i := 4) (oi := { dst := some 29, op := Op.load 53 (Operand.tmp 4), type := 53, pos := "l04_conjugacy.go:46", after := #[], guard := none }) (v := ?_) rfl (by kernel_rfl) (by kernel_rfl) (by kernel_rfl) (fun _ _ _ h => h) (Or.inl ⟨by rfl, ?_⟩) (by assumption) ?_
   rotate_left
   ·intro w hSw
    (try dsimp only at hSw)
    go_simp
    try with_reducible rfl
   try simp only [Act.put, List.setIfInBounds_toArray, List.set_cons_zero, List.set_cons_succ]
   refine wpAnyH_take (i := 6) (oi := { dst := some 31, op := Op.fieldAddr 28 (Operand.tmp 1) 2, type := 0, pos := "l04_conjugacy.go:46", after := #[], guard := none }) (v := ?_) rfl (by kernel_rfl) (by kernel_rfl) (by kernel_rfl) (fun _ _ _ h => h) (Or.inl ⟨by rfl, ?_⟩) (by assumption) ?_
   rotate_left
   ·intro w hSw
    (try dsimp only at hSw)
    go_simp
    try with_reducible rfl
   try simp only [Act.put, List.setIfInBounds_toArray, List.set_cons_zero, List.set_cons_succ]
   refine wpAnyH_take (i := 7) (oi := { dst := some 32, op := Op.load 26 (Operand.tmp 31), type := 26, pos := "l04_conjugacy.go:46", after := #[{ on := 6, ground := Ground.data }], guard := none }) (v := ?_) rfl (by kernel_rfl) (by kernel_rfl) (by kernel_rfl) (fun _ _ _ h => h) (Or.inl ⟨by rfl, ?_⟩) (by assumption) ?_
   rotate_left
   ·intro w hSw
    (try dsimp only at hSw)
    go_simp
    try with_reducible rfl
   try simp only [Act.put, List.setIfInBounds_toArray, List.set_cons_zero, List.set_cons_succ]
   refine wpAnyH_take (i := 8) (oi := { dst := some 33, op := Op.move (Operand.tmp 3), type := 3, pos := "l04_conjugacy.go:46", after := #[], guard := none }) (v := ?_) rfl (by kernel_rfl) (by kernel_rfl) (by kernel_rfl) (fun _ _ _ h => h) (Or.inl ⟨by rfl, ?_⟩) (by assumption) ?_
   rotate_left
   ·intro w hSw
    (try dsimp only at hSw)
    go_simp
    try with_reducible rfl
   try simp only [Act.put, List.setIfInBounds_toArray, List.set_cons_zero, List.set_cons_succ]
   refine wpAnyH_take (i := 9) (oi := { dst := some 34, op := Op.binOp BinOp.sub 3 (Operand.tmp 33) (Operand.const (Value.int IntKind.i64 1)) 3, type := 3, pos := "l04_conjugacy.go:46", after := #[{ on := 8, ground := Ground.data }], guard := none }) (v := ?_) rfl (by kernel_rfl) (by kernel_rfl) (by kernel_rfl) (fun _ _ _ h => h) (Or.inl ⟨by rfl, ?_⟩) (by assumption) ?_
   rotate_left
   ·intro w hSw
    (try dsimp only at hSw)
    go_simp
    try with_reducible rfl
   try simp only [Act.put, List.setIfInBounds_toArray, List.set_cons_zero, List.set_cons_succ]
   refine wpAnyH_take (i := 10) (oi := { dst := some 35, op := Op.slice 26 (Operand.tmp 32) none (some (Operand.tmp 34)) none, type := 26, pos := "l04_conjugacy.go:46", after := #[{ on := 7, ground := Ground.data }, { on := 9, ground := Ground.data }], guard := none }) (v := ?_) rfl (by kernel_rfl) (by kernel_rfl) (by kernel_rfl) (fun _ _ _ h => h) (Or.inl ⟨by rfl, ?_⟩) (by assumption) ?_
   rotate_left
   ·intro w hSw
    (try dsimp only at hSw)
    go_simp
    try with_reducible rfl
   try simp only [Act.put, List.setIfInBounds_toArray, List.set_cons_zero, List.set_cons_succ]
   refine wpAnyH_ready (rs := [5]) (by kernel_rfl) (by simp) ?_
   refine AllReadyH.cons (o := { dst := some 30, op := Op.buildSlice 26 1 #[(0, Operand.tmp 29)], type := 26, pos := "l04_conjugacy.go:46", after := #[{ on := 4, ground := Ground.data }], guard := none }) rfl (fun K hK => ?_) ?_
   ·go_simp
    have O := Lib.hid (OwnAV.one V ((turnR m row)) T8.out).drew
    replace KB : Hid (Below V.heap.size V (V.alloc (.cells #[.int .u8 (at8 (turnR m row) 0), .int .u8 (at8 (turnR m row) 1), .int .u8 (at8 (turnR m row) 2), .int .u8 (at8 (turnR m row) 3), .int .u8 (at8 (turnR m row) 4), .int .u8 (at8 (turnR m row) 5), .int .u8 (at8 (turnR m row) 6), .int .u8 (at8 (turnR m row) 7)] 53)).drew) := Lib.hid (below1 V (.cells #[.int .u8 (at8 (turnR m row) 0), .int .u8 (at8 (turnR m row) 1), .int .u8 (at8 (turnR m row) 2), .int .u8 (at8 (turnR m row) 3), .int .u8 (at8 (turnR m row) 4), .int .u8 (at8 (turnR m row) 5), .int .u8 (at8 (turnR m row) 6), .int .u8 (at8 (turnR m row) 7)] 53)).drew
    obtain ⟨V4, hV4⟩ : ∃ Vx, Vx = (V.alloc (.cells #[.int .u8 (at8 (turnR m row) 0), .int .u8 (at8 (turnR m row) 1), .int .u8 (at8 (turnR m row) 2), .int .u8 (at8 (turnR m row) 3), .int .u8 (at8 (turnR m row) 4), .int .u8 (at8 (turnR m row) 5), .int .u8 (at8 (turnR m row) 6), .int .u8 (at8 (turnR m row) 7)] 53)).drew := ⟨_, rfl⟩
    rw [← hV4] at O KB ⊢
    clear hV4
    refine hK.out _ _ ?_ (fun hHeld => ?_)
    ·first | with_reducible exact SH.out _ KB.out | with_reducible exact SZ.out _ KB.out _ _ _
    clear hK K
    try simp only [Act.put, List.setIfInBounds_toArray, List.set_cons_zero, List.set_cons_succ]
    refine wpAnyH_ready (rs := [11]) (by kernel_rfl) (by simp) ?_
    refine AllReadyH.cons (o := { dst := some 36, op := Op.call { callee := Callee.builtin Builtin.append, args := #[Operand.tmp 30, Operand.tmp 35], argTypes := #[26, 26] }, type := 26, pos := "l04_conjugacy.go:46", after := #[{ on := 5, ground := Ground.data }, { on := 10, ground := Ground.data }], guard := none }) rfl (fun K hK => ?_) ?_
    ·refine step_append_rows_at rfl _ _ 26 rfl V.heap.size i0 Try.underlying26 hi hz0 hz1 hz2 _ _ _ rfl O.out _ _ _ (l.take n') rfl (RT.out _ KB.out) (by omega) KB.out.size ?_
     intro v' w5 ho' hg hv
     replace KB := Lib.hid (below_ownA KB.out KB.out.size (Nat.le_refl _) O.out hg)
     rw [List.singleton_append] at ho'
     obtain ⟨a5, c5, rfl, ho5⟩ := ho'.form
     have P := Lib.hid ho5
     clear ho' hg hv ho5
     refine hK.out _ _ ?_ (fun hHeld => ?_)
     ·first | with_reducible exact SH.out _ KB.out | with_reducible exact SZ.out _ KB.out _ _ _
     clear hK K
     try simp only [Act.put, List.setIfInBounds_toArray, List.set_cons_zero, List.set_cons_succ]
     refine wpAnyH_ready (rs := [12]) (by kernel_rfl) (by simp) ?_
     refine AllReadyH.cons (o := { dst := some 37, op := Op.call { callee := Callee.value (Operand.func 24), args := #[Operand.tmp 26, Operand.tmp 28, Operand.tmp 36], argTypes := #[2, 2, 26] }, type := 28, pos := "l04_conjugacy.go:46", after := #[{ on := 1, ground := Ground.data }, { on := 3, ground := Ground.data }, { on := 11, ground := Ground.data }, { on := 11, ground := Ground.chain }], guard := none }) rfl (fun K hK => ?_) ?_
     ·go_simp
      refine (l03Make_any m m1 m8 p (by omega) _ _ _ ((turnR m row) :: l.take n') _ P.out.reads SM.out (by omega) e kf HM.out).mono ?_
      rintro e8 w8 ⟨a8, n8, c8, rfl, ho, gg⟩
      have O8 := Lib.hid (ho.mono KB.out.size)
      have hc8 : n8 ≤ c8 := ho.cap_le
      replace KB := Lib.hid (below_go KB.out gg KB.out.size)
      clear ho gg
      obtain ⟨x0, ⟨x1, x2, x3⟩, y1, y2, y3⟩ := Z.out.below KB.out
      go_wp2_with fail
      refine hK.out _ _ ?_ (fun hHeld => ?_)
      ·first | with_reducible exact SH.out _ KB.out | with_reducible exact SZ.out _ KB.out _ _ _
      clear hK K
      try simp only [Act.put, List.setIfInBounds_toArray, List.set_cons_zero, List.set_cons_succ]
      refine wpAnyH_ready (rs := [13]) (by kernel_rfl) (by simp) ?_
      refine AllReadyH.cons (o := { dst := none, op := Op.store 28 (Operand.tmp 2) (Operand.tmp 37), type := 0, pos := "l04_conjugacy.go:46", after := #[{ on := 12, ground := Ground.data }, { on := 12, ground := Ground.chain }, { on := 0, ground := Ground.phase }, { on := 1, ground := Ground.phase }, { on := 2, ground := Ground.phase }, { on := 3, ground := Ground.phase }, { on := 4, ground := Ground.phase }, { on := 5, ground := Ground.phase }, { on := 6, ground := Ground.phase }, { on := 7, ground := Ground.phase }, { on := 8, ground := Ground.phase }, { on := 9, ground := Ground.phase }, { on := 10, ground := Ground.phase }, { on := 11, ground := Ground.phase }, { on := 12, ground := Ground.phase }], guard := none }) rfl (fun K hK => ?_) ?_
      ·go_simp
       refine hK.out _ _ ?_ (fun hHeld => ?_)
       ·first | with_reducible exact SH.out _ KB.out | with_reducible exact SZ.out _ KB.out _ _ _
       clear hK K
       try simp only [Act.put, List.setIfInBounds_toArray, List.set_cons_zero, List.set_cons_succ]
       refine wpAnyH_done (by kernel_rfl) ?_ _
       go_wp2_with fail
       try rw [Exit.noGoto_ret]
       obtain ⟨_, ⟨e1, e2, e3⟩, _⟩ := (Z.out.below KB.out).fill (.int .i64 m) (.int .i64 e) (.slice a8 n8 c8)
       exact bodyPost_ret (v := .agg #[.int .i64 m, .int .i64 e, .slice a8 n8 c8]) (by simp [results, Try.results40, go_sem, e1, e2, e3]) rfl ⟨a8, n8, c8, rfl, hc8, ((O8.out.set3 (by omega) _ _ _).mono (by omega)).toS, below_set3 (below_go B.out KB.out (by omega)) (by omega) _ _ _⟩
      exact AllReadyH.nil
     exact AllReadyH.nil
    exact AllReadyH.nil
   exact AllReadyH.nil

end Go.Proofs.Ytpkhddndapcpjaa

