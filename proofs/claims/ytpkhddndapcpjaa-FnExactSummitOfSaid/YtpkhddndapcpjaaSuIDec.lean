/- The program: decycling. -/
import Derived.Test.YtpkhddndapcpjaaSuIBeh
import Derived.Test.YtpkhddndapcpjaaSuDecP
namespace Go.Proofs.Ytpkhddndapcpjaa
open Go.RowKit Go.ChangeShapes

theorem ReadsA.upto {w : World} {b off n : Nat} {l : List (List Int)} (h : ReadsA w (some ⟨b, off, none⟩) (n + 1) l) : ReadsA w (some ⟨b, off, none⟩) n (l.take n) := by
 obtain ⟨h2, h1, h3⟩ := h
 refine ⟨by rw [List.length_take, h2]; omega, fun r hr => h1 r (List.mem_of_mem_take hr), ?_⟩
 rcases h3 with h3 | ⟨b2, o2, ha, hcl⟩
 ·omega
 ·cases ha
  exact .inr ⟨b, off, rfl, fun j hj i hi => by rw [hcl j (by omega) i hi, rowAt_take hj]⟩

set_option maxRecDepth 100000 in
set_option maxHeartbeats 600000 in
theorem lastPart_any (m : Nat) (p : Int) (a : Option Addr) (n cap : Nat) (l : List (List Int)) (w : World) (hr : ReadsA w a (n + 1) l) (hn : n ≤ 1000000) :
  Calls Try.prog 73 #[.agg #[.int .i64 m, .int .i64 p, .slice a (n + 1) cap]] w (RetArr .u8 w (rowAt l n)) := by
 obtain ⟨row, hrow⟩ : ∃ row, row = rowAt l n := ⟨_, rfl⟩
 have R8 : Hid (row.length = 8) := Lib.hid (by rw [hrow]; exact hr.rows.at (by rw [hr.len]; omega))
 obtain ⟨ba, off, rfl, hbl, hcl⟩ := hr.cells (by omega)
 have hC : Cells8 w ba (off + n * 8) row := by rw [hrow]; exact fun i hi => hcl n (by omega) i hi
 rw [← hrow]
 clear hrow hcl
 have HC := Lib.hid hC
 have hba : ba < w.heap.size := by exact hbl
 have hw1 : IntKind.i64.wrap ((((n + 1 : Nat) : Int)) - 1) = (n : Int) := by rw [show (((n + 1 : Nat) : Int)) - 1 = (n : Int) by omega]; exact IntWalk.i64_in _ (by omega)
 have hw1' : IntKind.i64.wrap ((n : Int) + 1 - 1) = (n : Int) := by rw [show (n : Int) + 1 - 1 = (n : Int) by omega]; exact IntWalk.i64_in _ (by omega)
 have hw4 : IntKind.i64.wrap (n : Int) = (n : Int) := IntWalk.i64_in _ (by omega)
 have hi1 : (n : Int) < ((n + 1 : Nat) : Int) := by omega
 have hi4 : (n : Int) < (n : Int) + 1 := by omega
 have hi2 : (0 : Int) ≤ (n : Int) := by omega
 have A := Lib.hid ((At3.place w (.int .i64 m) (.int .i64 p) (.slice (some ⟨ba, off, none⟩) (n + 1) cap) 28 w.heap.size rfl).alloc (.cells #[.int .u8 0, .int .u8 0, .int .u8 0, .int .u8 0, .int .u8 0, .int .u8 0, .int .u8 0, .int .u8 0] 53))
 have RZ := Lib.hid (Row8.zeros (w.alloc (.cells #[.int .i64 m, .int .i64 p, .slice (some ⟨ba, off, none⟩) (n + 1) cap] 28)) .u8 53 (w.heap.size + 1) (by simp))
 have B := Lib.hid (below2 w (.cells #[.int .i64 m, .int .i64 p, .slice (some ⟨ba, off, none⟩) (n + 1) cap] 28) (.cells #[.int .u8 0, .int .u8 0, .int .u8 0, .int .u8 0, .int .u8 0, .int .u8 0, .int .u8 0, .int .u8 0] 53))
 have HC2 : Hid (Cells8 ((w.alloc (.cells #[.int .i64 m, .int .i64 p, .slice (some ⟨ba, off, none⟩) (n + 1) cap] 28)).alloc (.cells #[.int .u8 0, .int .u8 0, .int .u8 0, .int .u8 0, .int .u8 0, .int .u8 0, .int .u8 0, .int .u8 0] 53)) ba (off + n * 8) row) := Lib.hid fun i hi => (B.out.cell hba).trans (HC.out i hi)
 go_enter Try.func73, Try.ntmps73
 go_upto_region 1 with fail
 obtain ⟨W0, hW0⟩ : ∃ W0, W0 = ((w.alloc (.cells #[.int .i64 m, .int .i64 p, .slice (some ⟨ba, off, none⟩) (n + 1) cap] 28)).alloc (.cells #[.int .u8 0, .int .u8 0, .int .u8 0, .int .u8 0, .int .u8 0, .int .u8 0, .int .u8 0, .int .u8 0] 53)) := ⟨_, rfl⟩
 rw [← hW0] at A RZ B HC2 ⊢
 clear hW0
 obtain ⟨q1, q2, q3⟩ := A.out.all
 obtain ⟨c0, c1, c2, c3, c4, c5, c6, c7⟩ := HC2.out.flat
 obtain ⟨⟨d0, d1, d2, d3⟩, d4, d5, d6, d7⟩ := RZ.out.all
 obtain ⟨⟨f0, f1, f2, f3⟩, f4, f5, f6, f7⟩ := RZ.out.frees
 go_wp2
 try rw [Exit.noGoto_ret]
 obtain ⟨⟨e0, e1, e2, e3⟩, e4, e5, e6, e7⟩ := (RZ.out.fill row R8.out).all
 refine bodyPost_ret (v := arr8 .u8 row) (by simp [results, Try.results73, go_sem, e0, e1, e2, e3, e4, e5, e6, e7]) rfl ⟨rfl, ?_⟩
 exact below_fill8 B.out _ (by omega) _ _ _ _ _ _ _ _

set_option maxRecDepth 100000 in
set_option maxHeartbeats 1000000 in
theorem decycled_any (m : Nat) (m1 : 1 ≤ m) (m8 : m ≤ 8) (p : Int) (hp : -100000 ≤ p ∧ p ≤ 100000) (a : Option Addr) (n cap : Nat) (hcap : n ≤ cap) (l : List (List Int)) (w : World) (hr : ReadsA w a n l) (hl : Nl m l) (hn : n ≤ 50000) (e : Int) (kf : List (List Int)) (hM : decN m p l = (e, kf)) :
  Calls Try.prog 52 #[.agg #[.int .i64 m, .int .i64 p, .slice a n cap]] w (RetNS w.heap.size w m e kf) := by
 have HN := Lib.hid hr.len
 have R := Lib.hid hr
 have HL := Lib.hid hl
 clear hr hl
 unfold decN at hM
 rw [HN.out] at hM
 go_enter Try.func52, Try.ntmps52
 have A := Lib.hid ((At3.place w (.int .i64 m) (.int .i64 p) (.slice a n cap) 28 w.heap.size rfl).alloc (.cells #[.int .i64 0, .int .i64 0, .slice none 0 0] 28))
 have Z := Lib.hid (At3.place (w.alloc (.cells #[.int .i64 m, .int .i64 p, .slice a n cap] 28)) (.int .i64 0) (.int .i64 0) (.slice none 0 0) 28 (w.heap.size + 1) (by simp))
 have B := Lib.hid ((below1 w (.cells #[.int .i64 m, .int .i64 p, .slice a n cap] 28)).alloc (by simp) (.cells #[.int .i64 0, .int .i64 0, .slice none 0 0] 28))
 replace R := Lib.hid ((R.out.alloc (.cells #[.int .i64 m, .int .i64 p, .slice a n cap] 28)).alloc (.cells #[.int .i64 0, .int .i64 0, .slice none 0 0] 28))
 have zz : Hid (((w.alloc (.cells #[.int .i64 m, .int .i64 p, .slice a n cap] 28)).alloc (.cells #[.int .i64 0, .int .i64 0, .slice none 0 0] 28)).heap.size = w.heap.size + 1 + 1) := Lib.hid (by simp)
 obtain ⟨q1, q2, q3⟩ := A.out.all
 by_cases h0 : n = 0
 ·subst h0
  rw [if_pos rfl] at hM
  obtain rfl : l = [] := List.eq_nil_of_length_eq_zero HN.out
  simp only [Prod.mk.injEq] at hM
  obtain ⟨rfl, rfl⟩ := hM
  go_wp2_with fail
  refine (copied_any m p a 0 cap [] _ R.out (by omega)).mono ?_
  rintro e w3 ⟨b, d, rfl, ho, gg⟩
  have hz3 : w.heap.size + 1 + 1 ≤ w3.heap.size := by rw [← zz.out]; exact gg.size
  replace Z := Lib.hid (Z.out.below gg)
  replace B := Lib.hid (below_go B.out gg B.out.size)
  clear gg q1 q2 q3
  obtain ⟨x0, ⟨x1, x2, x3⟩, y1, y2, y3⟩ := Z.out
  obtain ⟨_, ⟨e1, e2, e3⟩, _⟩ := Z.out.fill (.int .i64 m) (.int .i64 p) (.slice b 0 d)
  go_wp2
  try rw [Exit.noGoto_ret]
  exact bodyPost_ret (v := .agg #[.int .i64 m, .int .i64 p, .slice b 0 d]) (by simp [results, Try.results52, go_sem, e1, e2, e3]) rfl ⟨b, 0, d, rfl, Nat.zero_le _, OwnS.nil _ _ _, below_set3 B.out (by omega) _ _ _⟩
 ·have hz : ((n : Int) == 0) = false := by simpa using h0
  rw [if_neg h0] at hM
  go_upto_region 3 with fail
  obtain ⟨n', rfl⟩ : ∃ n', n = n' + 1 := ⟨n - 1, by omega⟩
  obtain ⟨c', rfl⟩ : ∃ c', cap = c' + 1 := ⟨cap - 1, by omega⟩
  clear q1 q2 q3
  obtain ⟨ba, off, rfl, hbl, hcl⟩ := R.out.cells (by omega)
  clear hbl hcl
  have hw1 : IntKind.i64.wrap ((((n' + 1 : Nat) : Int)) - 1) = (n' : Int) := by rw [show (((n' + 1 : Nat) : Int)) - 1 = (n' : Int) by omega]; exact IntWalk.i64_in _ (by omega)
  have hw1' : IntKind.i64.wrap ((n' : Int) + 1 - 1) = (n' : Int) := by rw [show (n' : Int) + 1 - 1 = (n' : Int) by omega]; exact IntWalk.i64_in _ (by omega)
  have hw4 : IntKind.i64.wrap (n' : Int) = (n' : Int) := IntWalk.i64_in _ (by omega)
  have hi1 : (n' : Int) ≤ ((c' + 1 : Nat) : Int) := by omega
  have hi2 : (n' : Int) ≤ (c' : Int) + 1 := by omega
  have hi3 : (0 : Int) ≤ (n' : Int) := by omega
  have m2 := nl_two m1 HL.out (j := 0) (by rw [HN.out]; omega)
  have HM : Hid (mkN m p (turnK m p (rowAt l n') :: l.take n') = (e, kf)) := Lib.hid (by simpa using hM)
  clear hM
  obtain ⟨W0, hW0⟩ : ∃ W0, W0 = ((w.alloc (.cells #[.int .i64 m, .int .i64 p, .slice (some ⟨ba, off, none⟩) (n' + 1) (c' + 1)] 28)).alloc (.cells #[.int .i64 0, .int .i64 0, .slice none 0 0] 28)) := ⟨_, rfl⟩
  rw [← hW0] at A Z B R zz ⊢
  clear hW0
  have RT : Hid (∀ W, Below W0.heap.size W0 W → ReadsA W (some ⟨ba, off, none⟩) n' (l.take n')) := Lib.hid fun W h => (R.out.below h).upto
  have KB : Hid (Below W0.heap.size W0 W0.drew) := Lib.hid (Below.refl W0.heap.size W0).drew
  have SH : Hid (∀ W, Below W0.heap.size W0 W → W.cell? ⟨w.heap.size, 0, none⟩ = some (.int .i64 m) ∧ W.cell? ⟨w.heap.size, 1, none⟩ = some (.int .i64 p) ∧ W.cell? ⟨w.heap.size, 2, none⟩ = some (.slice (some ⟨ba, off, none⟩) (n' + 1) (c' + 1))) := Lib.hid fun W h => (A.out.below h).all
  have SZ : Hid (∀ W, Below W0.heap.size W0 W → ∀ g, W0.heap.size ≤ g → ∀ u v x, (((W.setCell ⟨g, 0, none⟩ u).setCell ⟨g, 1, none⟩ v).setCell ⟨g, 2, none⟩ x).cell? ⟨w.heap.size, 0, none⟩ = some (.int .i64 m) ∧ (((W.setCell ⟨g, 0, none⟩ u).setCell ⟨g, 1, none⟩ v).setCell ⟨g, 2, none⟩ x).cell? ⟨w.heap.size, 1, none⟩ = some (.int .i64 p) ∧ (((W.setCell ⟨g, 0, none⟩ u).setCell ⟨g, 1, none⟩ v).setCell ⟨g, 2, none⟩ x).cell? ⟨w.heap.size, 2, none⟩ = some (.slice (some ⟨ba, off, none⟩) (n' + 1) (c' + 1))) := Lib.hid fun W h g hg u v x => ((A.out.below h).set3 (g2 := g) (by have := zz.out; omega) u v x).all
  refine wp_region_held_drew (S := (fun w' => w'.cell? ⟨w.heap.size, 0, none⟩ = some (.int .i64 m) ∧ w'.cell? ⟨w.heap.size, 1, none⟩ = some (.int .i64 p) ∧ w'.cell? ⟨w.heap.size, 2, none⟩ = some (.slice (some ⟨ba, off, none⟩) (n' + 1) (c' + 1)))) (by kernel_rfl) ?_ (fun hHeld => ?_)
  ·first | with_reducible exact SH.out _ KB.out | with_reducible exact SZ.out _ KB.out _ (Nat.le_refl _) _ _ _
  refine wpAnyH_take (i := 0) (oi := { dst := some 10, op := Op.fieldAddr 28 (Operand.tmp 1) 0, type := 0, pos := "l04_conjugacy.go:66", after := #[], guard := none }) (v := ?_) rfl (by kernel_rfl) (by kernel_rfl) (by kernel_rfl) (fun _ _ _ h => h) (Or.inl ⟨by rfl, ?_⟩) (by assumption) ?_
  rotate_left
  ·intro w hSw
   (try dsimp only at hSw)
   go_simp
   try with_reducible rfl
  try simp only [Act.put, List.setIfInBounds_toArray, List.set_cons_zero, List.set_cons_succ]
  refine wpAnyH_take (i := 1) (oi := { dst := some 11, op := Op.load 2 (Operand.tmp 10), type := 2, pos := "l04_conjugacy.go:66", after := #[{ on := 0, ground := Ground.data }], guard := none }) (v := ?_) rfl (by kernel_rfl) (by kernel_rfl) (by kernel_rfl) (fun _ _ _ h => h) (Or.inl ⟨by rfl, ?_⟩) (by assumption) ?_
  rotate_left
  ·intro w hSw
   (try dsimp only at hSw)
   go_simp
   try with_reducible rfl
  try simp only [Act.put, List.setIfInBounds_toArray, List.set_cons_zero, List.set_cons_succ]
  refine wpAnyH_take (i := 2) (oi := { dst := some 12, op := Op.fieldAddr 28 (Operand.tmp 1) 1, type := 0, pos := "l04_conjugacy.go:66", after := #[], guard := none }) (v := ?_) rfl (by kernel_rfl) (by kernel_rfl) (by kernel_rfl) (fun _ _ _ h => h) (Or.inl ⟨by rfl, ?_⟩) (by assumption) ?_
  rotate_left
  ·intro w hSw
   (try dsimp only at hSw)
   go_simp
   try with_reducible rfl
  try simp only [Act.put, List.setIfInBounds_toArray, List.set_cons_zero, List.set_cons_succ]
  refine wpAnyH_take (i := 3) (oi := { dst := some 13, op := Op.load 2 (Operand.tmp 12), type := 2, pos := "l04_conjugacy.go:66", after := #[{ on := 2, ground := Ground.data }], guard := none }) (v := ?_) rfl (by kernel_rfl) (by kernel_rfl) (by kernel_rfl) (fun _ _ _ h => h) (Or.inl ⟨by rfl, ?_⟩) (by assumption) ?_
  rotate_left
  ·intro w hSw
   (try dsimp only at hSw)
   go_simp
   try with_reducible rfl
  try simp only [Act.put, List.setIfInBounds_toArray, List.set_cons_zero, List.set_cons_succ]
  refine wpAnyH_take (i := 4) (oi := { dst := some 14, op := Op.fieldAddr 28 (Operand.tmp 1) 2, type := 0, pos := "l04_conjugacy.go:66", after := #[], guard := none }) (v := ?_) rfl (by kernel_rfl) (by kernel_rfl) (by kernel_rfl) (fun _ _ _ h => h) (Or.inl ⟨by rfl, ?_⟩) (by assumption) ?_
  rotate_left
  ·intro w hSw
   (try dsimp only at hSw)
   go_simp
   try with_reducible rfl
  try simp only [Act.put, List.setIfInBounds_toArray, List.set_cons_zero, List.set_cons_succ]
  refine wpAnyH_take (i := 5) (oi := { dst := some 15, op := Op.load 26 (Operand.tmp 14), type := 26, pos := "l04_conjugacy.go:66", after := #[{ on := 4, ground := Ground.data }], guard := none }) (v := ?_) rfl (by kernel_rfl) (by kernel_rfl) (by kernel_rfl) (fun _ _ _ h => h) (Or.inl ⟨by rfl, ?_⟩) (by assumption) ?_
  rotate_left
  ·intro w hSw
   (try dsimp only at hSw)
   go_simp
   try with_reducible rfl
  try simp only [Act.put, List.setIfInBounds_toArray, List.set_cons_zero, List.set_cons_succ]
  refine wpAnyH_take (i := 6) (oi := { dst := some 16, op := Op.fieldAddr 28 (Operand.tmp 1) 2, type := 0, pos := "l04_conjugacy.go:66", after := #[], guard := none }) (v := ?_) rfl (by kernel_rfl) (by kernel_rfl) (by kernel_rfl) (fun _ _ _ h => h) (Or.inl ⟨by rfl, ?_⟩) (by assumption) ?_
  rotate_left
  ·intro w hSw
   (try dsimp only at hSw)
   go_simp
   try with_reducible rfl
  try simp only [Act.put, List.setIfInBounds_toArray, List.set_cons_zero, List.set_cons_succ]
  refine wpAnyH_take (i := 7) (oi := { dst := some 17, op := Op.load 26 (Operand.tmp 16), type := 26, pos := "l04_conjugacy.go:66", after := #[{ on := 6, ground := Ground.data }], guard := none }) (v := ?_) rfl (by kernel_rfl) (by kernel_rfl) (by kernel_rfl) (fun _ _ _ h => h) (Or.inl ⟨by rfl, ?_⟩) (by assumption) ?_
  rotate_left
  ·intro w hSw
   (try dsimp only at hSw)
   go_simp
   try with_reducible rfl
  try simp only [Act.put, List.setIfInBounds_toArray, List.set_cons_zero, List.set_cons_succ]
  refine wpAnyH_take (i := 8) (oi := { dst := some 18, op := Op.call { callee := Callee.builtin Builtin.len, args := #[Operand.tmp 17], argTypes := #[26] }, type := 3, pos := "l04_conjugacy.go:66", after := #[{ on := 7, ground := Ground.data }], guard := none }) (v := ?_) rfl (by kernel_rfl) (by kernel_rfl) (by kernel_rfl) (fun _ _ _ h => h) (Or.inl ⟨by rfl, ?_⟩) (by assumption) ?_
  rotate_left
  ·intro w hSw
   (try dsimp only at hSw)
   go_simp
   try with_reducible rfl
  try simp only [Act.put, List.setIfInBounds_toArray, List.set_cons_zero, List.set_cons_succ]
  refine wpAnyH_take (i := 9) (oi := { dst := some 19, op := Op.binOp BinOp.sub 3 (Operand.tmp 18) (Operand.const (Value.int IntKind.i64 1)) 3, type := 3, pos := "l04_conjugacy.go:66", after := #[{ on := 8, ground := Ground.data }], guard := none }) (v := ?_) rfl (by kernel_rfl) (by kernel_rfl) (by kernel_rfl) (fun _ _ _ h => h) (Or.inl ⟨by rfl, ?_⟩) (by assumption) ?_
  rotate_left
  ·intro w hSw
   (try dsimp only at hSw)
   go_simp
   try with_reducible rfl
  try simp only [Act.put, List.setIfInBounds_toArray, List.set_cons_zero, List.set_cons_succ]
  refine wpAnyH_take (i := 10) (oi := { dst := some 20, op := Op.slice 26 (Operand.tmp 15) none (some (Operand.tmp 19)) none, type := 26, pos := "l04_conjugacy.go:66", after := #[{ on := 5, ground := Ground.data }, { on := 9, ground := Ground.data }], guard := none }) (v := ?_) rfl (by kernel_rfl) (by kernel_rfl) (by kernel_rfl) (fun _ _ _ h => h) (Or.inl ⟨by rfl, ?_⟩) (by assumption) ?_
  rotate_left
  ·intro w hSw
   (try dsimp only at hSw)
   go_simp
   try with_reducible rfl
  try simp only [Act.put, List.setIfInBounds_toArray, List.set_cons_zero, List.set_cons_succ]
  refine wpAnyH_take (i := 11) (oi := { dst := some 21, op := Op.build 28 #[(0, Operand.tmp 11), (1, Operand.tmp 13), (2, Operand.tmp 20)], type := 28, pos := "l04_conjugacy.go:66", after := #[{ on := 1, ground := Ground.data }, { on := 3, ground := Ground.data }, { on := 10, ground := Ground.data }], guard := none }) (v := ?_) rfl (by kernel_rfl) (by kernel_rfl) (by kernel_rfl) (fun _ _ _ h => h) (Or.inl ⟨by rfl, ?_⟩) (by assumption) ?_
  rotate_left
  ·intro w hSw
   (try dsimp only at hSw)
   go_simp
   try with_reducible rfl
  try simp only [Act.put, List.setIfInBounds_toArray, List.set_cons_zero, List.set_cons_succ]
  refine wpAnyH_ready (rs := [12]) (by kernel_rfl) (by simp) ?_
  refine AllReadyH.cons (o := { dst := some 3, op := Op.alloc 28, type := 0, pos := "l04_conjugacy.go:66", after := #[], guard := none }) rfl (fun K hK => ?_) ?_
  ·go_simp
   have ZR := Lib.hid ((At3.place W0 (.int .i64 0) (.int .i64 0) (.slice none 0 0) 28 W0.heap.size rfl).drew)
   replace KB : Hid (Below W0.heap.size W0 (W0.alloc (.cells #[.int .i64 0, .int .i64 0, .slice none 0 0] 28)).drew) := Lib.hid (below1 W0 (.cells #[.int .i64 0, .int .i64 0, .slice none 0 0] 28)).drew
   obtain ⟨V8, hV8⟩ : ∃ V, V = (W0.alloc (.cells #[.int .i64 0, .int .i64 0, .slice none 0 0] 28)).drew := ⟨_, rfl⟩
   rw [← hV8] at ZR KB ⊢
   clear hV8
   refine hK.out _ _ ?_ (fun hHeld => ?_)
   ·first | with_reducible exact SH.out _ KB.out | with_reducible exact SZ.out _ KB.out _ (Nat.le_refl _) _ _ _
   clear hK K
   try simp only [Act.put, List.setIfInBounds_toArray, List.set_cons_zero, List.set_cons_succ]
   refine wpAnyH_ready (rs := [13]) (by kernel_rfl) (by simp) ?_
   refine AllReadyH.cons (o := { dst := none, op := Op.store 28 (Operand.tmp 3) (Operand.tmp 21), type := 0, pos := "l04_conjugacy.go:66", after := #[{ on := 12, ground := Ground.data }, { on := 11, ground := Ground.data }, { on := 0, ground := Ground.phase }, { on := 1, ground := Ground.phase }, { on := 2, ground := Ground.phase }, { on := 3, ground := Ground.phase }, { on := 4, ground := Ground.phase }, { on := 5, ground := Ground.phase }, { on := 6, ground := Ground.phase }, { on := 7, ground := Ground.phase }, { on := 8, ground := Ground.phase }, { on := 9, ground := Ground.phase }, { on := 10, ground := Ground.phase }, { on := 11, ground := Ground.phase }, { on := 12, ground := Ground.phase }], guard := none }) rfl (fun K hK => ?_) ?_
   ·obtain ⟨x0, ⟨x1, x2, x3⟩, y1, y2, y3⟩ := ZR.out
    go_simp
    clear x0 x1 x2 x3 y1 y2 y3
    replace ZR := Lib.hid (ZR.out.fill (.int .i64 m) (.int .i64 p) (.slice (some ⟨ba, off, none⟩) n' (c' + 1)))
    replace KB := Lib.hid (below_set3 KB.out (Nat.le_refl _) (.int .i64 m) (.int .i64 p) (.slice (some ⟨ba, off, none⟩) n' (c' + 1)))
    obtain ⟨V9, hV9⟩ : ∃ V, V = (((V8.setCell ⟨W0.heap.size, 0, none⟩ (.int .i64 m)).setCell ⟨W0.heap.size, 1, none⟩ (.int .i64 p)).setCell ⟨W0.heap.size, 2, none⟩ (.slice (some ⟨ba, off, none⟩) n' (c' + 1))) := ⟨_, rfl⟩
    rw [← hV9] at ZR KB ⊢
    clear hV9
    refine hK.out _ _ ?_ (fun hHeld => ?_)
    ·first | with_reducible exact SH.out _ KB.out | with_reducible exact SZ.out _ KB.out _ (Nat.le_refl _) _ _ _
    clear hK K
    try simp only [Act.put, List.setIfInBounds_toArray, List.set_cons_zero, List.set_cons_succ]
    refine wpAnyH_done (by kernel_rfl) ?_ _
    go_upto_region 4 with fail
    clear SH SZ
    replace A := Lib.hid (A.out.below KB.out)
    replace Z := Lib.hid (Z.out.below KB.out)
    replace B := Lib.hid (below_go B.out KB.out (by have := zz.out; omega))
    replace R := Lib.hid (R.out.below KB.out)
    have RT9 := Lib.hid (RT.out _ KB.out)
    have hz9 : w.heap.size + 1 + 1 ≤ V9.heap.size := by rw [← zz.out]; exact KB.out.size
    have hzw : W0.heap.size = w.heap.size + 1 + 1 := zz.out
    have HZW := Lib.hid hzw
    clear hzw
    replace KB : Hid (Below V9.heap.size V9 V9.drew) := Lib.hid (Below.refl V9.heap.size V9).drew
    have SH : Hid (∀ W, Below V9.heap.size V9 W → (W.cell? ⟨w.heap.size, 0, none⟩ = some (.int .i64 m) ∧ W.cell? ⟨w.heap.size, 1, none⟩ = some (.int .i64 p) ∧ W.cell? ⟨w.heap.size, 2, none⟩ = some (.slice (some ⟨ba, off, none⟩) (n' + 1) (c' + 1))) ∧ (W.cell? ⟨W0.heap.size, 0, none⟩ = some (.int .i64 m) ∧ W.cell? ⟨W0.heap.size, 1, none⟩ = some (.int .i64 p) ∧ W.cell? ⟨W0.heap.size, 2, none⟩ = some (.slice (some ⟨ba, off, none⟩) n' (c' + 1)))) := Lib.hid fun W h => ⟨(A.out.below h).all, (ZR.out.below h).all⟩
    have SZ : Hid (∀ W, Below V9.heap.size V9 W → ∀ u v x, ((((W.setCell ⟨w.heap.size + 1, 0, none⟩ u).setCell ⟨w.heap.size + 1, 1, none⟩ v).setCell ⟨w.heap.size + 1, 2, none⟩ x).cell? ⟨w.heap.size, 0, none⟩ = some (.int .i64 m) ∧ (((W.setCell ⟨w.heap.size + 1, 0, none⟩ u).setCell ⟨w.heap.size + 1, 1, none⟩ v).setCell ⟨w.heap.size + 1, 2, none⟩ x).cell? ⟨w.heap.size, 1, none⟩ = some (.int .i64 p) ∧ (((W.setCell ⟨w.heap.size + 1, 0, none⟩ u).setCell ⟨w.heap.size + 1, 1, none⟩ v).setCell ⟨w.heap.size + 1, 2, none⟩ x).cell? ⟨w.heap.size, 2, none⟩ = some (.slice (some ⟨ba, off, none⟩) (n' + 1) (c' + 1))) ∧ ((((W.setCell ⟨w.heap.size + 1, 0, none⟩ u).setCell ⟨w.heap.size + 1, 1, none⟩ v).setCell ⟨w.heap.size + 1, 2, none⟩ x).cell? ⟨W0.heap.size, 0, none⟩ = some (.int .i64 m) ∧ (((W.setCell ⟨w.heap.size + 1, 0, none⟩ u).setCell ⟨w.heap.size + 1, 1, none⟩ v).setCell ⟨w.heap.size + 1, 2, none⟩ x).cell? ⟨W0.heap.size, 1, none⟩ = some (.int .i64 p) ∧ (((W.setCell ⟨w.heap.size + 1, 0, none⟩ u).setCell ⟨w.heap.size + 1, 1, none⟩ v).setCell ⟨w.heap.size + 1, 2, none⟩ x).cell? ⟨W0.heap.size, 2, none⟩ = some (.slice (some ⟨ba, off, none⟩) n' (c' + 1)))) := Lib.hid fun W h u v x => ⟨((A.out.below h).set3 (g2 := w.heap.size + 1) (by omega) u v x).all, ((ZR.out.below h).set3 (g2 := w.heap.size + 1) (by have := HZW.out; omega) u v x).all⟩
    refine wp_region_held_drew (S := (fun w' => (w'.cell? ⟨w.heap.size, 0, none⟩ = some (.int .i64 m) ∧ w'.cell? ⟨w.heap.size, 1, none⟩ = some (.int .i64 p) ∧ w'.cell? ⟨w.heap.size, 2, none⟩ = some (.slice (some ⟨ba, off, none⟩) (n' + 1) (c' + 1))) ∧ (w'.cell? ⟨W0.heap.size, 0, none⟩ = some (.int .i64 m) ∧ w'.cell? ⟨W0.heap.size, 1, none⟩ = some (.int .i64 p) ∧ w'.cell? ⟨W0.heap.size, 2, none⟩ = some (.slice (some ⟨ba, off, none⟩) n' (c' + 1))))) (by kernel_rfl) ?_ (fun hHeld => ?_)
    ·first | with_reducible exact SH.out _ KB.out | with_reducible exact SZ.out _ KB.out _ _ _
    refine wpAnyH_take (i := 0) (oi := { dst := some 22, op := Op.load 28 (Operand.tmp 3), type := 28, pos := "l04_conjugacy.go:67", after := #[], guard := none }) (v := ?_) rfl (by kernel_rfl) (by kernel_rfl) (by kernel_rfl) (fun _ _ _ h => h) (Or.inl ⟨by rfl, ?_⟩) (by assumption) ?_
    rotate_left
    ·intro w hSw
     (try dsimp only at hSw)
     go_simp
     try with_reducible rfl
    try simp only [Act.put, List.setIfInBounds_toArray, List.set_cons_zero, List.set_cons_succ]
    refine wpAnyH_take (i := 1) (oi := { dst := some 23, op := Op.load 28 (Operand.tmp 1), type := 28, pos := "l04_conjugacy.go:67", after := #[], guard := none }) (v := ?_) rfl (by kernel_rfl) (by kernel_rfl) (by kernel_rfl) (fun _ _ _ h => h) (Or.inl ⟨by rfl, ?_⟩) (by assumption) ?_
    rotate_left
    ·intro w hSw
     (try dsimp only at hSw)
     go_simp
     try with_reducible rfl
    try simp only [Act.put, List.setIfInBounds_toArray, List.set_cons_zero, List.set_cons_succ]
    refine wpAnyH_ready (rs := [2]) (by kernel_rfl) (by simp) ?_
    refine AllReadyH.cons (o := { dst := some 24, op := Op.call { callee := Callee.value (Operand.func 73), args := #[Operand.tmp 23], argTypes := #[28] }, type := 53, pos := "l04_conjugacy.go:67", after := #[{ on := 1, ground := Ground.data }], guard := none }) rfl (fun K hK => ?_) ?_
    ·go_simp
     refine (lastPart_any m p (some ⟨ba, off, none⟩) n' (c' + 1) l _ (R.out.below KB.out) (by omega)).mono ?_
     rintro e5 w5 ⟨rfl, gg⟩
     replace KB := Lib.hid (below_go KB.out gg KB.out.size)
     clear gg
     go_wp2_with fail
     refine hK.out _ _ ?_ (fun hHeld => ?_)
     ·first | with_reducible exact SH.out _ KB.out | with_reducible exact SZ.out _ KB.out _ _ _
     clear hK K
     try simp only [Act.put, List.setIfInBounds_toArray, List.set_cons_zero, List.set_cons_succ]
     refine wpAnyH_ready (rs := [3]) (by kernel_rfl) (by simp) ?_
     refine AllReadyH.cons (o := { dst := some 25, op := Op.call { callee := Callee.value (Operand.func 72), args := #[Operand.tmp 22, Operand.tmp 24], argTypes := #[28, 53] }, type := 28, pos := "l04_conjugacy.go:67", after := #[{ on := 0, ground := Ground.data }, { on := 2, ground := Ground.data }, { on := 2, ground := Ground.chain }], guard := none }) rfl (fun K hK => ?_) ?_
     ·go_simp
      refine (behindSimple_any m m2 m8 p (by omega) (some ⟨ba, off, none⟩) n' (c' + 1) (l.take n') (rowAt l n') _ (RT9.out.below KB.out) (HL.out.take n') (HL.out.sims _ (rowAt_getElem (by rw [HN.out]; omega))) (by omega) e kf HM.out).mono ?_
      rintro e6 w6 ⟨a6, n6, c6, rfl, hc6, ho, gg⟩
      have O6 := Lib.hid (ho.mono KB.out.size)
      replace KB := Lib.hid (below_go KB.out gg KB.out.size)
      clear gg ho
      obtain ⟨x0, ⟨x1, x2, x3⟩, y1, y2, y3⟩ := Z.out.below KB.out
      go_wp2_with fail
      refine hK.out _ _ ?_ (fun hHeld => ?_)
      ·first | with_reducible exact SH.out _ KB.out | with_reducible exact SZ.out _ KB.out _ _ _
      clear hK K
      try simp only [Act.put, List.setIfInBounds_toArray, List.set_cons_zero, List.set_cons_succ]
      refine wpAnyH_ready (rs := [4]) (by kernel_rfl) (by simp) ?_
      refine AllReadyH.cons (o := { dst := none, op := Op.store 28 (Operand.tmp 2) (Operand.tmp 25), type := 0, pos := "l04_conjugacy.go:67", after := #[{ on := 3, ground := Ground.data }, { on := 3, ground := Ground.chain }, { on := 0, ground := Ground.phase }, { on := 1, ground := Ground.phase }, { on := 2, ground := Ground.phase }, { on := 3, ground := Ground.phase }], guard := none }) rfl (fun K hK => ?_) ?_
      ·go_simp
       refine hK.out _ _ ?_ (fun hHeld => ?_)
       ·first | with_reducible exact SH.out _ KB.out | with_reducible exact SZ.out _ KB.out _ _ _
       clear hK K
       try simp only [Act.put, List.setIfInBounds_toArray, List.set_cons_zero, List.set_cons_succ]
       refine wpAnyH_done (by kernel_rfl) ?_ _
       go_wp2_with fail
       try rw [Exit.noGoto_ret]
       obtain ⟨_, ⟨e1, e2, e3⟩, _⟩ := (Z.out.below KB.out).fill (.int .i64 m) (.int .i64 e) (.slice a6 n6 c6)
       exact bodyPost_ret (v := .agg #[.int .i64 m, .int .i64 e, .slice a6 n6 c6]) (by simp [results, Try.results52, go_sem, e1, e2, e3]) rfl ⟨a6, n6, c6, rfl, hc6, (O6.out.set3 (by omega) _ _ _).mono (by omega), below_set3 (below_go B.out KB.out (by omega)) (by omega) _ _ _⟩
      exact AllReadyH.nil
     exact AllReadyH.nil
    exact AllReadyH.nil
   exact AllReadyH.nil
  exact AllReadyH.nil

end Go.Proofs.Ytpkhddndapcpjaa

