/- The fraction of a normal form: the program. -/
import Derived.Test.YthpmehhfhngnbaaFrSFra
import Derived.Test.YthpmehhfhngnbaaFrICyc
import Derived.Test.YthpmehhfhngnbaaFrIInv
namespace Go.Proofs.Ythpmehhfhngnbaa
open Go.RowKit Go.ChangeShapes

theorem ReadsA.first {w : World} {b off n : Nat} {l : List (List Int)} (h : ReadsA w (some ⟨b, off, none⟩) n l) (c : Nat) (hc : c ≤ n) : ReadsA w (some ⟨b, off, none⟩) c (l.take c) := by
 obtain ⟨h2, h1, h3⟩ := h
 refine ⟨by rw [List.length_take, h2]; omega, fun r hr => h1 r (List.mem_of_mem_take hr), ?_⟩
 rcases h3 with h3 | ⟨b2, o2, ha, hcl⟩
 ·exact .inl (by omega)
 ·cases ha
  exact .inr ⟨b, off, rfl, fun j hj i hi => by rw [hcl j (by omega) i hi, rowAt_take hj]⟩

theorem rowAt_drop (l : List (List Int)) (c j : Nat) : rowAt (l.drop c) j = rowAt l (c + j) := by simp [rowAt, List.getD]

theorem ReadsA.from {w : World} {b off n : Nat} {l : List (List Int)} (h : ReadsA w (some ⟨b, off, none⟩) n l) (c : Nat) (hc : c ≤ n) : ReadsA w (some ⟨b, off + c * 8, none⟩) (n - c) (l.drop c) := by
 obtain ⟨h2, h1, h3⟩ := h
 refine ⟨by rw [List.length_drop, h2], fun r hr => h1 r (List.mem_of_mem_drop hr), ?_⟩
 rcases h3 with h3 | ⟨b2, o2, ha, hcl⟩
 ·exact .inl (by omega)
 ·cases ha
  refine .inr ⟨b, off + c * 8, rfl, fun j hj i hi => ?_⟩
  have h4 := hcl (c + j) (by omega) i hi
  rw [show off + (c + j) * 8 + i = off + c * 8 + j * 8 + i by omega] at h4
  rw [h4, rowAt_drop]

theorem ReadsA.empty {w : World} {a : Option Addr} {n : Nat} {l : List (List Int)} (hn : n = 0) (hl : l.length = 0) : ReadsA w a n l := by
 subst hn
 obtain rfl := List.eq_nil_of_length_eq_zero hl
 exact ⟨rfl, fun r hr => by simp at hr, .inl rfl⟩

/-- What fraction hands back. -/
def RetFr (w : World) (m : Nat) (p : Int) (l : List (List Int)) (e : Ending) (w' : World) : Prop :=
 ∃ a1 n1 c1 a2 n2 c2 h, e = .returned (.tuple #[.agg #[.int .i64 m, .int .i64 ((negK p : Int) - (endF p l : Nat)), .slice a1 n1 c1], .agg #[.int .i64 m, .int .i64 (max p 0), .slice a2 n2 c2]]) ∧ w.heap.size ≤ h ∧
  OwnS h w' a1 n1 (fracA m (negK p) l (endF p l)) ∧ OwnSIn w.heap.size h w' a2 n2 (l.drop (endF p l)) ∧ Below w.heap.size w w'

set_option maxRecDepth 100000 in
set_option maxHeartbeats 8000000 in
theorem fraction_C (m : Nat) (c : Nat) (hc : c ≤ 200) (ba off : Nat) (n cap : Nat) (hcap : n ≤ cap) (hn : n ≤ 200) (h0 : 0 < c) (hkn : c < n) (l : List (List Int)) (w : World) (hr : ReadsA w (some ⟨ba, off, none⟩) n l) (hl : Sims m l) :
  Calls Try.prog 75 #[.agg #[.int .i64 m, .int .i64 (-(c : Int)), .slice (some ⟨ba, off, none⟩) n cap]] w (RetFr w m (-(c : Int)) l) := by
 have HL := Lib.hid hr.len
 have HS := Lib.hid hl
 have R := Lib.hid hr
 clear hr hl
 have hcc : c ≤ cap := by omega
 have HC : Hid (endF (-(c : Int)) l = c) := Lib.hid (by unfold endF negK; have := HL.out; omega)
 have HK : Hid ((negK (-(c : Int)) : Int) = -(-(c : Int))) := Lib.hid (by unfold negK; omega)
 have HX : Hid (max (-(c : Int)) 0 = 0) := Lib.hid (by omega)
 have A := Lib.hid (((At3.place w (.int .i64 m) (.int .i64 (-(c : Int))) (.slice (some ⟨ba, off, none⟩) n cap) 28 w.heap.size rfl).alloc (.cells #[.int .i64 0, .int .i64 0, .slice none 0 0] 28)).alloc (.cells #[.int .i64 0, .int .i64 0, .slice none 0 0] 28))
 have Z1 := Lib.hid ((At3.place (w.alloc (.cells #[.int .i64 m, .int .i64 (-(c : Int)), .slice (some ⟨ba, off, none⟩) n cap] 28)) (.int .i64 0) (.int .i64 0) (.slice none 0 0) 28 (w.heap.size + 1) (by simp)).alloc (.cells #[.int .i64 0, .int .i64 0, .slice none 0 0] 28))
 have Z2 := Lib.hid (At3.place ((w.alloc (.cells #[.int .i64 m, .int .i64 (-(c : Int)), .slice (some ⟨ba, off, none⟩) n cap] 28)).alloc (.cells #[.int .i64 0, .int .i64 0, .slice none 0 0] 28)) (.int .i64 0) (.int .i64 0) (.slice none 0 0) 28 (w.heap.size + 1 + 1) (by simp))
 have B := Lib.hid ((below2 w (.cells #[.int .i64 m, .int .i64 (-(c : Int)), .slice (some ⟨ba, off, none⟩) n cap] 28) (.cells #[.int .i64 0, .int .i64 0, .slice none 0 0] 28)).alloc (by simp; omega) (.cells #[.int .i64 0, .int .i64 0, .slice none 0 0] 28))
 obtain ⟨W0, hW0⟩ : ∃ W0, W0 = (((w.alloc (.cells #[.int .i64 m, .int .i64 (-(c : Int)), .slice (some ⟨ba, off, none⟩) n cap] 28)).alloc (.cells #[.int .i64 0, .int .i64 0, .slice none 0 0] 28)).alloc (.cells #[.int .i64 0, .int .i64 0, .slice none 0 0] 28)) := ⟨_, rfl⟩
 have hs0 : W0.heap.size = w.heap.size + 1 + 1 + 1 := by rw [hW0]; simp
 rw [← hW0] at A Z1 Z2 B
 have HW0 := Lib.hid hW0
 clear hW0
 have HS0 := Lib.hid hs0
 clear hs0
 go_enter Try.func75, Try.ntmps75
 go_upto_region 1 with fail
 rw [← HW0.out]
 obtain ⟨q1, q2, q3⟩ := A.out.all
 go_upto_region 2 with fail
 clear q1 q2 q3
 go_cut [5] from 15 to 25 (fun x5 wx => x5 = .pointer (some ⟨W0.heap.size, 0, none⟩) ∧ At3 wx W0.heap.size (.int .i64 m) (.int .i64 (-(c : Int))) (.slice (some ⟨ba, off, none⟩) c c) ∧ Below W0.heap.size W0 wx)
 case first =>
  have KB : Hid (Below W0.heap.size W0 W0.drew) := Lib.hid (Below.refl W0.heap.size W0).drew
  have SH : Hid (∀ X, Below W0.heap.size W0 X → X.cell? ⟨w.heap.size, 0, none⟩ = some (.int .i64 m) ∧ X.cell? ⟨w.heap.size, 1, none⟩ = some (.int .i64 (-(c : Int))) ∧ X.cell? ⟨w.heap.size, 2, none⟩ = some (.slice (some ⟨ba, off, none⟩) n cap)) := Lib.hid fun X h => (A.out.below h).all
  refine wp_region_held_drew (S := (fun w' => w'.cell? ⟨w.heap.size, 0, none⟩ = some (.int .i64 m) ∧ w'.cell? ⟨w.heap.size, 1, none⟩ = some (.int .i64 (-(c : Int))) ∧ w'.cell? ⟨w.heap.size, 2, none⟩ = some (.slice (some ⟨ba, off, none⟩) n cap))) (by kernel_rfl) ?_ (fun hHeld => ?_)
  ·with_reducible exact SH.out _ KB.out
  refine wpAnyH_take (i := 0) (oi := { dst := some 15, op := Op.fieldAddr 28 (Operand.tmp 1) 0, type := 0, pos := "l03_normal.go:123", after := #[], guard := none }) (v := ?_) rfl (by kernel_rfl) (by kernel_rfl) (by kernel_rfl) (fun _ _ _ h => h) (Or.inl ⟨by rfl, ?_⟩) (by assumption) ?_
  rotate_left
  ·intro w hSw
   (try dsimp only at hSw)
   go_simp
   try with_reducible rfl
  try simp only [Act.put, List.setIfInBounds_toArray, List.set_cons_zero, List.set_cons_succ]
  refine wpAnyH_take (i := 1) (oi := { dst := some 16, op := Op.load 2 (Operand.tmp 15), type := 2, pos := "l03_normal.go:123", after := #[{ on := 0, ground := Ground.data }], guard := none }) (v := ?_) rfl (by kernel_rfl) (by kernel_rfl) (by kernel_rfl) (fun _ _ _ h => h) (Or.inl ⟨by rfl, ?_⟩) (by assumption) ?_
  rotate_left
  ·intro w hSw
   (try dsimp only at hSw)
   go_simp
   try with_reducible rfl
  try simp only [Act.put, List.setIfInBounds_toArray, List.set_cons_zero, List.set_cons_succ]
  refine wpAnyH_take (i := 2) (oi := { dst := some 17, op := Op.fieldAddr 28 (Operand.tmp 1) 1, type := 0, pos := "l03_normal.go:123", after := #[], guard := none }) (v := ?_) rfl (by kernel_rfl) (by kernel_rfl) (by kernel_rfl) (fun _ _ _ h => h) (Or.inl ⟨by rfl, ?_⟩) (by assumption) ?_
  rotate_left
  ·intro w hSw
   (try dsimp only at hSw)
   go_simp
   try with_reducible rfl
  try simp only [Act.put, List.setIfInBounds_toArray, List.set_cons_zero, List.set_cons_succ]
  refine wpAnyH_take (i := 3) (oi := { dst := some 18, op := Op.load 2 (Operand.tmp 17), type := 2, pos := "l03_normal.go:123", after := #[{ on := 2, ground := Ground.data }], guard := none }) (v := ?_) rfl (by kernel_rfl) (by kernel_rfl) (by kernel_rfl) (fun _ _ _ h => h) (Or.inl ⟨by rfl, ?_⟩) (by assumption) ?_
  rotate_left
  ·intro w hSw
   (try dsimp only at hSw)
   go_simp
   try with_reducible rfl
  try simp only [Act.put, List.setIfInBounds_toArray, List.set_cons_zero, List.set_cons_succ]
  refine wpAnyH_take (i := 4) (oi := { dst := some 19, op := Op.call { callee := Callee.builtin Builtin.min, args := #[Operand.tmp 18, Operand.const (Value.int IntKind.i64 0)], argTypes := #[2, 2] }, type := 2, pos := "l03_normal.go:123", after := #[{ on := 3, ground := Ground.data }], guard := none }) (v := ?_) rfl (by kernel_rfl) (by kernel_rfl) (by kernel_rfl) (fun _ _ _ h => h) (Or.inl ⟨by rfl, ?_⟩) (by assumption) ?_
  rotate_left
  ·intro w hSw
   (try dsimp only at hSw)
   go_simp
   try with_reducible rfl
  try simp only [Act.put, List.setIfInBounds_toArray, List.set_cons_zero, List.set_cons_succ]
  refine wpAnyH_take (i := 5) (oi := { dst := some 20, op := Op.fieldAddr 28 (Operand.tmp 1) 2, type := 0, pos := "l03_normal.go:123", after := #[], guard := none }) (v := ?_) rfl (by kernel_rfl) (by kernel_rfl) (by kernel_rfl) (fun _ _ _ h => h) (Or.inl ⟨by rfl, ?_⟩) (by assumption) ?_
  rotate_left
  ·intro w hSw
   (try dsimp only at hSw)
   go_simp
   try with_reducible rfl
  try simp only [Act.put, List.setIfInBounds_toArray, List.set_cons_zero, List.set_cons_succ]
  refine wpAnyH_take (i := 6) (oi := { dst := some 21, op := Op.load 26 (Operand.tmp 20), type := 26, pos := "l03_normal.go:123", after := #[{ on := 5, ground := Ground.data }], guard := none }) (v := ?_) rfl (by kernel_rfl) (by kernel_rfl) (by kernel_rfl) (fun _ _ _ h => h) (Or.inl ⟨by rfl, ?_⟩) (by assumption) ?_
  rotate_left
  ·intro w hSw
   (try dsimp only at hSw)
   go_simp
   try with_reducible rfl
  try simp only [Act.put, List.setIfInBounds_toArray, List.set_cons_zero, List.set_cons_succ]
  refine wpAnyH_take (i := 7) (oi := { dst := some 22, op := Op.move (Operand.tmp 4), type := 3, pos := "l03_normal.go:123", after := #[], guard := none }) (v := ?_) rfl (by kernel_rfl) (by kernel_rfl) (by kernel_rfl) (fun _ _ _ h => h) (Or.inl ⟨by rfl, ?_⟩) (by assumption) ?_
  rotate_left
  ·intro w hSw
   (try dsimp only at hSw)
   go_simp
   try with_reducible rfl
  try simp only [Act.put, List.setIfInBounds_toArray, List.set_cons_zero, List.set_cons_succ]
  refine wpAnyH_take (i := 8) (oi := { dst := some 23, op := Op.move (Operand.tmp 4), type := 3, pos := "l03_normal.go:123", after := #[], guard := none }) (v := ?_) rfl (by kernel_rfl) (by kernel_rfl) (by kernel_rfl) (fun _ _ _ h => h) (Or.inl ⟨by rfl, ?_⟩) (by assumption) ?_
  rotate_left
  ·intro w hSw
   (try dsimp only at hSw)
   go_simp
   try with_reducible rfl
  try simp only [Act.put, List.setIfInBounds_toArray, List.set_cons_zero, List.set_cons_succ]
  refine wpAnyH_take (i := 9) (oi := { dst := some 24, op := Op.slice 26 (Operand.tmp 21) none (some (Operand.tmp 22)) (some (Operand.tmp 23)), type := 26, pos := "l03_normal.go:123", after := #[{ on := 6, ground := Ground.data }, { on := 7, ground := Ground.data }, { on := 8, ground := Ground.data }], guard := none }) (v := ?_) rfl (by kernel_rfl) (by kernel_rfl) (by kernel_rfl) (fun _ _ _ h => h) (Or.inl ⟨by rfl, ?_⟩) (by assumption) ?_
  rotate_left
  ·intro w hSw
   (try dsimp only at hSw)
   go_simp
   try with_reducible rfl
  try simp only [Act.put, List.setIfInBounds_toArray, List.set_cons_zero, List.set_cons_succ]
  refine wpAnyH_take (i := 10) (oi := { dst := some 25, op := Op.build 28 #[(0, Operand.tmp 16), (1, Operand.tmp 19), (2, Operand.tmp 24)], type := 28, pos := "l03_normal.go:123", after := #[{ on := 1, ground := Ground.data }, { on := 4, ground := Ground.data }, { on := 9, ground := Ground.data }], guard := none }) (v := ?_) rfl (by kernel_rfl) (by kernel_rfl) (by kernel_rfl) (fun _ _ _ h => h) (Or.inl ⟨by rfl, ?_⟩) (by assumption) ?_
  rotate_left
  ·intro w hSw
   (try dsimp only at hSw)
   go_simp
   try with_reducible rfl
  try simp only [Act.put, List.setIfInBounds_toArray, List.set_cons_zero, List.set_cons_succ]
  refine wpAnyH_ready (rs := [11]) (by kernel_rfl) (by simp) ?_
  refine AllReadyH.cons (o := { dst := some 5, op := Op.alloc 28, type := 0, pos := "l03_normal.go:123", after := #[], guard := none }) rfl (fun K hK => ?_) ?_
  ·go_simp
   have ZZ : Hid (At3 (W0.alloc (.cells #[.int .i64 0, .int .i64 0, .slice none 0 0] 28)).drew (W0.heap.size) (.int .i64 0) (.int .i64 0) (.slice none 0 0)) := Lib.hid ((At3.place W0 (.int .i64 0) (.int .i64 0) (.slice none 0 0) 28 (W0.heap.size) (by simp)).drew)
   replace KB : Hid (Below W0.heap.size W0 (W0.alloc (.cells #[.int .i64 0, .int .i64 0, .slice none 0 0] 28)).drew) := Lib.hid (KB.out.alloc KB.out.size (.cells #[.int .i64 0, .int .i64 0, .slice none 0 0] 28))
   refine hK.out _ _ ?_ (fun hHeld => ?_)
   ·with_reducible exact SH.out _ KB.out
   clear hK K
   try simp only [Act.put, List.setIfInBounds_toArray, List.set_cons_zero, List.set_cons_succ]
   refine wpAnyH_ready (rs := [12]) (by kernel_rfl) (by simp) ?_
   refine AllReadyH.cons (o := { dst := none, op := Op.store 28 (Operand.tmp 5) (Operand.tmp 25), type := 0, pos := "l03_normal.go:123", after := #[{ on := 11, ground := Ground.data }, { on := 10, ground := Ground.data }, { on := 0, ground := Ground.phase }, { on := 1, ground := Ground.phase }, { on := 2, ground := Ground.phase }, { on := 3, ground := Ground.phase }, { on := 4, ground := Ground.phase }, { on := 5, ground := Ground.phase }, { on := 6, ground := Ground.phase }, { on := 7, ground := Ground.phase }, { on := 8, ground := Ground.phase }, { on := 9, ground := Ground.phase }, { on := 10, ground := Ground.phase }, { on := 11, ground := Ground.phase }], guard := none }) rfl (fun K hK => ?_) ?_
   ·obtain ⟨z0, ⟨z1, z2, z3⟩, z4, z5, z6⟩ := ZZ.out
    go_simp
    clear z0 z1 z2 z3 z4 z5 z6 KB
    have KB : Hid (Below W0.heap.size W0 (W0.alloc (.cells #[.int .i64 m, .int .i64 (if (c : Int) < 0 then 0 else -(c : Int)), .slice (some ⟨ba, off, none⟩) c c] 28)).drew) := Lib.hid ((below1 W0 _).drew)
    refine hK.out _ _ ?_ (fun hHeld => ?_)
    ·with_reducible exact SH.out _ KB.out
    clear hK K
    try simp only [Act.put, List.setIfInBounds_toArray, List.set_cons_zero, List.set_cons_succ]
    refine wpAnyH_done (by kernel_rfl) ?_ _
    go_wp2_with fail
    go_meet
    exact ⟨rfl, (At3.place W0 _ _ _ 28 W0.heap.size rfl).drew, (below1 W0 _).drew⟩
   exact AllReadyH.nil
  exact AllReadyH.nil
 case rest =>
  obtain ⟨v1, hwc⟩ : ∃ x, x = wc := ⟨_, rfl⟩; subst hwc
  obtain ⟨rfl, hS, hb⟩ := hcut
  have S := Lib.hid hS
  have hv1 := S.out.1
  replace A := Lib.hid (A.out.below hb)
  replace Z1 := Lib.hid (Z1.out.below hb)
  replace Z2 := Lib.hid (Z2.out.below hb)
  replace B := Lib.hid (below_go B.out hb B.out.size)
  clear hS hb
  have HV1 := Lib.hid hv1
  clear hv1
  obtain ⟨q1, q2, q3⟩ := A.out.all
  go_wp2_with fail
  refine (clone_any (some ⟨ba, off + c * 8, none⟩) (n - c) (cap - c) (l.drop c) _ (((R.out.from c (by omega)).below B.out)) (by omega)).mono ?_
  rintro e v2 ⟨b2, d2, rfl, ho, hb⟩
  have QB : Hid (OwnSIn v1.heap.size v2.heap.size v2 b2 (n - c) (l.drop c)) := Lib.hid (by have := ho.within; simpa using this)
  replace A := Lib.hid (A.out.below hb)
  replace S := Lib.hid (S.out.below hb)
  replace Z1 := Lib.hid (Z1.out.below hb)
  replace Z2 := Lib.hid (Z2.out.below hb)
  have HV2 := Lib.hid hb.size
  replace B := Lib.hid (below_go B.out hb B.out.size)
  clear ho hb q1 q2 q3
  obtain ⟨q1, q2, q3⟩ := A.out.all
  go_upto_region 4 with fail
  clear q1 q2 q3
  have KB : Hid (Below v2.heap.size v2 v2.drew) := Lib.hid (Below.refl v2.heap.size v2).drew
  have SH : Hid (∀ X, Below v2.heap.size v2 X → (X.cell? ⟨w.heap.size, 0, none⟩ = some (.int .i64 m) ∧ X.cell? ⟨w.heap.size, 1, none⟩ = some (.int .i64 (-(c : Int))) ∧ X.cell? ⟨w.heap.size, 2, none⟩ = some (.slice (some ⟨ba, off, none⟩) n cap)) ∧ (X.cell? ⟨W0.heap.size, 0, none⟩ = some (.int .i64 m) ∧ X.cell? ⟨W0.heap.size, 1, none⟩ = some (.int .i64 (-(c : Int))) ∧ X.cell? ⟨W0.heap.size, 2, none⟩ = some (.slice (some ⟨ba, off, none⟩) c c))) := Lib.hid fun X h => ⟨(A.out.below h).cells, (S.out.below h).cells⟩
  obtain ⟨ip, hip⟩ : ∃ ip, ip = -((c : Nat) : Int) - (-(c : Int)) := ⟨_, rfl⟩
  have EV : Hid ((negK (-(c : Int)) : Int) - (endF (-(c : Int)) l : Nat) = ip) := Lib.hid (by rw [HK.out, HC.out, hip]; omega)
  refine wp_region_held_drew (S := (fun w' => (w'.cell? ⟨w.heap.size, 0, none⟩ = some (.int .i64 m) ∧ w'.cell? ⟨w.heap.size, 1, none⟩ = some (.int .i64 (-(c : Int))) ∧ w'.cell? ⟨w.heap.size, 2, none⟩ = some (.slice (some ⟨ba, off, none⟩) n cap)) ∧ (w'.cell? ⟨W0.heap.size, 0, none⟩ = some (.int .i64 m) ∧ w'.cell? ⟨W0.heap.size, 1, none⟩ = some (.int .i64 (-(c : Int))) ∧ w'.cell? ⟨W0.heap.size, 2, none⟩ = some (.slice (some ⟨ba, off, none⟩) c c)))) (by kernel_rfl) ?_ (fun hHeld => ?_)
  ·first | with_reducible exact SH.out _ KB.out | with_reducible exact ⟨A.out.cells, S.out.cells⟩
  refine wpAnyH_take (i := 0) (oi := { dst := some 31, op := Op.load 28 (Operand.tmp 5), type := 28, pos := "l03_normal.go:125", after := #[], guard := none }) (v := ?_) rfl (by kernel_rfl) (by kernel_rfl) (by kernel_rfl) (fun _ _ _ h => h) (Or.inl ⟨by rfl, ?_⟩) (by assumption) ?_
  rotate_left
  ·intro w hSw
   (try dsimp only at hSw)
   go_simp
   try with_reducible rfl
  try simp only [Act.put, List.setIfInBounds_toArray, List.set_cons_zero, List.set_cons_succ]
  refine wpAnyH_take (i := 2) (oi := { dst := some 33, op := Op.fieldAddr 28 (Operand.tmp 1) 0, type := 0, pos := "l03_normal.go:125", after := #[{ on := 9, ground := Ground.gcOnly Departure.lateStores }], guard := none }) (v := ?_) rfl (by kernel_rfl) (by kernel_rfl) (by kernel_rfl) (fun _ _ _ h => h) (Or.inl ⟨by rfl, ?_⟩) (by assumption) ?_
  rotate_left
  ·intro w hSw
   (try dsimp only at hSw)
   go_simp
   try with_reducible rfl
  try simp only [Act.put, List.setIfInBounds_toArray, List.set_cons_zero, List.set_cons_succ]
  refine wpAnyH_take (i := 3) (oi := { dst := some 34, op := Op.load 2 (Operand.tmp 33), type := 2, pos := "l03_normal.go:125", after := #[{ on := 2, ground := Ground.data }, { on := 9, ground := Ground.gcOnly Departure.lateStores }], guard := none }) (v := ?_) rfl (by kernel_rfl) (by kernel_rfl) (by kernel_rfl) (fun _ _ _ h => h) (Or.inl ⟨by rfl, ?_⟩) (by assumption) ?_
  rotate_left
  ·intro w hSw
   (try dsimp only at hSw)
   go_simp
   try with_reducible rfl
  try simp only [Act.put, List.setIfInBounds_toArray, List.set_cons_zero, List.set_cons_succ]
  refine wpAnyH_take (i := 4) (oi := { dst := some 35, op := Op.fieldAddr 28 (Operand.tmp 1) 1, type := 0, pos := "l03_normal.go:125", after := #[], guard := none }) (v := ?_) rfl (by kernel_rfl) (by kernel_rfl) (by kernel_rfl) (fun _ _ _ h => h) (Or.inl ⟨by rfl, ?_⟩) (by assumption) ?_
  rotate_left
  ·intro w hSw
   (try dsimp only at hSw)
   go_simp
   try with_reducible rfl
  try simp only [Act.put, List.setIfInBounds_toArray, List.set_cons_zero, List.set_cons_succ]
  refine wpAnyH_take (i := 5) (oi := { dst := some 36, op := Op.load 2 (Operand.tmp 35), type := 2, pos := "l03_normal.go:125", after := #[{ on := 4, ground := Ground.data }], guard := none }) (v := ?_) rfl (by kernel_rfl) (by kernel_rfl) (by kernel_rfl) (fun _ _ _ h => h) (Or.inl ⟨by rfl, ?_⟩) (by assumption) ?_
  rotate_left
  ·intro w hSw
   (try dsimp only at hSw)
   go_simp
   try with_reducible rfl
  try simp only [Act.put, List.setIfInBounds_toArray, List.set_cons_zero, List.set_cons_succ]
  refine wpAnyH_take (i := 6) (oi := { dst := some 37, op := Op.call { callee := Callee.builtin Builtin.max, args := #[Operand.tmp 36, Operand.const (Value.int IntKind.i64 0)], argTypes := #[2, 2] }, type := 2, pos := "l03_normal.go:125", after := #[{ on := 5, ground := Ground.data }], guard := none }) (v := ?_) rfl (by kernel_rfl) (by kernel_rfl) (by kernel_rfl) (fun _ _ _ h => h) (Or.inl ⟨by rfl, ?_⟩) (by assumption) ?_
  rotate_left
  ·intro w hSw
   (try dsimp only at hSw)
   go_simp
   try with_reducible rfl
  try simp only [Act.put, List.setIfInBounds_toArray, List.set_cons_zero, List.set_cons_succ]
  refine wpAnyH_take (i := 7) (oi := { dst := some 38, op := Op.move (Operand.tmp 6), type := 26, pos := "l03_normal.go:125", after := #[{ on := 9, ground := Ground.gcOnly Departure.lateStores }], guard := none }) (v := ?_) rfl (by kernel_rfl) (by kernel_rfl) (by kernel_rfl) (fun _ _ _ h => h) (Or.inl ⟨by rfl, ?_⟩) (by assumption) ?_
  rotate_left
  ·intro w hSw
   (try dsimp only at hSw)
   go_simp
   try with_reducible rfl
  try simp only [Act.put, List.setIfInBounds_toArray, List.set_cons_zero, List.set_cons_succ]
  refine wpAnyH_take (i := 8) (oi := { dst := some 39, op := Op.build 28 #[(0, Operand.tmp 34), (1, Operand.tmp 37), (2, Operand.tmp 38)], type := 28, pos := "l03_normal.go:125", after := #[{ on := 3, ground := Ground.data }, { on := 6, ground := Ground.data }, { on := 7, ground := Ground.data }, { on := 9, ground := Ground.gcOnly Departure.lateStores }], guard := none }) (v := ?_) rfl (by kernel_rfl) (by kernel_rfl) (by kernel_rfl) (fun _ _ _ h => h) (Or.inl ⟨by rfl, ?_⟩) (by assumption) ?_
  rotate_left
  ·intro w hSw
   (try dsimp only at hSw)
   go_simp
   try with_reducible rfl
  try simp only [Act.put, List.setIfInBounds_toArray, List.set_cons_zero, List.set_cons_succ]
  refine wpAnyH_ready (rs := [1]) (by kernel_rfl) (by simp) ?_
  refine AllReadyH.cons (o := { dst := some 32, op := Op.call { callee := Callee.value (Operand.func 73), args := #[Operand.tmp 31], argTypes := #[28] }, type := 28, pos := "l03_normal.go:125", after := #[{ on := 0, ground := Ground.data }], guard := none }) rfl (fun K hK => ?_) ?_
  ·go_simp
   have hinv := fun W (hW : Below v2.heap.size v2 W) => inverse_any m (-(c : Int)) (by omega) (some ⟨ba, off, none⟩) c c (l.take c) W ((R.out.first c (by omega)).below (B.out.trans (hW.mono B.out.size))) (fun x hx => HS.out x (List.mem_of_mem_take hx)) (by omega)
   rw [← hip] at hinv
   clear hip
   refine (hinv _ KB.out).mono ?_
   rintro e v3 ⟨b1, n1, c1, rfl, ho, gg⟩
   have QA : Hid (OwnS v2.heap.size v3 b1 n1 (turns m (-(c : Int)) (invL m (l.take c)))) := Lib.hid (ho.toS.mono KB.out.size)
   replace KB := Lib.hid (below_go KB.out gg KB.out.size)
   have QB2 : Hid (OwnSIn v1.heap.size v2.heap.size v3 b2 (n - c) (l.drop c)) := Lib.hid ⟨QB.out.1.below KB.out, QB.out.2⟩
   replace A := Lib.hid (A.out.below KB.out)
   replace S := Lib.hid (S.out.below KB.out)
   replace Z1 := Lib.hid (Z1.out.below KB.out)
   replace Z2 := Lib.hid (Z2.out.below KB.out)
   replace B := Lib.hid (B.out.trans (KB.out.mono B.out.size))
   clear ho gg hinv
   go_wp2_with fail
   refine hK.out _ _ ?_ (fun hHeld => ?_)
   ·first | with_reducible exact SH.out _ KB.out | with_reducible exact ⟨A.out.cells, S.out.cells⟩
   clear hK K
   try simp only [Act.put, List.setIfInBounds_toArray, List.set_cons_zero, List.set_cons_succ]
   refine wpAnyH_ready (rs := [9]) (by kernel_rfl) (by simp) ?_
   refine AllReadyH.cons (o := { dst := none, op := Op.store 28 (Operand.tmp 2) (Operand.tmp 32), type := 0, pos := "l03_normal.go:125", after := #[{ on := 1, ground := Ground.data }, { on := 1, ground := Ground.chain }, { on := 0, ground := Ground.phase }, { on := 1, ground := Ground.phase }, { on := 2, ground := Ground.textOnly Departure.lateStores }, { on := 3, ground := Ground.textOnly Departure.lateStores }, { on := 4, ground := Ground.textOnly Departure.lateStores }, { on := 5, ground := Ground.textOnly Departure.lateStores }, { on := 6, ground := Ground.textOnly Departure.lateStoresUnsure }, { on := 7, ground := Ground.textOnly Departure.lateStores }, { on := 8, ground := Ground.textOnly Departure.lateStores }], guard := none }) rfl (fun K hK => ?_) ?_
   ·obtain ⟨z0, ⟨z1, z2, z3⟩, z4, z5, z6⟩ := Z1.out
    go_simp
    clear z0 z1 z2 z3 z4 z5 z6
    have hs0 := HS0.out
    have hv1 := HV1.out
    have hv2 := HV2.out
    have hk3 := KB.out.size
    replace A := Lib.hid (A.out.set3 (g2 := w.heap.size + 1) (by omega) (.int .i64 m) (.int .i64 ip) (.slice b1 n1 c1))
    replace S := Lib.hid (S.out.set3 (g2 := w.heap.size + 1) (by omega) (.int .i64 m) (.int .i64 ip) (.slice b1 n1 c1))
    replace Z1 := Lib.hid (Z1.out.fill (.int .i64 m) (.int .i64 ip) (.slice b1 n1 c1))
    replace Z2 := Lib.hid (Z2.out.set3 (g2 := w.heap.size + 1) (by omega) (.int .i64 m) (.int .i64 ip) (.slice b1 n1 c1))
    replace QA := Lib.hid (QA.out.set3 (g2 := w.heap.size + 1) (by omega) (.int .i64 m) (.int .i64 ip) (.slice b1 n1 c1))
    replace QB2 : Hid (OwnSIn v1.heap.size v2.heap.size _ b2 (n - c) (l.drop c)) := Lib.hid ⟨QB2.out.1.set3 (g2 := w.heap.size + 1) (by omega) (.int .i64 m) (.int .i64 ip) (.slice b1 n1 c1), QB2.out.2⟩
    replace B := Lib.hid (below_set3 (g2 := w.heap.size + 1) B.out (by omega) (.int .i64 m) (.int .i64 ip) (.slice b1 n1 c1))
    clear hs0 hv1 hv2 hk3
    obtain ⟨U8, hU8⟩ : ∃ U, U = (((v3.setCell ⟨w.heap.size + 1, 0, none⟩ (.int .i64 m)).setCell ⟨w.heap.size + 1, 1, none⟩ (.int .i64 ip)).setCell ⟨w.heap.size + 1, 2, none⟩ (.slice b1 n1 c1)) := ⟨_, rfl⟩
    rw [← hU8] at A S Z1 Z2 QA QB2 B ⊢
    clear hU8
    refine hK.out _ _ ?_ (fun hHeld => ?_)
    ·first | with_reducible exact SH.out _ KB.out | with_reducible exact ⟨A.out.cells, S.out.cells⟩
    clear hK K
    try simp only [Act.put, List.setIfInBounds_toArray, List.set_cons_zero, List.set_cons_succ]
    refine wpAnyH_ready (rs := [10]) (by kernel_rfl) (by simp) ?_
    refine AllReadyH.cons (o := { dst := none, op := Op.store 28 (Operand.tmp 3) (Operand.tmp 39), type := 0, pos := "l03_normal.go:125", after := #[{ on := 8, ground := Ground.data }, { on := 9, ground := Ground.chain }, { on := 0, ground := Ground.phase }, { on := 1, ground := Ground.phase }, { on := 2, ground := Ground.phase }, { on := 3, ground := Ground.phase }, { on := 4, ground := Ground.phase }, { on := 5, ground := Ground.phase }, { on := 6, ground := Ground.phase }, { on := 7, ground := Ground.phase }, { on := 8, ground := Ground.phase }, { on := 9, ground := Ground.phase }], guard := none }) rfl (fun K hK => ?_) ?_
    ·obtain ⟨z0, ⟨z1, z2, z3⟩, z4, z5, z6⟩ := Z2.out
     go_simp
     clear z0 z1 z2 z3 z4 z5 z6
     have hs0 := HS0.out
     have hv1 := HV1.out
     have hv2 := HV2.out
     have hk3 := KB.out.size
     replace A := Lib.hid (A.out.set3 (g2 := w.heap.size + 1 + 1) (by omega) (.int .i64 m) (.int .i64 0) (.slice b2 (n - c) d2))
     replace S := Lib.hid (S.out.set3 (g2 := w.heap.size + 1 + 1) (by omega) (.int .i64 m) (.int .i64 0) (.slice b2 (n - c) d2))
     replace Z1 := Lib.hid (Z1.out.set3 (g2 := w.heap.size + 1 + 1) (by omega) (.int .i64 m) (.int .i64 0) (.slice b2 (n - c) d2))
     replace Z2 := Lib.hid (Z2.out.fill (.int .i64 m) (.int .i64 0) (.slice b2 (n - c) d2))
     replace QA := Lib.hid (QA.out.set3 (g2 := w.heap.size + 1 + 1) (by omega) (.int .i64 m) (.int .i64 0) (.slice b2 (n - c) d2))
     replace QB2 : Hid (OwnSIn v1.heap.size v2.heap.size _ b2 (n - c) (l.drop c)) := Lib.hid ⟨QB2.out.1.set3 (g2 := w.heap.size + 1 + 1) (by omega) (.int .i64 m) (.int .i64 0) (.slice b2 (n - c) d2), QB2.out.2⟩
     replace B := Lib.hid (below_set3 (g2 := w.heap.size + 1 + 1) B.out (by omega) (.int .i64 m) (.int .i64 0) (.slice b2 (n - c) d2))
     clear hs0 hv1 hv2 hk3
     obtain ⟨U9, hU9⟩ : ∃ U, U = (((U8.setCell ⟨w.heap.size + 1 + 1, 0, none⟩ (.int .i64 m)).setCell ⟨w.heap.size + 1 + 1, 1, none⟩ (.int .i64 0)).setCell ⟨w.heap.size + 1 + 1, 2, none⟩ (.slice b2 (n - c) d2)) := ⟨_, rfl⟩
     rw [← hU9] at A S Z1 Z2 QA QB2 B ⊢
     clear hU9
     refine hK.out _ _ ?_ (fun hHeld => ?_)
     ·first | with_reducible exact SH.out _ KB.out | with_reducible exact ⟨A.out.cells, S.out.cells⟩
     clear hK K
     try simp only [Act.put, List.setIfInBounds_toArray, List.set_cons_zero, List.set_cons_succ]
     refine wpAnyH_done (by kernel_rfl) ?_ _
     go_wp2
     try rw [Exit.noGoto_ret]
     obtain ⟨e1, e2, e3⟩ := Z1.out.cells
     obtain ⟨f1, f2, f3⟩ := Z2.out.cells
     have hs0 := HS0.out
     have hv1 := HV1.out
     have hv2 := HV2.out
     exact bodyPost_ret (v := .tuple #[.agg #[(.int .i64 m), (.int .i64 ip), (.slice b1 n1 c1)], .agg #[(.int .i64 m), (.int .i64 0), (.slice b2 (n - c) d2)]]) (by simp [results, Try.results75, go_sem, e1, e2, e3, f1, f2, f3]) rfl ⟨b1, n1, c1, b2, (n - c), d2, v2.heap.size, by first | rw [EV.out, HX.out] | (rw [EV.out]; simp), by omega, by rw [HC.out]; unfold fracA; rw [HK.out, Int.neg_neg]; exact QA.out, by rw [HC.out]; exact ⟨QB2.out.1.mono (by omega), QB2.out.2⟩, B.out⟩
    exact AllReadyH.nil
   exact AllReadyH.nil
  exact AllReadyH.nil

set_option maxRecDepth 100000 in
set_option maxHeartbeats 8000000 in
theorem fraction_B1 (m : Nat) (c : Nat) (hc : c ≤ 200) (ba off : Nat) (n : Nat) (h0 : 0 < c) (hkn : n ≤ c) (l : List (List Int)) (w : World) (hr : ReadsA w (some ⟨ba, off, none⟩) n l) (hl : Sims m l) :
  Calls Try.prog 75 #[.agg #[.int .i64 m, .int .i64 (-(c : Int)), .slice (some ⟨ba, off, none⟩) n n]] w (RetFr w m (-(c : Int)) l) := by
 have HL := Lib.hid hr.len
 have HS := Lib.hid hl
 have R := Lib.hid hr
 clear hr hl
 have hcc : n ≤ n := by omega
 have HC : Hid (endF (-(c : Int)) l = n) := Lib.hid (by unfold endF negK; have := HL.out; omega)
 have HK : Hid ((negK (-(c : Int)) : Int) = -(-(c : Int))) := Lib.hid (by unfold negK; omega)
 have HX : Hid (max (-(c : Int)) 0 = 0) := Lib.hid (by omega)
 have A := Lib.hid (((At3.place w (.int .i64 m) (.int .i64 (-(c : Int))) (.slice (some ⟨ba, off, none⟩) n n) 28 w.heap.size rfl).alloc (.cells #[.int .i64 0, .int .i64 0, .slice none 0 0] 28)).alloc (.cells #[.int .i64 0, .int .i64 0, .slice none 0 0] 28))
 have Z1 := Lib.hid ((At3.place (w.alloc (.cells #[.int .i64 m, .int .i64 (-(c : Int)), .slice (some ⟨ba, off, none⟩) n n] 28)) (.int .i64 0) (.int .i64 0) (.slice none 0 0) 28 (w.heap.size + 1) (by simp)).alloc (.cells #[.int .i64 0, .int .i64 0, .slice none 0 0] 28))
 have Z2 := Lib.hid (At3.place ((w.alloc (.cells #[.int .i64 m, .int .i64 (-(c : Int)), .slice (some ⟨ba, off, none⟩) n n] 28)).alloc (.cells #[.int .i64 0, .int .i64 0, .slice none 0 0] 28)) (.int .i64 0) (.int .i64 0) (.slice none 0 0) 28 (w.heap.size + 1 + 1) (by simp))
 have B := Lib.hid ((below2 w (.cells #[.int .i64 m, .int .i64 (-(c : Int)), .slice (some ⟨ba, off, none⟩) n n] 28) (.cells #[.int .i64 0, .int .i64 0, .slice none 0 0] 28)).alloc (by simp; omega) (.cells #[.int .i64 0, .int .i64 0, .slice none 0 0] 28))
 obtain ⟨W0, hW0⟩ : ∃ W0, W0 = (((w.alloc (.cells #[.int .i64 m, .int .i64 (-(c : Int)), .slice (some ⟨ba, off, none⟩) n n] 28)).alloc (.cells #[.int .i64 0, .int .i64 0, .slice none 0 0] 28)).alloc (.cells #[.int .i64 0, .int .i64 0, .slice none 0 0] 28)) := ⟨_, rfl⟩
 have hs0 : W0.heap.size = w.heap.size + 1 + 1 + 1 := by rw [hW0]; simp
 rw [← hW0] at A Z1 Z2 B
 have HW0 := Lib.hid hW0
 clear hW0
 have HS0 := Lib.hid hs0
 clear hs0
 go_enter Try.func75, Try.ntmps75
 go_upto_region 1 with fail
 rw [← HW0.out]
 obtain ⟨q1, q2, q3⟩ := A.out.all
 go_upto_region 2 with fail
 clear q1 q2 q3
 go_cut [5] from 15 to 25 (fun x5 wx => x5 = .pointer (some ⟨W0.heap.size, 0, none⟩) ∧ At3 wx W0.heap.size (.int .i64 m) (.int .i64 (-(c : Int))) (.slice (some ⟨ba, off, none⟩) n n) ∧ Below W0.heap.size W0 wx)
 case first =>
  have KB : Hid (Below W0.heap.size W0 W0.drew) := Lib.hid (Below.refl W0.heap.size W0).drew
  have SH : Hid (∀ X, Below W0.heap.size W0 X → X.cell? ⟨w.heap.size, 0, none⟩ = some (.int .i64 m) ∧ X.cell? ⟨w.heap.size, 1, none⟩ = some (.int .i64 (-(c : Int))) ∧ X.cell? ⟨w.heap.size, 2, none⟩ = some (.slice (some ⟨ba, off, none⟩) n n)) := Lib.hid fun X h => (A.out.below h).all
  refine wp_region_held_drew (S := (fun w' => w'.cell? ⟨w.heap.size, 0, none⟩ = some (.int .i64 m) ∧ w'.cell? ⟨w.heap.size, 1, none⟩ = some (.int .i64 (-(c : Int))) ∧ w'.cell? ⟨w.heap.size, 2, none⟩ = some (.slice (some ⟨ba, off, none⟩) n n))) (by kernel_rfl) ?_ (fun hHeld => ?_)
  ·with_reducible exact SH.out _ KB.out
  refine wpAnyH_take (i := 0) (oi := { dst := some 15, op := Op.fieldAddr 28 (Operand.tmp 1) 0, type := 0, pos := "l03_normal.go:123", after := #[], guard := none }) (v := ?_) rfl (by kernel_rfl) (by kernel_rfl) (by kernel_rfl) (fun _ _ _ h => h) (Or.inl ⟨by rfl, ?_⟩) (by assumption) ?_
  rotate_left
  ·intro w hSw
   (try dsimp only at hSw)
   go_simp
   try with_reducible rfl
  try simp only [Act.put, List.setIfInBounds_toArray, List.set_cons_zero, List.set_cons_succ]
  refine wpAnyH_take (i := 1) (oi := { dst := some 16, op := Op.load 2 (Operand.tmp 15), type := 2, pos := "l03_normal.go:123", after := #[{ on := 0, ground := Ground.data }], guard := none }) (v := ?_) rfl (by kernel_rfl) (by kernel_rfl) (by kernel_rfl) (fun _ _ _ h => h) (Or.inl ⟨by rfl, ?_⟩) (by assumption) ?_
  rotate_left
  ·intro w hSw
   (try dsimp only at hSw)
   go_simp
   try with_reducible rfl
  try simp only [Act.put, List.setIfInBounds_toArray, List.set_cons_zero, List.set_cons_succ]
  refine wpAnyH_take (i := 2) (oi := { dst := some 17, op := Op.fieldAddr 28 (Operand.tmp 1) 1, type := 0, pos := "l03_normal.go:123", after := #[], guard := none }) (v := ?_) rfl (by kernel_rfl) (by kernel_rfl) (by kernel_rfl) (fun _ _ _ h => h) (Or.inl ⟨by rfl, ?_⟩) (by assumption) ?_
  rotate_left
  ·intro w hSw
   (try dsimp only at hSw)
   go_simp
   try with_reducible rfl
  try simp only [Act.put, List.setIfInBounds_toArray, List.set_cons_zero, List.set_cons_succ]
  refine wpAnyH_take (i := 3) (oi := { dst := some 18, op := Op.load 2 (Operand.tmp 17), type := 2, pos := "l03_normal.go:123", after := #[{ on := 2, ground := Ground.data }], guard := none }) (v := ?_) rfl (by kernel_rfl) (by kernel_rfl) (by kernel_rfl) (fun _ _ _ h => h) (Or.inl ⟨by rfl, ?_⟩) (by assumption) ?_
  rotate_left
  ·intro w hSw
   (try dsimp only at hSw)
   go_simp
   try with_reducible rfl
  try simp only [Act.put, List.setIfInBounds_toArray, List.set_cons_zero, List.set_cons_succ]
  refine wpAnyH_take (i := 4) (oi := { dst := some 19, op := Op.call { callee := Callee.builtin Builtin.min, args := #[Operand.tmp 18, Operand.const (Value.int IntKind.i64 0)], argTypes := #[2, 2] }, type := 2, pos := "l03_normal.go:123", after := #[{ on := 3, ground := Ground.data }], guard := none }) (v := ?_) rfl (by kernel_rfl) (by kernel_rfl) (by kernel_rfl) (fun _ _ _ h => h) (Or.inl ⟨by rfl, ?_⟩) (by assumption) ?_
  rotate_left
  ·intro w hSw
   (try dsimp only at hSw)
   go_simp
   try with_reducible rfl
  try simp only [Act.put, List.setIfInBounds_toArray, List.set_cons_zero, List.set_cons_succ]
  refine wpAnyH_take (i := 5) (oi := { dst := some 20, op := Op.fieldAddr 28 (Operand.tmp 1) 2, type := 0, pos := "l03_normal.go:123", after := #[], guard := none }) (v := ?_) rfl (by kernel_rfl) (by kernel_rfl) (by kernel_rfl) (fun _ _ _ h => h) (Or.inl ⟨by rfl, ?_⟩) (by assumption) ?_
  rotate_left
  ·intro w hSw
   (try dsimp only at hSw)
   go_simp
   try with_reducible rfl
  try simp only [Act.put, List.setIfInBounds_toArray, List.set_cons_zero, List.set_cons_succ]
  refine wpAnyH_take (i := 6) (oi := { dst := some 21, op := Op.load 26 (Operand.tmp 20), type := 26, pos := "l03_normal.go:123", after := #[{ on := 5, ground := Ground.data }], guard := none }) (v := ?_) rfl (by kernel_rfl) (by kernel_rfl) (by kernel_rfl) (fun _ _ _ h => h) (Or.inl ⟨by rfl, ?_⟩) (by assumption) ?_
  rotate_left
  ·intro w hSw
   (try dsimp only at hSw)
   go_simp
   try with_reducible rfl
  try simp only [Act.put, List.setIfInBounds_toArray, List.set_cons_zero, List.set_cons_succ]
  refine wpAnyH_take (i := 7) (oi := { dst := some 22, op := Op.move (Operand.tmp 4), type := 3, pos := "l03_normal.go:123", after := #[], guard := none }) (v := ?_) rfl (by kernel_rfl) (by kernel_rfl) (by kernel_rfl) (fun _ _ _ h => h) (Or.inl ⟨by rfl, ?_⟩) (by assumption) ?_
  rotate_left
  ·intro w hSw
   (try dsimp only at hSw)
   go_simp
   try with_reducible rfl
  try simp only [Act.put, List.setIfInBounds_toArray, List.set_cons_zero, List.set_cons_succ]
  refine wpAnyH_take (i := 8) (oi := { dst := some 23, op := Op.move (Operand.tmp 4), type := 3, pos := "l03_normal.go:123", after := #[], guard := none }) (v := ?_) rfl (by kernel_rfl) (by kernel_rfl) (by kernel_rfl) (fun _ _ _ h => h) (Or.inl ⟨by rfl, ?_⟩) (by assumption) ?_
  rotate_left
  ·intro w hSw
   (try dsimp only at hSw)
   go_simp
   try with_reducible rfl
  try simp only [Act.put, List.setIfInBounds_toArray, List.set_cons_zero, List.set_cons_succ]
  refine wpAnyH_take (i := 9) (oi := { dst := some 24, op := Op.slice 26 (Operand.tmp 21) none (some (Operand.tmp 22)) (some (Operand.tmp 23)), type := 26, pos := "l03_normal.go:123", after := #[{ on := 6, ground := Ground.data }, { on := 7, ground := Ground.data }, { on := 8, ground := Ground.data }], guard := none }) (v := ?_) rfl (by kernel_rfl) (by kernel_rfl) (by kernel_rfl) (fun _ _ _ h => h) (Or.inl ⟨by rfl, ?_⟩) (by assumption) ?_
  rotate_left
  ·intro w hSw
   (try dsimp only at hSw)
   go_simp
   try with_reducible rfl
  try simp only [Act.put, List.setIfInBounds_toArray, List.set_cons_zero, List.set_cons_succ]
  refine wpAnyH_take (i := 10) (oi := { dst := some 25, op := Op.build 28 #[(0, Operand.tmp 16), (1, Operand.tmp 19), (2, Operand.tmp 24)], type := 28, pos := "l03_normal.go:123", after := #[{ on := 1, ground := Ground.data }, { on := 4, ground := Ground.data }, { on := 9, ground := Ground.data }], guard := none }) (v := ?_) rfl (by kernel_rfl) (by kernel_rfl) (by kernel_rfl) (fun _ _ _ h => h) (Or.inl ⟨by rfl, ?_⟩) (by assumption) ?_
  rotate_left
  ·intro w hSw
   (try dsimp only at hSw)
   go_simp
   try with_reducible rfl
  try simp only [Act.put, List.setIfInBounds_toArray, List.set_cons_zero, List.set_cons_succ]
  refine wpAnyH_ready (rs := [11]) (by kernel_rfl) (by simp) ?_
  refine AllReadyH.cons (o := { dst := some 5, op := Op.alloc 28, type := 0, pos := "l03_normal.go:123", after := #[], guard := none }) rfl (fun K hK => ?_) ?_
  ·go_simp
   have ZZ : Hid (At3 (W0.alloc (.cells #[.int .i64 0, .int .i64 0, .slice none 0 0] 28)).drew (W0.heap.size) (.int .i64 0) (.int .i64 0) (.slice none 0 0)) := Lib.hid ((At3.place W0 (.int .i64 0) (.int .i64 0) (.slice none 0 0) 28 (W0.heap.size) (by simp)).drew)
   replace KB : Hid (Below W0.heap.size W0 (W0.alloc (.cells #[.int .i64 0, .int .i64 0, .slice none 0 0] 28)).drew) := Lib.hid (KB.out.alloc KB.out.size (.cells #[.int .i64 0, .int .i64 0, .slice none 0 0] 28))
   refine hK.out _ _ ?_ (fun hHeld => ?_)
   ·with_reducible exact SH.out _ KB.out
   clear hK K
   try simp only [Act.put, List.setIfInBounds_toArray, List.set_cons_zero, List.set_cons_succ]
   refine wpAnyH_ready (rs := [12]) (by kernel_rfl) (by simp) ?_
   refine AllReadyH.cons (o := { dst := none, op := Op.store 28 (Operand.tmp 5) (Operand.tmp 25), type := 0, pos := "l03_normal.go:123", after := #[{ on := 11, ground := Ground.data }, { on := 10, ground := Ground.data }, { on := 0, ground := Ground.phase }, { on := 1, ground := Ground.phase }, { on := 2, ground := Ground.phase }, { on := 3, ground := Ground.phase }, { on := 4, ground := Ground.phase }, { on := 5, ground := Ground.phase }, { on := 6, ground := Ground.phase }, { on := 7, ground := Ground.phase }, { on := 8, ground := Ground.phase }, { on := 9, ground := Ground.phase }, { on := 10, ground := Ground.phase }, { on := 11, ground := Ground.phase }], guard := none }) rfl (fun K hK => ?_) ?_
   ·obtain ⟨z0, ⟨z1, z2, z3⟩, z4, z5, z6⟩ := ZZ.out
    go_simp
    clear z0 z1 z2 z3 z4 z5 z6 KB
    have KB : Hid (Below W0.heap.size W0 (W0.alloc (.cells #[.int .i64 m, .int .i64 (if (c : Int) < 0 then 0 else -(c : Int)), .slice (some ⟨ba, off, none⟩) n n] 28)).drew) := Lib.hid ((below1 W0 _).drew)
    refine hK.out _ _ ?_ (fun hHeld => ?_)
    ·with_reducible exact SH.out _ KB.out
    clear hK K
    try simp only [Act.put, List.setIfInBounds_toArray, List.set_cons_zero, List.set_cons_succ]
    refine wpAnyH_done (by kernel_rfl) ?_ _
    go_wp2_with fail
    go_meet
    exact ⟨rfl, (At3.place W0 _ _ _ 28 W0.heap.size rfl).drew, (below1 W0 _).drew⟩
   exact AllReadyH.nil
  exact AllReadyH.nil
 case rest =>
  obtain ⟨v1, hwc⟩ : ∃ x, x = wc := ⟨_, rfl⟩; subst hwc
  obtain ⟨rfl, hS, hb⟩ := hcut
  have S := Lib.hid hS
  have hv1 := S.out.1
  replace A := Lib.hid (A.out.below hb)
  replace Z1 := Lib.hid (Z1.out.below hb)
  replace Z2 := Lib.hid (Z2.out.below hb)
  replace B := Lib.hid (below_go B.out hb B.out.size)
  clear hS hb
  have HV1 := Lib.hid hv1
  clear hv1
  obtain ⟨q1, q2, q3⟩ := A.out.all
  go_wp2_with fail
  refine (clone_any (some ⟨ba, off, none⟩) 0 0 (l.drop n) _ (ReadsA.empty rfl (by rw [List.length_drop, HL.out]; omega)) (by omega)).mono ?_
  rintro e v2 ⟨b2, d2, rfl, ho, hb⟩
  have QB : Hid (OwnSIn v1.heap.size v2.heap.size v2 b2 0 (l.drop n)) := Lib.hid (by have := ho.within; simpa using this)
  replace A := Lib.hid (A.out.below hb)
  replace S := Lib.hid (S.out.below hb)
  replace Z1 := Lib.hid (Z1.out.below hb)
  replace Z2 := Lib.hid (Z2.out.below hb)
  have HV2 := Lib.hid hb.size
  replace B := Lib.hid (below_go B.out hb B.out.size)
  clear ho hb q1 q2 q3
  obtain ⟨q1, q2, q3⟩ := A.out.all
  go_upto_region 4 with fail
  clear q1 q2 q3
  have KB : Hid (Below v2.heap.size v2 v2.drew) := Lib.hid (Below.refl v2.heap.size v2).drew
  have SH : Hid (∀ X, Below v2.heap.size v2 X → (X.cell? ⟨w.heap.size, 0, none⟩ = some (.int .i64 m) ∧ X.cell? ⟨w.heap.size, 1, none⟩ = some (.int .i64 (-(c : Int))) ∧ X.cell? ⟨w.heap.size, 2, none⟩ = some (.slice (some ⟨ba, off, none⟩) n n)) ∧ (X.cell? ⟨W0.heap.size, 0, none⟩ = some (.int .i64 m) ∧ X.cell? ⟨W0.heap.size, 1, none⟩ = some (.int .i64 (-(c : Int))) ∧ X.cell? ⟨W0.heap.size, 2, none⟩ = some (.slice (some ⟨ba, off, none⟩) n n))) := Lib.hid fun X h => ⟨(A.out.below h).cells, (S.out.below h).cells⟩
  obtain ⟨ip, hip⟩ : ∃ ip, ip = -((n : Nat) : Int) - (-(c : Int)) := ⟨_, rfl⟩
  have EV : Hid ((negK (-(c : Int)) : Int) - (endF (-(c : Int)) l : Nat) = ip) := Lib.hid (by rw [HK.out, HC.out, hip]; omega)
  refine wp_region_held_drew (S := (fun w' => (w'.cell? ⟨w.heap.size, 0, none⟩ = some (.int .i64 m) ∧ w'.cell? ⟨w.heap.size, 1, none⟩ = some (.int .i64 (-(c : Int))) ∧ w'.cell? ⟨w.heap.size, 2, none⟩ = some (.slice (some ⟨ba, off, none⟩) n n)) ∧ (w'.cell? ⟨W0.heap.size, 0, none⟩ = some (.int .i64 m) ∧ w'.cell? ⟨W0.heap.size, 1, none⟩ = some (.int .i64 (-(c : Int))) ∧ w'.cell? ⟨W0.heap.size, 2, none⟩ = some (.slice (some ⟨ba, off, none⟩) n n)))) (by kernel_rfl) ?_ (fun hHeld => ?_)
  ·first | with_reducible exact SH.out _ KB.out | with_reducible exact ⟨A.out.cells, S.out.cells⟩
  refine wpAnyH_take (i := 0) (oi := { dst := some 31, op := Op.load 28 (Operand.tmp 5), type := 28, pos := "l03_normal.go:125", after := #[], guard := none }) (v := ?_) rfl (by kernel_rfl) (by kernel_rfl) (by kernel_rfl) (fun _ _ _ h => h) (Or.inl ⟨by rfl, ?_⟩) (by assumption) ?_
  rotate_left
  ·intro w hSw
   (try dsimp only at hSw)
   go_simp
   try with_reducible rfl
  try simp only [Act.put, List.setIfInBounds_toArray, List.set_cons_zero, List.set_cons_succ]
  refine wpAnyH_take (i := 2) (oi := { dst := some 33, op := Op.fieldAddr 28 (Operand.tmp 1) 0, type := 0, pos := "l03_normal.go:125", after := #[{ on := 9, ground := Ground.gcOnly Departure.lateStores }], guard := none }) (v := ?_) rfl (by kernel_rfl) (by kernel_rfl) (by kernel_rfl) (fun _ _ _ h => h) (Or.inl ⟨by rfl, ?_⟩) (by assumption) ?_
  rotate_left
  ·intro w hSw
   (try dsimp only at hSw)
   go_simp
   try with_reducible rfl
  try simp only [Act.put, List.setIfInBounds_toArray, List.set_cons_zero, List.set_cons_succ]
  refine wpAnyH_take (i := 3) (oi := { dst := some 34, op := Op.load 2 (Operand.tmp 33), type := 2, pos := "l03_normal.go:125", after := #[{ on := 2, ground := Ground.data }, { on := 9, ground := Ground.gcOnly Departure.lateStores }], guard := none }) (v := ?_) rfl (by kernel_rfl) (by kernel_rfl) (by kernel_rfl) (fun _ _ _ h => h) (Or.inl ⟨by rfl, ?_⟩) (by assumption) ?_
  rotate_left
  ·intro w hSw
   (try dsimp only at hSw)
   go_simp
   try with_reducible rfl
  try simp only [Act.put, List.setIfInBounds_toArray, List.set_cons_zero, List.set_cons_succ]
  refine wpAnyH_take (i := 4) (oi := { dst := some 35, op := Op.fieldAddr 28 (Operand.tmp 1) 1, type := 0, pos := "l03_normal.go:125", after := #[], guard := none }) (v := ?_) rfl (by kernel_rfl) (by kernel_rfl) (by kernel_rfl) (fun _ _ _ h => h) (Or.inl ⟨by rfl, ?_⟩) (by assumption) ?_
  rotate_left
  ·intro w hSw
   (try dsimp only at hSw)
   go_simp
   try with_reducible rfl
  try simp only [Act.put, List.setIfInBounds_toArray, List.set_cons_zero, List.set_cons_succ]
  refine wpAnyH_take (i := 5) (oi := { dst := some 36, op := Op.load 2 (Operand.tmp 35), type := 2, pos := "l03_normal.go:125", after := #[{ on := 4, ground := Ground.data }], guard := none }) (v := ?_) rfl (by kernel_rfl) (by kernel_rfl) (by kernel_rfl) (fun _ _ _ h => h) (Or.inl ⟨by rfl, ?_⟩) (by assumption) ?_
  rotate_left
  ·intro w hSw
   (try dsimp only at hSw)
   go_simp
   try with_reducible rfl
  try simp only [Act.put, List.setIfInBounds_toArray, List.set_cons_zero, List.set_cons_succ]
  refine wpAnyH_take (i := 6) (oi := { dst := some 37, op := Op.call { callee := Callee.builtin Builtin.max, args := #[Operand.tmp 36, Operand.const (Value.int IntKind.i64 0)], argTypes := #[2, 2] }, type := 2, pos := "l03_normal.go:125", after := #[{ on := 5, ground := Ground.data }], guard := none }) (v := ?_) rfl (by kernel_rfl) (by kernel_rfl) (by kernel_rfl) (fun _ _ _ h => h) (Or.inl ⟨by rfl, ?_⟩) (by assumption) ?_
  rotate_left
  ·intro w hSw
   (try dsimp only at hSw)
   go_simp
   try with_reducible rfl
  try simp only [Act.put, List.setIfInBounds_toArray, List.set_cons_zero, List.set_cons_succ]
  refine wpAnyH_take (i := 7) (oi := { dst := some 38, op := Op.move (Operand.tmp 6), type := 26, pos := "l03_normal.go:125", after := #[{ on := 9, ground := Ground.gcOnly Departure.lateStores }], guard := none }) (v := ?_) rfl (by kernel_rfl) (by kernel_rfl) (by kernel_rfl) (fun _ _ _ h => h) (Or.inl ⟨by rfl, ?_⟩) (by assumption) ?_
  rotate_left
  ·intro w hSw
   (try dsimp only at hSw)
   go_simp
   try with_reducible rfl
  try simp only [Act.put, List.setIfInBounds_toArray, List.set_cons_zero, List.set_cons_succ]
  refine wpAnyH_take (i := 8) (oi := { dst := some 39, op := Op.build 28 #[(0, Operand.tmp 34), (1, Operand.tmp 37), (2, Operand.tmp 38)], type := 28, pos := "l03_normal.go:125", after := #[{ on := 3, ground := Ground.data }, { on := 6, ground := Ground.data }, { on := 7, ground := Ground.data }, { on := 9, ground := Ground.gcOnly Departure.lateStores }], guard := none }) (v := ?_) rfl (by kernel_rfl) (by kernel_rfl) (by kernel_rfl) (fun _ _ _ h => h) (Or.inl ⟨by rfl, ?_⟩) (by assumption) ?_
  rotate_left
  ·intro w hSw
   (try dsimp only at hSw)
   go_simp
   try with_reducible rfl
  try simp only [Act.put, List.setIfInBounds_toArray, List.set_cons_zero, List.set_cons_succ]
  refine wpAnyH_ready (rs := [1]) (by kernel_rfl) (by simp) ?_
  refine AllReadyH.cons (o := { dst := some 32, op := Op.call { callee := Callee.value (Operand.func 73), args := #[Operand.tmp 31], argTypes := #[28] }, type := 28, pos := "l03_normal.go:125", after := #[{ on := 0, ground := Ground.data }], guard := none }) rfl (fun K hK => ?_) ?_
  ·go_simp
   have hinv := fun W (hW : Below v2.heap.size v2 W) => inverse_any m (-(c : Int)) (by omega) (some ⟨ba, off, none⟩) n n (l.take n) W ((R.out.first n (Nat.le_refl _)).below (B.out.trans (hW.mono B.out.size))) (fun x hx => HS.out x (List.mem_of_mem_take hx)) (by omega)
   rw [← hip] at hinv
   clear hip
   refine (hinv _ KB.out).mono ?_
   rintro e v3 ⟨b1, n1, c1, rfl, ho, gg⟩
   have QA : Hid (OwnS v2.heap.size v3 b1 n1 (turns m (-(c : Int)) (invL m (l.take n)))) := Lib.hid (ho.toS.mono KB.out.size)
   replace KB := Lib.hid (below_go KB.out gg KB.out.size)
   have QB2 : Hid (OwnSIn v1.heap.size v2.heap.size v3 b2 0 (l.drop n)) := Lib.hid ⟨QB.out.1.below KB.out, QB.out.2⟩
   replace A := Lib.hid (A.out.below KB.out)
   replace S := Lib.hid (S.out.below KB.out)
   replace Z1 := Lib.hid (Z1.out.below KB.out)
   replace Z2 := Lib.hid (Z2.out.below KB.out)
   replace B := Lib.hid (B.out.trans (KB.out.mono B.out.size))
   clear ho gg hinv
   go_wp2_with fail
   refine hK.out _ _ ?_ (fun hHeld => ?_)
   ·first | with_reducible exact SH.out _ KB.out | with_reducible exact ⟨A.out.cells, S.out.cells⟩
   clear hK K
   try simp only [Act.put, List.setIfInBounds_toArray, List.set_cons_zero, List.set_cons_succ]
   refine wpAnyH_ready (rs := [9]) (by kernel_rfl) (by simp) ?_
   refine AllReadyH.cons (o := { dst := none, op := Op.store 28 (Operand.tmp 2) (Operand.tmp 32), type := 0, pos := "l03_normal.go:125", after := #[{ on := 1, ground := Ground.data }, { on := 1, ground := Ground.chain }, { on := 0, ground := Ground.phase }, { on := 1, ground := Ground.phase }, { on := 2, ground := Ground.textOnly Departure.lateStores }, { on := 3, ground := Ground.textOnly Departure.lateStores }, { on := 4, ground := Ground.textOnly Departure.lateStores }, { on := 5, ground := Ground.textOnly Departure.lateStores }, { on := 6, ground := Ground.textOnly Departure.lateStoresUnsure }, { on := 7, ground := Ground.textOnly Departure.lateStores }, { on := 8, ground := Ground.textOnly Departure.lateStores }], guard := none }) rfl (fun K hK => ?_) ?_
   ·obtain ⟨z0, ⟨z1, z2, z3⟩, z4, z5, z6⟩ := Z1.out
    go_simp
    clear z0 z1 z2 z3 z4 z5 z6
    have hs0 := HS0.out
    have hv1 := HV1.out
    have hv2 := HV2.out
    have hk3 := KB.out.size
    replace A := Lib.hid (A.out.set3 (g2 := w.heap.size + 1) (by omega) (.int .i64 m) (.int .i64 ip) (.slice b1 n1 c1))
    replace S := Lib.hid (S.out.set3 (g2 := w.heap.size + 1) (by omega) (.int .i64 m) (.int .i64 ip) (.slice b1 n1 c1))
    replace Z1 := Lib.hid (Z1.out.fill (.int .i64 m) (.int .i64 ip) (.slice b1 n1 c1))
    replace Z2 := Lib.hid (Z2.out.set3 (g2 := w.heap.size + 1) (by omega) (.int .i64 m) (.int .i64 ip) (.slice b1 n1 c1))
    replace QA := Lib.hid (QA.out.set3 (g2 := w.heap.size + 1) (by omega) (.int .i64 m) (.int .i64 ip) (.slice b1 n1 c1))
    replace QB2 : Hid (OwnSIn v1.heap.size v2.heap.size _ b2 0 (l.drop n)) := Lib.hid ⟨QB2.out.1.set3 (g2 := w.heap.size + 1) (by omega) (.int .i64 m) (.int .i64 ip) (.slice b1 n1 c1), QB2.out.2⟩
    replace B := Lib.hid (below_set3 (g2 := w.heap.size + 1) B.out (by omega) (.int .i64 m) (.int .i64 ip) (.slice b1 n1 c1))
    clear hs0 hv1 hv2 hk3
    obtain ⟨U8, hU8⟩ : ∃ U, U = (((v3.setCell ⟨w.heap.size + 1, 0, none⟩ (.int .i64 m)).setCell ⟨w.heap.size + 1, 1, none⟩ (.int .i64 ip)).setCell ⟨w.heap.size + 1, 2, none⟩ (.slice b1 n1 c1)) := ⟨_, rfl⟩
    rw [← hU8] at A S Z1 Z2 QA QB2 B ⊢
    clear hU8
    refine hK.out _ _ ?_ (fun hHeld => ?_)
    ·first | with_reducible exact SH.out _ KB.out | with_reducible exact ⟨A.out.cells, S.out.cells⟩
    clear hK K
    try simp only [Act.put, List.setIfInBounds_toArray, List.set_cons_zero, List.set_cons_succ]
    refine wpAnyH_ready (rs := [10]) (by kernel_rfl) (by simp) ?_
    refine AllReadyH.cons (o := { dst := none, op := Op.store 28 (Operand.tmp 3) (Operand.tmp 39), type := 0, pos := "l03_normal.go:125", after := #[{ on := 8, ground := Ground.data }, { on := 9, ground := Ground.chain }, { on := 0, ground := Ground.phase }, { on := 1, ground := Ground.phase }, { on := 2, ground := Ground.phase }, { on := 3, ground := Ground.phase }, { on := 4, ground := Ground.phase }, { on := 5, ground := Ground.phase }, { on := 6, ground := Ground.phase }, { on := 7, ground := Ground.phase }, { on := 8, ground := Ground.phase }, { on := 9, ground := Ground.phase }], guard := none }) rfl (fun K hK => ?_) ?_
    ·obtain ⟨z0, ⟨z1, z2, z3⟩, z4, z5, z6⟩ := Z2.out
     go_simp
     clear z0 z1 z2 z3 z4 z5 z6
     have hs0 := HS0.out
     have hv1 := HV1.out
     have hv2 := HV2.out
     have hk3 := KB.out.size
     replace A := Lib.hid (A.out.set3 (g2 := w.heap.size + 1 + 1) (by omega) (.int .i64 m) (.int .i64 0) (.slice b2 0 d2))
     replace S := Lib.hid (S.out.set3 (g2 := w.heap.size + 1 + 1) (by omega) (.int .i64 m) (.int .i64 0) (.slice b2 0 d2))
     replace Z1 := Lib.hid (Z1.out.set3 (g2 := w.heap.size + 1 + 1) (by omega) (.int .i64 m) (.int .i64 0) (.slice b2 0 d2))
     replace Z2 := Lib.hid (Z2.out.fill (.int .i64 m) (.int .i64 0) (.slice b2 0 d2))
     replace QA := Lib.hid (QA.out.set3 (g2 := w.heap.size + 1 + 1) (by omega) (.int .i64 m) (.int .i64 0) (.slice b2 0 d2))
     replace QB2 : Hid (OwnSIn v1.heap.size v2.heap.size _ b2 0 (l.drop n)) := Lib.hid ⟨QB2.out.1.set3 (g2 := w.heap.size + 1 + 1) (by omega) (.int .i64 m) (.int .i64 0) (.slice b2 0 d2), QB2.out.2⟩
     replace B := Lib.hid (below_set3 (g2 := w.heap.size + 1 + 1) B.out (by omega) (.int .i64 m) (.int .i64 0) (.slice b2 0 d2))
     clear hs0 hv1 hv2 hk3
     obtain ⟨U9, hU9⟩ : ∃ U, U = (((U8.setCell ⟨w.heap.size + 1 + 1, 0, none⟩ (.int .i64 m)).setCell ⟨w.heap.size + 1 + 1, 1, none⟩ (.int .i64 0)).setCell ⟨w.heap.size + 1 + 1, 2, none⟩ (.slice b2 0 d2)) := ⟨_, rfl⟩
     rw [← hU9] at A S Z1 Z2 QA QB2 B ⊢
     clear hU9
     refine hK.out _ _ ?_ (fun hHeld => ?_)
     ·first | with_reducible exact SH.out _ KB.out | with_reducible exact ⟨A.out.cells, S.out.cells⟩
     clear hK K
     try simp only [Act.put, List.setIfInBounds_toArray, List.set_cons_zero, List.set_cons_succ]
     refine wpAnyH_done (by kernel_rfl) ?_ _
     go_wp2
     try rw [Exit.noGoto_ret]
     obtain ⟨e1, e2, e3⟩ := Z1.out.cells
     obtain ⟨f1, f2, f3⟩ := Z2.out.cells
     have hs0 := HS0.out
     have hv1 := HV1.out
     have hv2 := HV2.out
     exact bodyPost_ret (v := .tuple #[.agg #[(.int .i64 m), (.int .i64 ip), (.slice b1 n1 c1)], .agg #[(.int .i64 m), (.int .i64 0), (.slice b2 0 d2)]]) (by simp [results, Try.results75, go_sem, e1, e2, e3, f1, f2, f3]) rfl ⟨b1, n1, c1, b2, 0, d2, v2.heap.size, by first | rw [EV.out, HX.out] | (rw [EV.out]; simp), by omega, by rw [HC.out]; unfold fracA; rw [HK.out, Int.neg_neg]; exact QA.out, by rw [HC.out]; exact ⟨QB2.out.1.mono (by omega), QB2.out.2⟩, B.out⟩
    exact AllReadyH.nil
   exact AllReadyH.nil
  exact AllReadyH.nil

set_option maxRecDepth 100000 in
set_option maxHeartbeats 8000000 in
theorem fraction_B2 (m : Nat) (c : Nat) (hc : c ≤ 200) (ba off : Nat) (n cap : Nat) (hcap : n < cap) (h0 : 0 < c) (hkn : n ≤ c) (l : List (List Int)) (w : World) (hr : ReadsA w (some ⟨ba, off, none⟩) n l) (hl : Sims m l) :
  Calls Try.prog 75 #[.agg #[.int .i64 m, .int .i64 (-(c : Int)), .slice (some ⟨ba, off, none⟩) n cap]] w (RetFr w m (-(c : Int)) l) := by
 have HL := Lib.hid hr.len
 have HS := Lib.hid hl
 have R := Lib.hid hr
 clear hr hl
 have hcc : n ≤ cap := by omega
 have HC : Hid (endF (-(c : Int)) l = n) := Lib.hid (by unfold endF negK; have := HL.out; omega)
 have HK : Hid ((negK (-(c : Int)) : Int) = -(-(c : Int))) := Lib.hid (by unfold negK; omega)
 have HX : Hid (max (-(c : Int)) 0 = 0) := Lib.hid (by omega)
 have A := Lib.hid (((At3.place w (.int .i64 m) (.int .i64 (-(c : Int))) (.slice (some ⟨ba, off, none⟩) n cap) 28 w.heap.size rfl).alloc (.cells #[.int .i64 0, .int .i64 0, .slice none 0 0] 28)).alloc (.cells #[.int .i64 0, .int .i64 0, .slice none 0 0] 28))
 have Z1 := Lib.hid ((At3.place (w.alloc (.cells #[.int .i64 m, .int .i64 (-(c : Int)), .slice (some ⟨ba, off, none⟩) n cap] 28)) (.int .i64 0) (.int .i64 0) (.slice none 0 0) 28 (w.heap.size + 1) (by simp)).alloc (.cells #[.int .i64 0, .int .i64 0, .slice none 0 0] 28))
 have Z2 := Lib.hid (At3.place ((w.alloc (.cells #[.int .i64 m, .int .i64 (-(c : Int)), .slice (some ⟨ba, off, none⟩) n cap] 28)).alloc (.cells #[.int .i64 0, .int .i64 0, .slice none 0 0] 28)) (.int .i64 0) (.int .i64 0) (.slice none 0 0) 28 (w.heap.size + 1 + 1) (by simp))
 have B := Lib.hid ((below2 w (.cells #[.int .i64 m, .int .i64 (-(c : Int)), .slice (some ⟨ba, off, none⟩) n cap] 28) (.cells #[.int .i64 0, .int .i64 0, .slice none 0 0] 28)).alloc (by simp; omega) (.cells #[.int .i64 0, .int .i64 0, .slice none 0 0] 28))
 obtain ⟨W0, hW0⟩ : ∃ W0, W0 = (((w.alloc (.cells #[.int .i64 m, .int .i64 (-(c : Int)), .slice (some ⟨ba, off, none⟩) n cap] 28)).alloc (.cells #[.int .i64 0, .int .i64 0, .slice none 0 0] 28)).alloc (.cells #[.int .i64 0, .int .i64 0, .slice none 0 0] 28)) := ⟨_, rfl⟩
 have hs0 : W0.heap.size = w.heap.size + 1 + 1 + 1 := by rw [hW0]; simp
 rw [← hW0] at A Z1 Z2 B
 have HW0 := Lib.hid hW0
 clear hW0
 have HS0 := Lib.hid hs0
 clear hs0
 go_enter Try.func75, Try.ntmps75
 go_upto_region 1 with fail
 rw [← HW0.out]
 obtain ⟨q1, q2, q3⟩ := A.out.all
 go_upto_region 2 with fail
 clear q1 q2 q3
 go_cut [5] from 15 to 25 (fun x5 wx => x5 = .pointer (some ⟨W0.heap.size, 0, none⟩) ∧ At3 wx W0.heap.size (.int .i64 m) (.int .i64 (-(c : Int))) (.slice (some ⟨ba, off, none⟩) n n) ∧ Below W0.heap.size W0 wx)
 case first =>
  have KB : Hid (Below W0.heap.size W0 W0.drew) := Lib.hid (Below.refl W0.heap.size W0).drew
  have SH : Hid (∀ X, Below W0.heap.size W0 X → X.cell? ⟨w.heap.size, 0, none⟩ = some (.int .i64 m) ∧ X.cell? ⟨w.heap.size, 1, none⟩ = some (.int .i64 (-(c : Int))) ∧ X.cell? ⟨w.heap.size, 2, none⟩ = some (.slice (some ⟨ba, off, none⟩) n cap)) := Lib.hid fun X h => (A.out.below h).all
  refine wp_region_held_drew (S := (fun w' => w'.cell? ⟨w.heap.size, 0, none⟩ = some (.int .i64 m) ∧ w'.cell? ⟨w.heap.size, 1, none⟩ = some (.int .i64 (-(c : Int))) ∧ w'.cell? ⟨w.heap.size, 2, none⟩ = some (.slice (some ⟨ba, off, none⟩) n cap))) (by kernel_rfl) ?_ (fun hHeld => ?_)
  ·with_reducible exact SH.out _ KB.out
  refine wpAnyH_take (i := 0) (oi := { dst := some 15, op := Op.fieldAddr 28 (Operand.tmp 1) 0, type := 0, pos := "l03_normal.go:123", after := #[], guard := none }) (v := ?_) rfl (by kernel_rfl) (by kernel_rfl) (by kernel_rfl) (fun _ _ _ h => h) (Or.inl ⟨by rfl, ?_⟩) (by assumption) ?_
  rotate_left
  ·intro w hSw
   (try dsimp only at hSw)
   go_simp
   try with_reducible rfl
  try simp only [Act.put, List.setIfInBounds_toArray, List.set_cons_zero, List.set_cons_succ]
  refine wpAnyH_take (i := 1) (oi := { dst := some 16, op := Op.load 2 (Operand.tmp 15), type := 2, pos := "l03_normal.go:123", after := #[{ on := 0, ground := Ground.data }], guard := none }) (v := ?_) rfl (by kernel_rfl) (by kernel_rfl) (by kernel_rfl) (fun _ _ _ h => h) (Or.inl ⟨by rfl, ?_⟩) (by assumption) ?_
  rotate_left
  ·intro w hSw
   (try dsimp only at hSw)
   go_simp
   try with_reducible rfl
  try simp only [Act.put, List.setIfInBounds_toArray, List.set_cons_zero, List.set_cons_succ]
  refine wpAnyH_take (i := 2) (oi := { dst := some 17, op := Op.fieldAddr 28 (Operand.tmp 1) 1, type := 0, pos := "l03_normal.go:123", after := #[], guard := none }) (v := ?_) rfl (by kernel_rfl) (by kernel_rfl) (by kernel_rfl) (fun _ _ _ h => h) (Or.inl ⟨by rfl, ?_⟩) (by assumption) ?_
  rotate_left
  ·intro w hSw
   (try dsimp only at hSw)
   go_simp
   try with_reducible rfl
  try simp only [Act.put, List.setIfInBounds_toArray, List.set_cons_zero, List.set_cons_succ]
  refine wpAnyH_take (i := 3) (oi := { dst := some 18, op := Op.load 2 (Operand.tmp 17), type := 2, pos := "l03_normal.go:123", after := #[{ on := 2, ground := Ground.data }], guard := none }) (v := ?_) rfl (by kernel_rfl) (by kernel_rfl) (by kernel_rfl) (fun _ _ _ h => h) (Or.inl ⟨by rfl, ?_⟩) (by assumption) ?_
  rotate_left
  ·intro w hSw
   (try dsimp only at hSw)
   go_simp
   try with_reducible rfl
  try simp only [Act.put, List.setIfInBounds_toArray, List.set_cons_zero, List.set_cons_succ]
  refine wpAnyH_take (i := 4) (oi := { dst := some 19, op := Op.call { callee := Callee.builtin Builtin.min, args := #[Operand.tmp 18, Operand.const (Value.int IntKind.i64 0)], argTypes := #[2, 2] }, type := 2, pos := "l03_normal.go:123", after := #[{ on := 3, ground := Ground.data }], guard := none }) (v := ?_) rfl (by kernel_rfl) (by kernel_rfl) (by kernel_rfl) (fun _ _ _ h => h) (Or.inl ⟨by rfl, ?_⟩) (by assumption) ?_
  rotate_left
  ·intro w hSw
   (try dsimp only at hSw)
   go_simp
   try with_reducible rfl
  try simp only [Act.put, List.setIfInBounds_toArray, List.set_cons_zero, List.set_cons_succ]
  refine wpAnyH_take (i := 5) (oi := { dst := some 20, op := Op.fieldAddr 28 (Operand.tmp 1) 2, type := 0, pos := "l03_normal.go:123", after := #[], guard := none }) (v := ?_) rfl (by kernel_rfl) (by kernel_rfl) (by kernel_rfl) (fun _ _ _ h => h) (Or.inl ⟨by rfl, ?_⟩) (by assumption) ?_
  rotate_left
  ·intro w hSw
   (try dsimp only at hSw)
   go_simp
   try with_reducible rfl
  try simp only [Act.put, List.setIfInBounds_toArray, List.set_cons_zero, List.set_cons_succ]
  refine wpAnyH_take (i := 6) (oi := { dst := some 21, op := Op.load 26 (Operand.tmp 20), type := 26, pos := "l03_normal.go:123", after := #[{ on := 5, ground := Ground.data }], guard := none }) (v := ?_) rfl (by kernel_rfl) (by kernel_rfl) (by kernel_rfl) (fun _ _ _ h => h) (Or.inl ⟨by rfl, ?_⟩) (by assumption) ?_
  rotate_left
  ·intro w hSw
   (try dsimp only at hSw)
   go_simp
   try with_reducible rfl
  try simp only [Act.put, List.setIfInBounds_toArray, List.set_cons_zero, List.set_cons_succ]
  refine wpAnyH_take (i := 7) (oi := { dst := some 22, op := Op.move (Operand.tmp 4), type := 3, pos := "l03_normal.go:123", after := #[], guard := none }) (v := ?_) rfl (by kernel_rfl) (by kernel_rfl) (by kernel_rfl) (fun _ _ _ h => h) (Or.inl ⟨by rfl, ?_⟩) (by assumption) ?_
  rotate_left
  ·intro w hSw
   (try dsimp only at hSw)
   go_simp
   try with_reducible rfl
  try simp only [Act.put, List.setIfInBounds_toArray, List.set_cons_zero, List.set_cons_succ]
  refine wpAnyH_take (i := 8) (oi := { dst := some 23, op := Op.move (Operand.tmp 4), type := 3, pos := "l03_normal.go:123", after := #[], guard := none }) (v := ?_) rfl (by kernel_rfl) (by kernel_rfl) (by kernel_rfl) (fun _ _ _ h => h) (Or.inl ⟨by rfl, ?_⟩) (by assumption) ?_
  rotate_left
  ·intro w hSw
   (try dsimp only at hSw)
   go_simp
   try with_reducible rfl
  try simp only [Act.put, List.setIfInBounds_toArray, List.set_cons_zero, List.set_cons_succ]
  refine wpAnyH_take (i := 9) (oi := { dst := some 24, op := Op.slice 26 (Operand.tmp 21) none (some (Operand.tmp 22)) (some (Operand.tmp 23)), type := 26, pos := "l03_normal.go:123", after := #[{ on := 6, ground := Ground.data }, { on := 7, ground := Ground.data }, { on := 8, ground := Ground.data }], guard := none }) (v := ?_) rfl (by kernel_rfl) (by kernel_rfl) (by kernel_rfl) (fun _ _ _ h => h) (Or.inl ⟨by rfl, ?_⟩) (by assumption) ?_
  rotate_left
  ·intro w hSw
   (try dsimp only at hSw)
   go_simp
   try with_reducible rfl
  try simp only [Act.put, List.setIfInBounds_toArray, List.set_cons_zero, List.set_cons_succ]
  refine wpAnyH_take (i := 10) (oi := { dst := some 25, op := Op.build 28 #[(0, Operand.tmp 16), (1, Operand.tmp 19), (2, Operand.tmp 24)], type := 28, pos := "l03_normal.go:123", after := #[{ on := 1, ground := Ground.data }, { on := 4, ground := Ground.data }, { on := 9, ground := Ground.data }], guard := none }) (v := ?_) rfl (by kernel_rfl) (by kernel_rfl) (by kernel_rfl) (fun _ _ _ h => h) (Or.inl ⟨by rfl, ?_⟩) (by assumption) ?_
  rotate_left
  ·intro w hSw
   (try dsimp only at hSw)
   go_simp
   try with_reducible rfl
  try simp only [Act.put, List.setIfInBounds_toArray, List.set_cons_zero, List.set_cons_succ]
  refine wpAnyH_ready (rs := [11]) (by kernel_rfl) (by simp) ?_
  refine AllReadyH.cons (o := { dst := some 5, op := Op.alloc 28, type := 0, pos := "l03_normal.go:123", after := #[], guard := none }) rfl (fun K hK => ?_) ?_
  ·go_simp
   have ZZ : Hid (At3 (W0.alloc (.cells #[.int .i64 0, .int .i64 0, .slice none 0 0] 28)).drew (W0.heap.size) (.int .i64 0) (.int .i64 0) (.slice none 0 0)) := Lib.hid ((At3.place W0 (.int .i64 0) (.int .i64 0) (.slice none 0 0) 28 (W0.heap.size) (by simp)).drew)
   replace KB : Hid (Below W0.heap.size W0 (W0.alloc (.cells #[.int .i64 0, .int .i64 0, .slice none 0 0] 28)).drew) := Lib.hid (KB.out.alloc KB.out.size (.cells #[.int .i64 0, .int .i64 0, .slice none 0 0] 28))
   refine hK.out _ _ ?_ (fun hHeld => ?_)
   ·with_reducible exact SH.out _ KB.out
   clear hK K
   try simp only [Act.put, List.setIfInBounds_toArray, List.set_cons_zero, List.set_cons_succ]
   refine wpAnyH_ready (rs := [12]) (by kernel_rfl) (by simp) ?_
   refine AllReadyH.cons (o := { dst := none, op := Op.store 28 (Operand.tmp 5) (Operand.tmp 25), type := 0, pos := "l03_normal.go:123", after := #[{ on := 11, ground := Ground.data }, { on := 10, ground := Ground.data }, { on := 0, ground := Ground.phase }, { on := 1, ground := Ground.phase }, { on := 2, ground := Ground.phase }, { on := 3, ground := Ground.phase }, { on := 4, ground := Ground.phase }, { on := 5, ground := Ground.phase }, { on := 6, ground := Ground.phase }, { on := 7, ground := Ground.phase }, { on := 8, ground := Ground.phase }, { on := 9, ground := Ground.phase }, { on := 10, ground := Ground.phase }, { on := 11, ground := Ground.phase }], guard := none }) rfl (fun K hK => ?_) ?_
   ·obtain ⟨z0, ⟨z1, z2, z3⟩, z4, z5, z6⟩ := ZZ.out
    go_simp
    clear z0 z1 z2 z3 z4 z5 z6 KB
    have KB : Hid (Below W0.heap.size W0 (W0.alloc (.cells #[.int .i64 m, .int .i64 (if (c : Int) < 0 then 0 else -(c : Int)), .slice (some ⟨ba, off, none⟩) n n] 28)).drew) := Lib.hid ((below1 W0 _).drew)
    refine hK.out _ _ ?_ (fun hHeld => ?_)
    ·with_reducible exact SH.out _ KB.out
    clear hK K
    try simp only [Act.put, List.setIfInBounds_toArray, List.set_cons_zero, List.set_cons_succ]
    refine wpAnyH_done (by kernel_rfl) ?_ _
    go_wp2_with fail
    go_meet
    exact ⟨rfl, (At3.place W0 _ _ _ 28 W0.heap.size rfl).drew, (below1 W0 _).drew⟩
   exact AllReadyH.nil
  exact AllReadyH.nil
 case rest =>
  obtain ⟨v1, hwc⟩ : ∃ x, x = wc := ⟨_, rfl⟩; subst hwc
  obtain ⟨rfl, hS, hb⟩ := hcut
  have S := Lib.hid hS
  have hv1 := S.out.1
  replace A := Lib.hid (A.out.below hb)
  replace Z1 := Lib.hid (Z1.out.below hb)
  replace Z2 := Lib.hid (Z2.out.below hb)
  replace B := Lib.hid (below_go B.out hb B.out.size)
  clear hS hb
  have HV1 := Lib.hid hv1
  clear hv1
  obtain ⟨q1, q2, q3⟩ := A.out.all
  go_wp2_with fail
  refine (clone_any (some ⟨ba, off + n * 8, none⟩) 0 (cap - n) (l.drop n) _ (ReadsA.empty rfl (by rw [List.length_drop, HL.out]; omega)) (by omega)).mono ?_
  rintro e v2 ⟨b2, d2, rfl, ho, hb⟩
  have QB : Hid (OwnSIn v1.heap.size v2.heap.size v2 b2 0 (l.drop n)) := Lib.hid (by have := ho.within; simpa using this)
  replace A := Lib.hid (A.out.below hb)
  replace S := Lib.hid (S.out.below hb)
  replace Z1 := Lib.hid (Z1.out.below hb)
  replace Z2 := Lib.hid (Z2.out.below hb)
  have HV2 := Lib.hid hb.size
  replace B := Lib.hid (below_go B.out hb B.out.size)
  clear ho hb q1 q2 q3
  obtain ⟨q1, q2, q3⟩ := A.out.all
  go_upto_region 4 with fail
  clear q1 q2 q3
  have KB : Hid (Below v2.heap.size v2 v2.drew) := Lib.hid (Below.refl v2.heap.size v2).drew
  have SH : Hid (∀ X, Below v2.heap.size v2 X → (X.cell? ⟨w.heap.size, 0, none⟩ = some (.int .i64 m) ∧ X.cell? ⟨w.heap.size, 1, none⟩ = some (.int .i64 (-(c : Int))) ∧ X.cell? ⟨w.heap.size, 2, none⟩ = some (.slice (some ⟨ba, off, none⟩) n cap)) ∧ (X.cell? ⟨W0.heap.size, 0, none⟩ = some (.int .i64 m) ∧ X.cell? ⟨W0.heap.size, 1, none⟩ = some (.int .i64 (-(c : Int))) ∧ X.cell? ⟨W0.heap.size, 2, none⟩ = some (.slice (some ⟨ba, off, none⟩) n n))) := Lib.hid fun X h => ⟨(A.out.below h).cells, (S.out.below h).cells⟩
  obtain ⟨ip, hip⟩ : ∃ ip, ip = -((n : Nat) : Int) - (-(c : Int)) := ⟨_, rfl⟩
  have EV : Hid ((negK (-(c : Int)) : Int) - (endF (-(c : Int)) l : Nat) = ip) := Lib.hid (by rw [HK.out, HC.out, hip]; omega)
  refine wp_region_held_drew (S := (fun w' => (w'.cell? ⟨w.heap.size, 0, none⟩ = some (.int .i64 m) ∧ w'.cell? ⟨w.heap.size, 1, none⟩ = some (.int .i64 (-(c : Int))) ∧ w'.cell? ⟨w.heap.size, 2, none⟩ = some (.slice (some ⟨ba, off, none⟩) n cap)) ∧ (w'.cell? ⟨W0.heap.size, 0, none⟩ = some (.int .i64 m) ∧ w'.cell? ⟨W0.heap.size, 1, none⟩ = some (.int .i64 (-(c : Int))) ∧ w'.cell? ⟨W0.heap.size, 2, none⟩ = some (.slice (some ⟨ba, off, none⟩) n n)))) (by kernel_rfl) ?_ (fun hHeld => ?_)
  ·first | with_reducible exact SH.out _ KB.out | with_reducible exact ⟨A.out.cells, S.out.cells⟩
  refine wpAnyH_take (i := 0) (oi := { dst := some 31, op := Op.load 28 (Operand.tmp 5), type := 28, pos := "l03_normal.go:125", after := #[], guard := none }) (v := ?_) rfl (by kernel_rfl) (by kernel_rfl) (by kernel_rfl) (fun _ _ _ h => h) (Or.inl ⟨by rfl, ?_⟩) (by assumption) ?_
  rotate_left
  ·intro w hSw
   (try dsimp only at hSw)
   go_simp
   try with_reducible rfl
  try simp only [Act.put, List.setIfInBounds_toArray, List.set_cons_zero, List.set_cons_succ]
  refine wpAnyH_take (i := 2) (oi := { dst := some 33, op := Op.fieldAddr 28 (Operand.tmp 1) 0, type := 0, pos := "l03_normal.go:125", after := #[{ on := 9, ground := Ground.gcOnly Departure.lateStores }], guard := none }) (v := ?_) rfl (by kernel_rfl) (by kernel_rfl) (by kernel_rfl) (fun _ _ _ h => h) (Or.inl ⟨by rfl, ?_⟩) (by assumption) ?_
  rotate_left
  ·intro w hSw
   (try dsimp only at hSw)
   go_simp
   try with_reducible rfl
  try simp only [Act.put, List.setIfInBounds_toArray, List.set_cons_zero, List.set_cons_succ]
  refine wpAnyH_take (i := 3) (oi := { dst := some 34, op := Op.load 2 (Operand.tmp 33), type := 2, pos := "l03_normal.go:125", after := #[{ on := 2, ground := Ground.data }, { on := 9, ground := Ground.gcOnly Departure.lateStores }], guard := none }) (v := ?_) rfl (by kernel_rfl) (by kernel_rfl) (by kernel_rfl) (fun _ _ _ h => h) (Or.inl ⟨by rfl, ?_⟩) (by assumption) ?_
  rotate_left
  ·intro w hSw
   (try dsimp only at hSw)
   go_simp
   try with_reducible rfl
  try simp only [Act.put, List.setIfInBounds_toArray, List.set_cons_zero, List.set_cons_succ]
  refine wpAnyH_take (i := 4) (oi := { dst := some 35, op := Op.fieldAddr 28 (Operand.tmp 1) 1, type := 0, pos := "l03_normal.go:125", after := #[], guard := none }) (v := ?_) rfl (by kernel_rfl) (by kernel_rfl) (by kernel_rfl) (fun _ _ _ h => h) (Or.inl ⟨by rfl, ?_⟩) (by assumption) ?_
  rotate_left
  ·intro w hSw
   (try dsimp only at hSw)
   go_simp
   try with_reducible rfl
  try simp only [Act.put, List.setIfInBounds_toArray, List.set_cons_zero, List.set_cons_succ]
  refine wpAnyH_take (i := 5) (oi := { dst := some 36, op := Op.load 2 (Operand.tmp 35), type := 2, pos := "l03_normal.go:125", after := #[{ on := 4, ground := Ground.data }], guard := none }) (v := ?_) rfl (by kernel_rfl) (by kernel_rfl) (by kernel_rfl) (fun _ _ _ h => h) (Or.inl ⟨by rfl, ?_⟩) (by assumption) ?_
  rotate_left
  ·intro w hSw
   (try dsimp only at hSw)
   go_simp
   try with_reducible rfl
  try simp only [Act.put, List.setIfInBounds_toArray, List.set_cons_zero, List.set_cons_succ]
  refine wpAnyH_take (i := 6) (oi := { dst := some 37, op := Op.call { callee := Callee.builtin Builtin.max, args := #[Operand.tmp 36, Operand.const (Value.int IntKind.i64 0)], argTypes := #[2, 2] }, type := 2, pos := "l03_normal.go:125", after := #[{ on := 5, ground := Ground.data }], guard := none }) (v := ?_) rfl (by kernel_rfl) (by kernel_rfl) (by kernel_rfl) (fun _ _ _ h => h) (Or.inl ⟨by rfl, ?_⟩) (by assumption) ?_
  rotate_left
  ·intro w hSw
   (try dsimp only at hSw)
   go_simp
   try with_reducible rfl
  try simp only [Act.put, List.setIfInBounds_toArray, List.set_cons_zero, List.set_cons_succ]
  refine wpAnyH_take (i := 7) (oi := { dst := some 38, op := Op.move (Operand.tmp 6), type := 26, pos := "l03_normal.go:125", after := #[{ on := 9, ground := Ground.gcOnly Departure.lateStores }], guard := none }) (v := ?_) rfl (by kernel_rfl) (by kernel_rfl) (by kernel_rfl) (fun _ _ _ h => h) (Or.inl ⟨by rfl, ?_⟩) (by assumption) ?_
  rotate_left
  ·intro w hSw
   (try dsimp only at hSw)
   go_simp
   try with_reducible rfl
  try simp only [Act.put, List.setIfInBounds_toArray, List.set_cons_zero, List.set_cons_succ]
  refine wpAnyH_take (i := 8) (oi := { dst := some 39, op := Op.build 28 #[(0, Operand.tmp 34), (1, Operand.tmp 37), (2, Operand.tmp 38)], type := 28, pos := "l03_normal.go:125", after := #[{ on := 3, ground := Ground.data }, { on := 6, ground := Ground.data }, { on := 7, ground := Ground.data }, { on := 9, ground := Ground.gcOnly Departure.lateStores }], guard := none }) (v := ?_) rfl (by kernel_rfl) (by kernel_rfl) (by kernel_rfl) (fun _ _ _ h => h) (Or.inl ⟨by rfl, ?_⟩) (by assumption) ?_
  rotate_left
  ·intro w hSw
   (try dsimp only at hSw)
   go_simp
   try with_reducible rfl
  try simp only [Act.put, List.setIfInBounds_toArray, List.set_cons_zero, List.set_cons_succ]
  refine wpAnyH_ready (rs := [1]) (by kernel_rfl) (by simp) ?_
  refine AllReadyH.cons (o := { dst := some 32, op := Op.call { callee := Callee.value (Operand.func 73), args := #[Operand.tmp 31], argTypes := #[28] }, type := 28, pos := "l03_normal.go:125", after := #[{ on := 0, ground := Ground.data }], guard := none }) rfl (fun K hK => ?_) ?_
  ·go_simp
   have hinv := fun W (hW : Below v2.heap.size v2 W) => inverse_any m (-(c : Int)) (by omega) (some ⟨ba, off, none⟩) n n (l.take n) W ((R.out.first n (Nat.le_refl _)).below (B.out.trans (hW.mono B.out.size))) (fun x hx => HS.out x (List.mem_of_mem_take hx)) (by omega)
   rw [← hip] at hinv
   clear hip
   refine (hinv _ KB.out).mono ?_
   rintro e v3 ⟨b1, n1, c1, rfl, ho, gg⟩
   have QA : Hid (OwnS v2.heap.size v3 b1 n1 (turns m (-(c : Int)) (invL m (l.take n)))) := Lib.hid (ho.toS.mono KB.out.size)
   replace KB := Lib.hid (below_go KB.out gg KB.out.size)
   have QB2 : Hid (OwnSIn v1.heap.size v2.heap.size v3 b2 0 (l.drop n)) := Lib.hid ⟨QB.out.1.below KB.out, QB.out.2⟩
   replace A := Lib.hid (A.out.below KB.out)
   replace S := Lib.hid (S.out.below KB.out)
   replace Z1 := Lib.hid (Z1.out.below KB.out)
   replace Z2 := Lib.hid (Z2.out.below KB.out)
   replace B := Lib.hid (B.out.trans (KB.out.mono B.out.size))
   clear ho gg hinv
   go_wp2_with fail
   refine hK.out _ _ ?_ (fun hHeld => ?_)
   ·first | with_reducible exact SH.out _ KB.out | with_reducible exact ⟨A.out.cells, S.out.cells⟩
   clear hK K
   try simp only [Act.put, List.setIfInBounds_toArray, List.set_cons_zero, List.set_cons_succ]
   refine wpAnyH_ready (rs := [9]) (by kernel_rfl) (by simp) ?_
   refine AllReadyH.cons (o := { dst := none, op := Op.store 28 (Operand.tmp 2) (Operand.tmp 32), type := 0, pos := "l03_normal.go:125", after := #[{ on := 1, ground := Ground.data }, { on := 1, ground := Ground.chain }, { on := 0, ground := Ground.phase }, { on := 1, ground := Ground.phase }, { on := 2, ground := Ground.textOnly Departure.lateStores }, { on := 3, ground := Ground.textOnly Departure.lateStores }, { on := 4, ground := Ground.textOnly Departure.lateStores }, { on := 5, ground := Ground.textOnly Departure.lateStores }, { on := 6, ground := Ground.textOnly Departure.lateStoresUnsure }, { on := 7, ground := Ground.textOnly Departure.lateStores }, { on := 8, ground := Ground.textOnly Departure.lateStores }], guard := none }) rfl (fun K hK => ?_) ?_
   ·obtain ⟨z0, ⟨z1, z2, z3⟩, z4, z5, z6⟩ := Z1.out
    go_simp
    clear z0 z1 z2 z3 z4 z5 z6
    have hs0 := HS0.out
    have hv1 := HV1.out
    have hv2 := HV2.out
    have hk3 := KB.out.size
    replace A := Lib.hid (A.out.set3 (g2 := w.heap.size + 1) (by omega) (.int .i64 m) (.int .i64 ip) (.slice b1 n1 c1))
    replace S := Lib.hid (S.out.set3 (g2 := w.heap.size + 1) (by omega) (.int .i64 m) (.int .i64 ip) (.slice b1 n1 c1))
    replace Z1 := Lib.hid (Z1.out.fill (.int .i64 m) (.int .i64 ip) (.slice b1 n1 c1))
    replace Z2 := Lib.hid (Z2.out.set3 (g2 := w.heap.size + 1) (by omega) (.int .i64 m) (.int .i64 ip) (.slice b1 n1 c1))
    replace QA := Lib.hid (QA.out.set3 (g2 := w.heap.size + 1) (by omega) (.int .i64 m) (.int .i64 ip) (.slice b1 n1 c1))
    replace QB2 : Hid (OwnSIn v1.heap.size v2.heap.size _ b2 0 (l.drop n)) := Lib.hid ⟨QB2.out.1.set3 (g2 := w.heap.size + 1) (by omega) (.int .i64 m) (.int .i64 ip) (.slice b1 n1 c1), QB2.out.2⟩
    replace B := Lib.hid (below_set3 (g2 := w.heap.size + 1) B.out (by omega) (.int .i64 m) (.int .i64 ip) (.slice b1 n1 c1))
    clear hs0 hv1 hv2 hk3
    obtain ⟨U8, hU8⟩ : ∃ U, U = (((v3.setCell ⟨w.heap.size + 1, 0, none⟩ (.int .i64 m)).setCell ⟨w.heap.size + 1, 1, none⟩ (.int .i64 ip)).setCell ⟨w.heap.size + 1, 2, none⟩ (.slice b1 n1 c1)) := ⟨_, rfl⟩
    rw [← hU8] at A S Z1 Z2 QA QB2 B ⊢
    clear hU8
    refine hK.out _ _ ?_ (fun hHeld => ?_)
    ·first | with_reducible exact SH.out _ KB.out | with_reducible exact ⟨A.out.cells, S.out.cells⟩
    clear hK K
    try simp only [Act.put, List.setIfInBounds_toArray, List.set_cons_zero, List.set_cons_succ]
    refine wpAnyH_ready (rs := [10]) (by kernel_rfl) (by simp) ?_
    refine AllReadyH.cons (o := { dst := none, op := Op.store 28 (Operand.tmp 3) (Operand.tmp 39), type := 0, pos := "l03_normal.go:125", after := #[{ on := 8, ground := Ground.data }, { on := 9, ground := Ground.chain }, { on := 0, ground := Ground.phase }, { on := 1, ground := Ground.phase }, { on := 2, ground := Ground.phase }, { on := 3, ground := Ground.phase }, { on := 4, ground := Ground.phase }, { on := 5, ground := Ground.phase }, { on := 6, ground := Ground.phase }, { on := 7, ground := Ground.phase }, { on := 8, ground := Ground.phase }, { on := 9, ground := Ground.phase }], guard := none }) rfl (fun K hK => ?_) ?_
    ·obtain ⟨z0, ⟨z1, z2, z3⟩, z4, z5, z6⟩ := Z2.out
     go_simp
     clear z0 z1 z2 z3 z4 z5 z6
     have hs0 := HS0.out
     have hv1 := HV1.out
     have hv2 := HV2.out
     have hk3 := KB.out.size
     replace A := Lib.hid (A.out.set3 (g2 := w.heap.size + 1 + 1) (by omega) (.int .i64 m) (.int .i64 0) (.slice b2 0 d2))
     replace S := Lib.hid (S.out.set3 (g2 := w.heap.size + 1 + 1) (by omega) (.int .i64 m) (.int .i64 0) (.slice b2 0 d2))
     replace Z1 := Lib.hid (Z1.out.set3 (g2 := w.heap.size + 1 + 1) (by omega) (.int .i64 m) (.int .i64 0) (.slice b2 0 d2))
     replace Z2 := Lib.hid (Z2.out.fill (.int .i64 m) (.int .i64 0) (.slice b2 0 d2))
     replace QA := Lib.hid (QA.out.set3 (g2 := w.heap.size + 1 + 1) (by omega) (.int .i64 m) (.int .i64 0) (.slice b2 0 d2))
     replace QB2 : Hid (OwnSIn v1.heap.size v2.heap.size _ b2 0 (l.drop n)) := Lib.hid ⟨QB2.out.1.set3 (g2 := w.heap.size + 1 + 1) (by omega) (.int .i64 m) (.int .i64 0) (.slice b2 0 d2), QB2.out.2⟩
     replace B := Lib.hid (below_set3 (g2 := w.heap.size + 1 + 1) B.out (by omega) (.int .i64 m) (.int .i64 0) (.slice b2 0 d2))
     clear hs0 hv1 hv2 hk3
     obtain ⟨U9, hU9⟩ : ∃ U, U = (((U8.setCell ⟨w.heap.size + 1 + 1, 0, none⟩ (.int .i64 m)).setCell ⟨w.heap.size + 1 + 1, 1, none⟩ (.int .i64 0)).setCell ⟨w.heap.size + 1 + 1, 2, none⟩ (.slice b2 0 d2)) := ⟨_, rfl⟩
     rw [← hU9] at A S Z1 Z2 QA QB2 B ⊢
     clear hU9
     refine hK.out _ _ ?_ (fun hHeld => ?_)
     ·first | with_reducible exact SH.out _ KB.out | with_reducible exact ⟨A.out.cells, S.out.cells⟩
     clear hK K
     try simp only [Act.put, List.setIfInBounds_toArray, List.set_cons_zero, List.set_cons_succ]
     refine wpAnyH_done (by kernel_rfl) ?_ _
     go_wp2
     try rw [Exit.noGoto_ret]
     obtain ⟨e1, e2, e3⟩ := Z1.out.cells
     obtain ⟨f1, f2, f3⟩ := Z2.out.cells
     have hs0 := HS0.out
     have hv1 := HV1.out
     have hv2 := HV2.out
     exact bodyPost_ret (v := .tuple #[.agg #[(.int .i64 m), (.int .i64 ip), (.slice b1 n1 c1)], .agg #[(.int .i64 m), (.int .i64 0), (.slice b2 0 d2)]]) (by simp [results, Try.results75, go_sem, e1, e2, e3, f1, f2, f3]) rfl ⟨b1, n1, c1, b2, 0, d2, v2.heap.size, by first | rw [EV.out, HX.out] | (rw [EV.out]; simp), by omega, by rw [HC.out]; unfold fracA; rw [HK.out, Int.neg_neg]; exact QA.out, by rw [HC.out]; exact ⟨QB2.out.1.mono (by omega), QB2.out.2⟩, B.out⟩
    exact AllReadyH.nil
   exact AllReadyH.nil
  exact AllReadyH.nil

set_option maxRecDepth 100000 in
set_option maxHeartbeats 8000000 in
theorem fraction_P (m : Nat) (c : Nat) (hc : c ≤ 200) (ba off : Nat) (n cap : Nat) (hcap : n ≤ cap) (hn : n ≤ 200) (h0 : 0 < c) (hnp : 0 < n) (l : List (List Int)) (w : World) (hr : ReadsA w (some ⟨ba, off, none⟩) n l) (hl : Sims m l) :
  Calls Try.prog 75 #[.agg #[.int .i64 m, .int .i64 (c : Int), .slice (some ⟨ba, off, none⟩) n cap]] w (RetFr w m (c : Int) l) := by
 have HL := Lib.hid hr.len
 have HS := Lib.hid hl
 have R := Lib.hid hr
 clear hr hl
 have hcc : 0 ≤ cap := by omega
 have HC : Hid (endF (c : Int) l = 0) := Lib.hid (by unfold endF negK; have := HL.out; omega)
 have HK : Hid ((negK (c : Int) : Int) = -0) := Lib.hid (by unfold negK; omega)
 have HX : Hid (max (c : Int) 0 = (c : Int)) := Lib.hid (by omega)
 have A := Lib.hid (((At3.place w (.int .i64 m) (.int .i64 (c : Int)) (.slice (some ⟨ba, off, none⟩) n cap) 28 w.heap.size rfl).alloc (.cells #[.int .i64 0, .int .i64 0, .slice none 0 0] 28)).alloc (.cells #[.int .i64 0, .int .i64 0, .slice none 0 0] 28))
 have Z1 := Lib.hid ((At3.place (w.alloc (.cells #[.int .i64 m, .int .i64 (c : Int), .slice (some ⟨ba, off, none⟩) n cap] 28)) (.int .i64 0) (.int .i64 0) (.slice none 0 0) 28 (w.heap.size + 1) (by simp)).alloc (.cells #[.int .i64 0, .int .i64 0, .slice none 0 0] 28))
 have Z2 := Lib.hid (At3.place ((w.alloc (.cells #[.int .i64 m, .int .i64 (c : Int), .slice (some ⟨ba, off, none⟩) n cap] 28)).alloc (.cells #[.int .i64 0, .int .i64 0, .slice none 0 0] 28)) (.int .i64 0) (.int .i64 0) (.slice none 0 0) 28 (w.heap.size + 1 + 1) (by simp))
 have B := Lib.hid ((below2 w (.cells #[.int .i64 m, .int .i64 (c : Int), .slice (some ⟨ba, off, none⟩) n cap] 28) (.cells #[.int .i64 0, .int .i64 0, .slice none 0 0] 28)).alloc (by simp; omega) (.cells #[.int .i64 0, .int .i64 0, .slice none 0 0] 28))
 obtain ⟨W0, hW0⟩ : ∃ W0, W0 = (((w.alloc (.cells #[.int .i64 m, .int .i64 (c : Int), .slice (some ⟨ba, off, none⟩) n cap] 28)).alloc (.cells #[.int .i64 0, .int .i64 0, .slice none 0 0] 28)).alloc (.cells #[.int .i64 0, .int .i64 0, .slice none 0 0] 28)) := ⟨_, rfl⟩
 have hs0 : W0.heap.size = w.heap.size + 1 + 1 + 1 := by rw [hW0]; simp
 rw [← hW0] at A Z1 Z2 B
 have HW0 := Lib.hid hW0
 clear hW0
 have HS0 := Lib.hid hs0
 clear hs0
 go_enter Try.func75, Try.ntmps75
 go_upto_region 1 with fail
 rw [← HW0.out]
 obtain ⟨q1, q2, q3⟩ := A.out.all
 go_upto_region 2 with fail
 clear q1 q2 q3
 go_cut [5] from 15 to 25 (fun x5 wx => x5 = .pointer (some ⟨W0.heap.size, 0, none⟩) ∧ At3 wx W0.heap.size (.int .i64 m) (.int .i64 0) (.slice (some ⟨ba, off, none⟩) 0 0) ∧ Below W0.heap.size W0 wx)
 case first =>
  have KB : Hid (Below W0.heap.size W0 W0.drew) := Lib.hid (Below.refl W0.heap.size W0).drew
  have SH : Hid (∀ X, Below W0.heap.size W0 X → X.cell? ⟨w.heap.size, 0, none⟩ = some (.int .i64 m) ∧ X.cell? ⟨w.heap.size, 1, none⟩ = some (.int .i64 (c : Int)) ∧ X.cell? ⟨w.heap.size, 2, none⟩ = some (.slice (some ⟨ba, off, none⟩) n cap)) := Lib.hid fun X h => (A.out.below h).all
  refine wp_region_held_drew (S := (fun w' => w'.cell? ⟨w.heap.size, 0, none⟩ = some (.int .i64 m) ∧ w'.cell? ⟨w.heap.size, 1, none⟩ = some (.int .i64 (c : Int)) ∧ w'.cell? ⟨w.heap.size, 2, none⟩ = some (.slice (some ⟨ba, off, none⟩) n cap))) (by kernel_rfl) ?_ (fun hHeld => ?_)
  ·with_reducible exact SH.out _ KB.out
  refine wpAnyH_take (i := 0) (oi := { dst := some 15, op := Op.fieldAddr 28 (Operand.tmp 1) 0, type := 0, pos := "l03_normal.go:123", after := #[], guard := none }) (v := ?_) rfl (by kernel_rfl) (by kernel_rfl) (by kernel_rfl) (fun _ _ _ h => h) (Or.inl ⟨by rfl, ?_⟩) (by assumption) ?_
  rotate_left
  ·intro w hSw
   (try dsimp only at hSw)
   go_simp
   try with_reducible rfl
  try simp only [Act.put, List.setIfInBounds_toArray, List.set_cons_zero, List.set_cons_succ]
  refine wpAnyH_take (i := 1) (oi := { dst := some 16, op := Op.load 2 (Operand.tmp 15), type := 2, pos := "l03_normal.go:123", after := #[{ on := 0, ground := Ground.data }], guard := none }) (v := ?_) rfl (by kernel_rfl) (by kernel_rfl) (by kernel_rfl) (fun _ _ _ h => h) (Or.inl ⟨by rfl, ?_⟩) (by assumption) ?_
  rotate_left
  ·intro w hSw
   (try dsimp only at hSw)
   go_simp
   try with_reducible rfl
  try simp only [Act.put, List.setIfInBounds_toArray, List.set_cons_zero, List.set_cons_succ]
  refine wpAnyH_take (i := 2) (oi := { dst := some 17, op := Op.fieldAddr 28 (Operand.tmp 1) 1, type := 0, pos := "l03_normal.go:123", after := #[], guard := none }) (v := ?_) rfl (by kernel_rfl) (by kernel_rfl) (by kernel_rfl) (fun _ _ _ h => h) (Or.inl ⟨by rfl, ?_⟩) (by assumption) ?_
  rotate_left
  ·intro w hSw
   (try dsimp only at hSw)
   go_simp
   try with_reducible rfl
  try simp only [Act.put, List.setIfInBounds_toArray, List.set_cons_zero, List.set_cons_succ]
  refine wpAnyH_take (i := 3) (oi := { dst := some 18, op := Op.load 2 (Operand.tmp 17), type := 2, pos := "l03_normal.go:123", after := #[{ on := 2, ground := Ground.data }], guard := none }) (v := ?_) rfl (by kernel_rfl) (by kernel_rfl) (by kernel_rfl) (fun _ _ _ h => h) (Or.inl ⟨by rfl, ?_⟩) (by assumption) ?_
  rotate_left
  ·intro w hSw
   (try dsimp only at hSw)
   go_simp
   try with_reducible rfl
  try simp only [Act.put, List.setIfInBounds_toArray, List.set_cons_zero, List.set_cons_succ]
  refine wpAnyH_take (i := 4) (oi := { dst := some 19, op := Op.call { callee := Callee.builtin Builtin.min, args := #[Operand.tmp 18, Operand.const (Value.int IntKind.i64 0)], argTypes := #[2, 2] }, type := 2, pos := "l03_normal.go:123", after := #[{ on := 3, ground := Ground.data }], guard := none }) (v := ?_) rfl (by kernel_rfl) (by kernel_rfl) (by kernel_rfl) (fun _ _ _ h => h) (Or.inl ⟨by rfl, ?_⟩) (by assumption) ?_
  rotate_left
  ·intro w hSw
   (try dsimp only at hSw)
   go_simp
   try with_reducible rfl
  try simp only [Act.put, List.setIfInBounds_toArray, List.set_cons_zero, List.set_cons_succ]
  refine wpAnyH_take (i := 5) (oi := { dst := some 20, op := Op.fieldAddr 28 (Operand.tmp 1) 2, type := 0, pos := "l03_normal.go:123", after := #[], guard := none }) (v := ?_) rfl (by kernel_rfl) (by kernel_rfl) (by kernel_rfl) (fun _ _ _ h => h) (Or.inl ⟨by rfl, ?_⟩) (by assumption) ?_
  rotate_left
  ·intro w hSw
   (try dsimp only at hSw)
   go_simp
   try with_reducible rfl
  try simp only [Act.put, List.setIfInBounds_toArray, List.set_cons_zero, List.set_cons_succ]
  refine wpAnyH_take (i := 6) (oi := { dst := some 21, op := Op.load 26 (Operand.tmp 20), type := 26, pos := "l03_normal.go:123", after := #[{ on := 5, ground := Ground.data }], guard := none }) (v := ?_) rfl (by kernel_rfl) (by kernel_rfl) (by kernel_rfl) (fun _ _ _ h => h) (Or.inl ⟨by rfl, ?_⟩) (by assumption) ?_
  rotate_left
  ·intro w hSw
   (try dsimp only at hSw)
   go_simp
   try with_reducible rfl
  try simp only [Act.put, List.setIfInBounds_toArray, List.set_cons_zero, List.set_cons_succ]
  refine wpAnyH_take (i := 7) (oi := { dst := some 22, op := Op.move (Operand.tmp 4), type := 3, pos := "l03_normal.go:123", after := #[], guard := none }) (v := ?_) rfl (by kernel_rfl) (by kernel_rfl) (by kernel_rfl) (fun _ _ _ h => h) (Or.inl ⟨by rfl, ?_⟩) (by assumption) ?_
  rotate_left
  ·intro w hSw
   (try dsimp only at hSw)
   go_simp
   try with_reducible rfl
  try simp only [Act.put, List.setIfInBounds_toArray, List.set_cons_zero, List.set_cons_succ]
  refine wpAnyH_take (i := 8) (oi := { dst := some 23, op := Op.move (Operand.tmp 4), type := 3, pos := "l03_normal.go:123", after := #[], guard := none }) (v := ?_) rfl (by kernel_rfl) (by kernel_rfl) (by kernel_rfl) (fun _ _ _ h => h) (Or.inl ⟨by rfl, ?_⟩) (by assumption) ?_
  rotate_left
  ·intro w hSw
   (try dsimp only at hSw)
   go_simp
   try with_reducible rfl
  try simp only [Act.put, List.setIfInBounds_toArray, List.set_cons_zero, List.set_cons_succ]
  refine wpAnyH_take (i := 9) (oi := { dst := some 24, op := Op.slice 26 (Operand.tmp 21) none (some (Operand.tmp 22)) (some (Operand.tmp 23)), type := 26, pos := "l03_normal.go:123", after := #[{ on := 6, ground := Ground.data }, { on := 7, ground := Ground.data }, { on := 8, ground := Ground.data }], guard := none }) (v := ?_) rfl (by kernel_rfl) (by kernel_rfl) (by kernel_rfl) (fun _ _ _ h => h) (Or.inl ⟨by rfl, ?_⟩) (by assumption) ?_
  rotate_left
  ·intro w hSw
   (try dsimp only at hSw)
   go_simp
   try with_reducible rfl
  try simp only [Act.put, List.setIfInBounds_toArray, List.set_cons_zero, List.set_cons_succ]
  refine wpAnyH_take (i := 10) (oi := { dst := some 25, op := Op.build 28 #[(0, Operand.tmp 16), (1, Operand.tmp 19), (2, Operand.tmp 24)], type := 28, pos := "l03_normal.go:123", after := #[{ on := 1, ground := Ground.data }, { on := 4, ground := Ground.data }, { on := 9, ground := Ground.data }], guard := none }) (v := ?_) rfl (by kernel_rfl) (by kernel_rfl) (by kernel_rfl) (fun _ _ _ h => h) (Or.inl ⟨by rfl, ?_⟩) (by assumption) ?_
  rotate_left
  ·intro w hSw
   (try dsimp only at hSw)
   go_simp
   try with_reducible rfl
  try simp only [Act.put, List.setIfInBounds_toArray, List.set_cons_zero, List.set_cons_succ]
  refine wpAnyH_ready (rs := [11]) (by kernel_rfl) (by simp) ?_
  refine AllReadyH.cons (o := { dst := some 5, op := Op.alloc 28, type := 0, pos := "l03_normal.go:123", after := #[], guard := none }) rfl (fun K hK => ?_) ?_
  ·go_simp
   have ZZ : Hid (At3 (W0.alloc (.cells #[.int .i64 0, .int .i64 0, .slice none 0 0] 28)).drew (W0.heap.size) (.int .i64 0) (.int .i64 0) (.slice none 0 0)) := Lib.hid ((At3.place W0 (.int .i64 0) (.int .i64 0) (.slice none 0 0) 28 (W0.heap.size) (by simp)).drew)
   replace KB : Hid (Below W0.heap.size W0 (W0.alloc (.cells #[.int .i64 0, .int .i64 0, .slice none 0 0] 28)).drew) := Lib.hid (KB.out.alloc KB.out.size (.cells #[.int .i64 0, .int .i64 0, .slice none 0 0] 28))
   refine hK.out _ _ ?_ (fun hHeld => ?_)
   ·with_reducible exact SH.out _ KB.out
   clear hK K
   try simp only [Act.put, List.setIfInBounds_toArray, List.set_cons_zero, List.set_cons_succ]
   refine wpAnyH_ready (rs := [12]) (by kernel_rfl) (by simp) ?_
   refine AllReadyH.cons (o := { dst := none, op := Op.store 28 (Operand.tmp 5) (Operand.tmp 25), type := 0, pos := "l03_normal.go:123", after := #[{ on := 11, ground := Ground.data }, { on := 10, ground := Ground.data }, { on := 0, ground := Ground.phase }, { on := 1, ground := Ground.phase }, { on := 2, ground := Ground.phase }, { on := 3, ground := Ground.phase }, { on := 4, ground := Ground.phase }, { on := 5, ground := Ground.phase }, { on := 6, ground := Ground.phase }, { on := 7, ground := Ground.phase }, { on := 8, ground := Ground.phase }, { on := 9, ground := Ground.phase }, { on := 10, ground := Ground.phase }, { on := 11, ground := Ground.phase }], guard := none }) rfl (fun K hK => ?_) ?_
   ·obtain ⟨z0, ⟨z1, z2, z3⟩, z4, z5, z6⟩ := ZZ.out
    go_simp
    clear z0 z1 z2 z3 z4 z5 z6 KB
    have KB : Hid (Below W0.heap.size W0 (W0.alloc (.cells #[.int .i64 m, .int .i64 0, .slice (some ⟨ba, off, none⟩) 0 0] 28)).drew) := Lib.hid ((below1 W0 _).drew)
    refine hK.out _ _ ?_ (fun hHeld => ?_)
    ·with_reducible exact SH.out _ KB.out
    clear hK K
    try simp only [Act.put, List.setIfInBounds_toArray, List.set_cons_zero, List.set_cons_succ]
    refine wpAnyH_done (by kernel_rfl) ?_ _
    go_wp2_with fail
    go_meet
    exact ⟨rfl, (At3.place W0 _ _ _ 28 W0.heap.size rfl).drew, (below1 W0 _).drew⟩
   exact AllReadyH.nil
  exact AllReadyH.nil
 case rest =>
  obtain ⟨v1, hwc⟩ : ∃ x, x = wc := ⟨_, rfl⟩; subst hwc
  obtain ⟨rfl, hS, hb⟩ := hcut
  have S := Lib.hid hS
  have hv1 := S.out.1
  replace A := Lib.hid (A.out.below hb)
  replace Z1 := Lib.hid (Z1.out.below hb)
  replace Z2 := Lib.hid (Z2.out.below hb)
  replace B := Lib.hid (below_go B.out hb B.out.size)
  clear hS hb
  have HV1 := Lib.hid hv1
  clear hv1
  obtain ⟨q1, q2, q3⟩ := A.out.all
  go_wp2_with fail
  refine (clone_any (some ⟨ba, off, none⟩) n cap (l.drop 0) _ ((by rw [List.drop_zero]; exact R.out.below B.out)) (by omega)).mono ?_
  rintro e v2 ⟨b2, d2, rfl, ho, hb⟩
  have QB : Hid (OwnSIn v1.heap.size v2.heap.size v2 b2 n (l.drop 0)) := Lib.hid (by have := ho.within; simpa using this)
  replace A := Lib.hid (A.out.below hb)
  replace S := Lib.hid (S.out.below hb)
  replace Z1 := Lib.hid (Z1.out.below hb)
  replace Z2 := Lib.hid (Z2.out.below hb)
  have HV2 := Lib.hid hb.size
  replace B := Lib.hid (below_go B.out hb B.out.size)
  clear ho hb q1 q2 q3
  obtain ⟨q1, q2, q3⟩ := A.out.all
  go_upto_region 4 with fail
  clear q1 q2 q3
  have KB : Hid (Below v2.heap.size v2 v2.drew) := Lib.hid (Below.refl v2.heap.size v2).drew
  have SH : Hid (∀ X, Below v2.heap.size v2 X → (X.cell? ⟨w.heap.size, 0, none⟩ = some (.int .i64 m) ∧ X.cell? ⟨w.heap.size, 1, none⟩ = some (.int .i64 (c : Int)) ∧ X.cell? ⟨w.heap.size, 2, none⟩ = some (.slice (some ⟨ba, off, none⟩) n cap)) ∧ (X.cell? ⟨W0.heap.size, 0, none⟩ = some (.int .i64 m) ∧ X.cell? ⟨W0.heap.size, 1, none⟩ = some (.int .i64 0) ∧ X.cell? ⟨W0.heap.size, 2, none⟩ = some (.slice (some ⟨ba, off, none⟩) 0 0))) := Lib.hid fun X h => ⟨(A.out.below h).cells, (S.out.below h).cells⟩
  obtain ⟨ip, hip⟩ : ∃ ip, ip = -((0 : Nat) : Int) - 0 := ⟨_, rfl⟩
  have EV : Hid ((negK (c : Int) : Int) - (endF (c : Int) l : Nat) = ip) := Lib.hid (by rw [HK.out, HC.out, hip]; omega)
  refine wp_region_held_drew (S := (fun w' => (w'.cell? ⟨w.heap.size, 0, none⟩ = some (.int .i64 m) ∧ w'.cell? ⟨w.heap.size, 1, none⟩ = some (.int .i64 (c : Int)) ∧ w'.cell? ⟨w.heap.size, 2, none⟩ = some (.slice (some ⟨ba, off, none⟩) n cap)) ∧ (w'.cell? ⟨W0.heap.size, 0, none⟩ = some (.int .i64 m) ∧ w'.cell? ⟨W0.heap.size, 1, none⟩ = some (.int .i64 0) ∧ w'.cell? ⟨W0.heap.size, 2, none⟩ = some (.slice (some ⟨ba, off, none⟩) 0 0)))) (by kernel_rfl) ?_ (fun hHeld => ?_)
  ·first | with_reducible exact SH.out _ KB.out | with_reducible exact ⟨A.out.cells, S.out.cells⟩
  refine wpAnyH_take (i := 0) (oi := { dst := some 31, op := Op.load 28 (Operand.tmp 5), type := 28, pos := "l03_normal.go:125", after := #[], guard := none }) (v := ?_) rfl (by kernel_rfl) (by kernel_rfl) (by kernel_rfl) (fun _ _ _ h => h) (Or.inl ⟨by rfl, ?_⟩) (by assumption) ?_
  rotate_left
  ·intro w hSw
   (try dsimp only at hSw)
   go_simp
   try with_reducible rfl
  try simp only [Act.put, List.setIfInBounds_toArray, List.set_cons_zero, List.set_cons_succ]
  refine wpAnyH_take (i := 2) (oi := { dst := some 33, op := Op.fieldAddr 28 (Operand.tmp 1) 0, type := 0, pos := "l03_normal.go:125", after := #[{ on := 9, ground := Ground.gcOnly Departure.lateStores }], guard := none }) (v := ?_) rfl (by kernel_rfl) (by kernel_rfl) (by kernel_rfl) (fun _ _ _ h => h) (Or.inl ⟨by rfl, ?_⟩) (by assumption) ?_
  rotate_left
  ·intro w hSw
   (try dsimp only at hSw)
   go_simp
   try with_reducible rfl
  try simp only [Act.put, List.setIfInBounds_toArray, List.set_cons_zero, List.set_cons_succ]
  refine wpAnyH_take (i := 3) (oi := { dst := some 34, op := Op.load 2 (Operand.tmp 33), type := 2, pos := "l03_normal.go:125", after := #[{ on := 2, ground := Ground.data }, { on := 9, ground := Ground.gcOnly Departure.lateStores }], guard := none }) (v := ?_) rfl (by kernel_rfl) (by kernel_rfl) (by kernel_rfl) (fun _ _ _ h => h) (Or.inl ⟨by rfl, ?_⟩) (by assumption) ?_
  rotate_left
  ·intro w hSw
   (try dsimp only at hSw)
   go_simp
   try with_reducible rfl
  try simp only [Act.put, List.setIfInBounds_toArray, List.set_cons_zero, List.set_cons_succ]
  refine wpAnyH_take (i := 4) (oi := { dst := some 35, op := Op.fieldAddr 28 (Operand.tmp 1) 1, type := 0, pos := "l03_normal.go:125", after := #[], guard := none }) (v := ?_) rfl (by kernel_rfl) (by kernel_rfl) (by kernel_rfl) (fun _ _ _ h => h) (Or.inl ⟨by rfl, ?_⟩) (by assumption) ?_
  rotate_left
  ·intro w hSw
   (try dsimp only at hSw)
   go_simp
   try with_reducible rfl
  try simp only [Act.put, List.setIfInBounds_toArray, List.set_cons_zero, List.set_cons_succ]
  refine wpAnyH_take (i := 5) (oi := { dst := some 36, op := Op.load 2 (Operand.tmp 35), type := 2, pos := "l03_normal.go:125", after := #[{ on := 4, ground := Ground.data }], guard := none }) (v := ?_) rfl (by kernel_rfl) (by kernel_rfl) (by kernel_rfl) (fun _ _ _ h => h) (Or.inl ⟨by rfl, ?_⟩) (by assumption) ?_
  rotate_left
  ·intro w hSw
   (try dsimp only at hSw)
   go_simp
   try with_reducible rfl
  try simp only [Act.put, List.setIfInBounds_toArray, List.set_cons_zero, List.set_cons_succ]
  refine wpAnyH_take (i := 6) (oi := { dst := some 37, op := Op.call { callee := Callee.builtin Builtin.max, args := #[Operand.tmp 36, Operand.const (Value.int IntKind.i64 0)], argTypes := #[2, 2] }, type := 2, pos := "l03_normal.go:125", after := #[{ on := 5, ground := Ground.data }], guard := none }) (v := ?_) rfl (by kernel_rfl) (by kernel_rfl) (by kernel_rfl) (fun _ _ _ h => h) (Or.inl ⟨by rfl, ?_⟩) (by assumption) ?_
  rotate_left
  ·intro w hSw
   (try dsimp only at hSw)
   go_simp
   try with_reducible rfl
  try simp only [Act.put, List.setIfInBounds_toArray, List.set_cons_zero, List.set_cons_succ]
  refine wpAnyH_take (i := 7) (oi := { dst := some 38, op := Op.move (Operand.tmp 6), type := 26, pos := "l03_normal.go:125", after := #[{ on := 9, ground := Ground.gcOnly Departure.lateStores }], guard := none }) (v := ?_) rfl (by kernel_rfl) (by kernel_rfl) (by kernel_rfl) (fun _ _ _ h => h) (Or.inl ⟨by rfl, ?_⟩) (by assumption) ?_
  rotate_left
  ·intro w hSw
   (try dsimp only at hSw)
   go_simp
   try with_reducible rfl
  try simp only [Act.put, List.setIfInBounds_toArray, List.set_cons_zero, List.set_cons_succ]
  refine wpAnyH_take (i := 8) (oi := { dst := some 39, op := Op.build 28 #[(0, Operand.tmp 34), (1, Operand.tmp 37), (2, Operand.tmp 38)], type := 28, pos := "l03_normal.go:125", after := #[{ on := 3, ground := Ground.data }, { on := 6, ground := Ground.data }, { on := 7, ground := Ground.data }, { on := 9, ground := Ground.gcOnly Departure.lateStores }], guard := none }) (v := ?_) rfl (by kernel_rfl) (by kernel_rfl) (by kernel_rfl) (fun _ _ _ h => h) (Or.inl ⟨by rfl, ?_⟩) (by assumption) ?_
  rotate_left
  ·intro w hSw
   (try dsimp only at hSw)
   go_simp
   try with_reducible rfl
  try simp only [Act.put, List.setIfInBounds_toArray, List.set_cons_zero, List.set_cons_succ]
  refine wpAnyH_ready (rs := [1]) (by kernel_rfl) (by simp) ?_
  refine AllReadyH.cons (o := { dst := some 32, op := Op.call { callee := Callee.value (Operand.func 73), args := #[Operand.tmp 31], argTypes := #[28] }, type := 28, pos := "l03_normal.go:125", after := #[{ on := 0, ground := Ground.data }], guard := none }) rfl (fun K hK => ?_) ?_
  ·go_simp
   have hinv := fun W (hW : Below v2.heap.size v2 W) => inverse_any m 0 (by omega) (some ⟨ba, off, none⟩) 0 0 (l.take 0) W ((R.out.first 0 (Nat.zero_le _)).below (B.out.trans (hW.mono B.out.size))) (fun x hx => HS.out x (List.mem_of_mem_take hx)) (by omega)
   rw [← hip] at hinv
   clear hip
   refine (hinv _ KB.out).mono ?_
   rintro e v3 ⟨b1, n1, c1, rfl, ho, gg⟩
   have QA : Hid (OwnS v2.heap.size v3 b1 n1 (turns m 0 (invL m (l.take 0)))) := Lib.hid (ho.toS.mono KB.out.size)
   replace KB := Lib.hid (below_go KB.out gg KB.out.size)
   have QB2 : Hid (OwnSIn v1.heap.size v2.heap.size v3 b2 n (l.drop 0)) := Lib.hid ⟨QB.out.1.below KB.out, QB.out.2⟩
   replace A := Lib.hid (A.out.below KB.out)
   replace S := Lib.hid (S.out.below KB.out)
   replace Z1 := Lib.hid (Z1.out.below KB.out)
   replace Z2 := Lib.hid (Z2.out.below KB.out)
   replace B := Lib.hid (B.out.trans (KB.out.mono B.out.size))
   clear ho gg hinv
   go_wp2_with fail
   refine hK.out _ _ ?_ (fun hHeld => ?_)
   ·first | with_reducible exact SH.out _ KB.out | with_reducible exact ⟨A.out.cells, S.out.cells⟩
   clear hK K
   try simp only [Act.put, List.setIfInBounds_toArray, List.set_cons_zero, List.set_cons_succ]
   refine wpAnyH_ready (rs := [9]) (by kernel_rfl) (by simp) ?_
   refine AllReadyH.cons (o := { dst := none, op := Op.store 28 (Operand.tmp 2) (Operand.tmp 32), type := 0, pos := "l03_normal.go:125", after := #[{ on := 1, ground := Ground.data }, { on := 1, ground := Ground.chain }, { on := 0, ground := Ground.phase }, { on := 1, ground := Ground.phase }, { on := 2, ground := Ground.textOnly Departure.lateStores }, { on := 3, ground := Ground.textOnly Departure.lateStores }, { on := 4, ground := Ground.textOnly Departure.lateStores }, { on := 5, ground := Ground.textOnly Departure.lateStores }, { on := 6, ground := Ground.textOnly Departure.lateStoresUnsure }, { on := 7, ground := Ground.textOnly Departure.lateStores }, { on := 8, ground := Ground.textOnly Departure.lateStores }], guard := none }) rfl (fun K hK => ?_) ?_
   ·obtain ⟨z0, ⟨z1, z2, z3⟩, z4, z5, z6⟩ := Z1.out
    go_simp
    clear z0 z1 z2 z3 z4 z5 z6
    have hs0 := HS0.out
    have hv1 := HV1.out
    have hv2 := HV2.out
    have hk3 := KB.out.size
    replace A := Lib.hid (A.out.set3 (g2 := w.heap.size + 1) (by omega) (.int .i64 m) (.int .i64 ip) (.slice b1 n1 c1))
    replace S := Lib.hid (S.out.set3 (g2 := w.heap.size + 1) (by omega) (.int .i64 m) (.int .i64 ip) (.slice b1 n1 c1))
    replace Z1 := Lib.hid (Z1.out.fill (.int .i64 m) (.int .i64 ip) (.slice b1 n1 c1))
    replace Z2 := Lib.hid (Z2.out.set3 (g2 := w.heap.size + 1) (by omega) (.int .i64 m) (.int .i64 ip) (.slice b1 n1 c1))
    replace QA := Lib.hid (QA.out.set3 (g2 := w.heap.size + 1) (by omega) (.int .i64 m) (.int .i64 ip) (.slice b1 n1 c1))
    replace QB2 : Hid (OwnSIn v1.heap.size v2.heap.size _ b2 n (l.drop 0)) := Lib.hid ⟨QB2.out.1.set3 (g2 := w.heap.size + 1) (by omega) (.int .i64 m) (.int .i64 ip) (.slice b1 n1 c1), QB2.out.2⟩
    replace B := Lib.hid (below_set3 (g2 := w.heap.size + 1) B.out (by omega) (.int .i64 m) (.int .i64 ip) (.slice b1 n1 c1))
    clear hs0 hv1 hv2 hk3
    obtain ⟨U8, hU8⟩ : ∃ U, U = (((v3.setCell ⟨w.heap.size + 1, 0, none⟩ (.int .i64 m)).setCell ⟨w.heap.size + 1, 1, none⟩ (.int .i64 ip)).setCell ⟨w.heap.size + 1, 2, none⟩ (.slice b1 n1 c1)) := ⟨_, rfl⟩
    rw [← hU8] at A S Z1 Z2 QA QB2 B ⊢
    clear hU8
    refine hK.out _ _ ?_ (fun hHeld => ?_)
    ·first | with_reducible exact SH.out _ KB.out | with_reducible exact ⟨A.out.cells, S.out.cells⟩
    clear hK K
    try simp only [Act.put, List.setIfInBounds_toArray, List.set_cons_zero, List.set_cons_succ]
    refine wpAnyH_ready (rs := [10]) (by kernel_rfl) (by simp) ?_
    refine AllReadyH.cons (o := { dst := none, op := Op.store 28 (Operand.tmp 3) (Operand.tmp 39), type := 0, pos := "l03_normal.go:125", after := #[{ on := 8, ground := Ground.data }, { on := 9, ground := Ground.chain }, { on := 0, ground := Ground.phase }, { on := 1, ground := Ground.phase }, { on := 2, ground := Ground.phase }, { on := 3, ground := Ground.phase }, { on := 4, ground := Ground.phase }, { on := 5, ground := Ground.phase }, { on := 6, ground := Ground.phase }, { on := 7, ground := Ground.phase }, { on := 8, ground := Ground.phase }, { on := 9, ground := Ground.phase }], guard := none }) rfl (fun K hK => ?_) ?_
    ·obtain ⟨z0, ⟨z1, z2, z3⟩, z4, z5, z6⟩ := Z2.out
     go_simp
     clear z0 z1 z2 z3 z4 z5 z6
     have hs0 := HS0.out
     have hv1 := HV1.out
     have hv2 := HV2.out
     have hk3 := KB.out.size
     replace A := Lib.hid (A.out.set3 (g2 := w.heap.size + 1 + 1) (by omega) (.int .i64 m) (.int .i64 (c : Int)) (.slice b2 n d2))
     replace S := Lib.hid (S.out.set3 (g2 := w.heap.size + 1 + 1) (by omega) (.int .i64 m) (.int .i64 (c : Int)) (.slice b2 n d2))
     replace Z1 := Lib.hid (Z1.out.set3 (g2 := w.heap.size + 1 + 1) (by omega) (.int .i64 m) (.int .i64 (c : Int)) (.slice b2 n d2))
     replace Z2 := Lib.hid (Z2.out.fill (.int .i64 m) (.int .i64 (c : Int)) (.slice b2 n d2))
     replace QA := Lib.hid (QA.out.set3 (g2 := w.heap.size + 1 + 1) (by omega) (.int .i64 m) (.int .i64 (c : Int)) (.slice b2 n d2))
     replace QB2 : Hid (OwnSIn v1.heap.size v2.heap.size _ b2 n (l.drop 0)) := Lib.hid ⟨QB2.out.1.set3 (g2 := w.heap.size + 1 + 1) (by omega) (.int .i64 m) (.int .i64 (c : Int)) (.slice b2 n d2), QB2.out.2⟩
     replace B := Lib.hid (below_set3 (g2 := w.heap.size + 1 + 1) B.out (by omega) (.int .i64 m) (.int .i64 (c : Int)) (.slice b2 n d2))
     clear hs0 hv1 hv2 hk3
     obtain ⟨U9, hU9⟩ : ∃ U, U = (((U8.setCell ⟨w.heap.size + 1 + 1, 0, none⟩ (.int .i64 m)).setCell ⟨w.heap.size + 1 + 1, 1, none⟩ (.int .i64 (c : Int))).setCell ⟨w.heap.size + 1 + 1, 2, none⟩ (.slice b2 n d2)) := ⟨_, rfl⟩
     rw [← hU9] at A S Z1 Z2 QA QB2 B ⊢
     clear hU9
     refine hK.out _ _ ?_ (fun hHeld => ?_)
     ·first | with_reducible exact SH.out _ KB.out | with_reducible exact ⟨A.out.cells, S.out.cells⟩
     clear hK K
     try simp only [Act.put, List.setIfInBounds_toArray, List.set_cons_zero, List.set_cons_succ]
     refine wpAnyH_done (by kernel_rfl) ?_ _
     go_wp2
     try rw [Exit.noGoto_ret]
     obtain ⟨e1, e2, e3⟩ := Z1.out.cells
     obtain ⟨f1, f2, f3⟩ := Z2.out.cells
     have hs0 := HS0.out
     have hv1 := HV1.out
     have hv2 := HV2.out
     exact bodyPost_ret (v := .tuple #[.agg #[(.int .i64 m), (.int .i64 ip), (.slice b1 n1 c1)], .agg #[(.int .i64 m), (.int .i64 (c : Int)), (.slice b2 n d2)]]) (by simp [results, Try.results75, go_sem, e1, e2, e3, f1, f2, f3]) rfl ⟨b1, n1, c1, b2, n, d2, v2.heap.size, by first | rw [EV.out, HX.out] | (rw [EV.out]; simp), by omega, by rw [HC.out]; unfold fracA; rw [HK.out, Int.neg_neg]; exact QA.out, by rw [HC.out]; exact ⟨QB2.out.1.mono (by omega), QB2.out.2⟩, B.out⟩
    exact AllReadyH.nil
   exact AllReadyH.nil
  exact AllReadyH.nil

set_option maxRecDepth 100000 in
set_option maxHeartbeats 8000000 in
theorem fraction_Z (m : Nat) (ba off : Nat) (n cap : Nat) (hcap : n ≤ cap) (hn : n ≤ 200) (hnp : 0 < n) (l : List (List Int)) (w : World) (hr : ReadsA w (some ⟨ba, off, none⟩) n l) (hl : Sims m l) :
  Calls Try.prog 75 #[.agg #[.int .i64 m, .int .i64 0, .slice (some ⟨ba, off, none⟩) n cap]] w (RetFr w m 0 l) := by
 have HL := Lib.hid hr.len
 have HS := Lib.hid hl
 have R := Lib.hid hr
 clear hr hl
 have hcc : 0 ≤ cap := by omega
 have HC : Hid (endF 0 l = 0) := Lib.hid (by unfold endF negK; have := HL.out; omega)
 have HK : Hid ((negK 0 : Int) = -0) := Lib.hid (by unfold negK; omega)
 have HX : Hid (max 0 0 = 0) := Lib.hid (by omega)
 have A := Lib.hid (((At3.place w (.int .i64 m) (.int .i64 0) (.slice (some ⟨ba, off, none⟩) n cap) 28 w.heap.size rfl).alloc (.cells #[.int .i64 0, .int .i64 0, .slice none 0 0] 28)).alloc (.cells #[.int .i64 0, .int .i64 0, .slice none 0 0] 28))
 have Z1 := Lib.hid ((At3.place (w.alloc (.cells #[.int .i64 m, .int .i64 0, .slice (some ⟨ba, off, none⟩) n cap] 28)) (.int .i64 0) (.int .i64 0) (.slice none 0 0) 28 (w.heap.size + 1) (by simp)).alloc (.cells #[.int .i64 0, .int .i64 0, .slice none 0 0] 28))
 have Z2 := Lib.hid (At3.place ((w.alloc (.cells #[.int .i64 m, .int .i64 0, .slice (some ⟨ba, off, none⟩) n cap] 28)).alloc (.cells #[.int .i64 0, .int .i64 0, .slice none 0 0] 28)) (.int .i64 0) (.int .i64 0) (.slice none 0 0) 28 (w.heap.size + 1 + 1) (by simp))
 have B := Lib.hid ((below2 w (.cells #[.int .i64 m, .int .i64 0, .slice (some ⟨ba, off, none⟩) n cap] 28) (.cells #[.int .i64 0, .int .i64 0, .slice none 0 0] 28)).alloc (by simp; omega) (.cells #[.int .i64 0, .int .i64 0, .slice none 0 0] 28))
 obtain ⟨W0, hW0⟩ : ∃ W0, W0 = (((w.alloc (.cells #[.int .i64 m, .int .i64 0, .slice (some ⟨ba, off, none⟩) n cap] 28)).alloc (.cells #[.int .i64 0, .int .i64 0, .slice none 0 0] 28)).alloc (.cells #[.int .i64 0, .int .i64 0, .slice none 0 0] 28)) := ⟨_, rfl⟩
 have hs0 : W0.heap.size = w.heap.size + 1 + 1 + 1 := by rw [hW0]; simp
 rw [← hW0] at A Z1 Z2 B
 have HW0 := Lib.hid hW0
 clear hW0
 have HS0 := Lib.hid hs0
 clear hs0
 go_enter Try.func75, Try.ntmps75
 go_upto_region 1 with fail
 rw [← HW0.out]
 obtain ⟨q1, q2, q3⟩ := A.out.all
 go_upto_region 2 with fail
 clear q1 q2 q3
 go_cut [5] from 15 to 25 (fun x5 wx => x5 = .pointer (some ⟨W0.heap.size, 0, none⟩) ∧ At3 wx W0.heap.size (.int .i64 m) (.int .i64 0) (.slice (some ⟨ba, off, none⟩) 0 0) ∧ Below W0.heap.size W0 wx)
 case first =>
  have KB : Hid (Below W0.heap.size W0 W0.drew) := Lib.hid (Below.refl W0.heap.size W0).drew
  have SH : Hid (∀ X, Below W0.heap.size W0 X → X.cell? ⟨w.heap.size, 0, none⟩ = some (.int .i64 m) ∧ X.cell? ⟨w.heap.size, 1, none⟩ = some (.int .i64 0) ∧ X.cell? ⟨w.heap.size, 2, none⟩ = some (.slice (some ⟨ba, off, none⟩) n cap)) := Lib.hid fun X h => (A.out.below h).all
  refine wp_region_held_drew (S := (fun w' => w'.cell? ⟨w.heap.size, 0, none⟩ = some (.int .i64 m) ∧ w'.cell? ⟨w.heap.size, 1, none⟩ = some (.int .i64 0) ∧ w'.cell? ⟨w.heap.size, 2, none⟩ = some (.slice (some ⟨ba, off, none⟩) n cap))) (by kernel_rfl) ?_ (fun hHeld => ?_)
  ·with_reducible exact SH.out _ KB.out
  refine wpAnyH_take (i := 0) (oi := { dst := some 15, op := Op.fieldAddr 28 (Operand.tmp 1) 0, type := 0, pos := "l03_normal.go:123", after := #[], guard := none }) (v := ?_) rfl (by kernel_rfl) (by kernel_rfl) (by kernel_rfl) (fun _ _ _ h => h) (Or.inl ⟨by rfl, ?_⟩) (by assumption) ?_
  rotate_left
  ·intro w hSw
   (try dsimp only at hSw)
   go_simp
   try with_reducible rfl
  try simp only [Act.put, List.setIfInBounds_toArray, List.set_cons_zero, List.set_cons_succ]
  refine wpAnyH_take (i := 1) (oi := { dst := some 16, op := Op.load 2 (Operand.tmp 15), type := 2, pos := "l03_normal.go:123", after := #[{ on := 0, ground := Ground.data }], guard := none }) (v := ?_) rfl (by kernel_rfl) (by kernel_rfl) (by kernel_rfl) (fun _ _ _ h => h) (Or.inl ⟨by rfl, ?_⟩) (by assumption) ?_
  rotate_left
  ·intro w hSw
   (try dsimp only at hSw)
   go_simp
   try with_reducible rfl
  try simp only [Act.put, List.setIfInBounds_toArray, List.set_cons_zero, List.set_cons_succ]
  refine wpAnyH_take (i := 2) (oi := { dst := some 17, op := Op.fieldAddr 28 (Operand.tmp 1) 1, type := 0, pos := "l03_normal.go:123", after := #[], guard := none }) (v := ?_) rfl (by kernel_rfl) (by kernel_rfl) (by kernel_rfl) (fun _ _ _ h => h) (Or.inl ⟨by rfl, ?_⟩) (by assumption) ?_
  rotate_left
  ·intro w hSw
   (try dsimp only at hSw)
   go_simp
   try with_reducible rfl
  try simp only [Act.put, List.setIfInBounds_toArray, List.set_cons_zero, List.set_cons_succ]
  refine wpAnyH_take (i := 3) (oi := { dst := some 18, op := Op.load 2 (Operand.tmp 17), type := 2, pos := "l03_normal.go:123", after := #[{ on := 2, ground := Ground.data }], guard := none }) (v := ?_) rfl (by kernel_rfl) (by kernel_rfl) (by kernel_rfl) (fun _ _ _ h => h) (Or.inl ⟨by rfl, ?_⟩) (by assumption) ?_
  rotate_left
  ·intro w hSw
   (try dsimp only at hSw)
   go_simp
   try with_reducible rfl
  try simp only [Act.put, List.setIfInBounds_toArray, List.set_cons_zero, List.set_cons_succ]
  refine wpAnyH_take (i := 4) (oi := { dst := some 19, op := Op.call { callee := Callee.builtin Builtin.min, args := #[Operand.tmp 18, Operand.const (Value.int IntKind.i64 0)], argTypes := #[2, 2] }, type := 2, pos := "l03_normal.go:123", after := #[{ on := 3, ground := Ground.data }], guard := none }) (v := ?_) rfl (by kernel_rfl) (by kernel_rfl) (by kernel_rfl) (fun _ _ _ h => h) (Or.inl ⟨by rfl, ?_⟩) (by assumption) ?_
  rotate_left
  ·intro w hSw
   (try dsimp only at hSw)
   go_simp
   try with_reducible rfl
  try simp only [Act.put, List.setIfInBounds_toArray, List.set_cons_zero, List.set_cons_succ]
  refine wpAnyH_take (i := 5) (oi := { dst := some 20, op := Op.fieldAddr 28 (Operand.tmp 1) 2, type := 0, pos := "l03_normal.go:123", after := #[], guard := none }) (v := ?_) rfl (by kernel_rfl) (by kernel_rfl) (by kernel_rfl) (fun _ _ _ h => h) (Or.inl ⟨by rfl, ?_⟩) (by assumption) ?_
  rotate_left
  ·intro w hSw
   (try dsimp only at hSw)
   go_simp
   try with_reducible rfl
  try simp only [Act.put, List.setIfInBounds_toArray, List.set_cons_zero, List.set_cons_succ]
  refine wpAnyH_take (i := 6) (oi := { dst := some 21, op := Op.load 26 (Operand.tmp 20), type := 26, pos := "l03_normal.go:123", after := #[{ on := 5, ground := Ground.data }], guard := none }) (v := ?_) rfl (by kernel_rfl) (by kernel_rfl) (by kernel_rfl) (fun _ _ _ h => h) (Or.inl ⟨by rfl, ?_⟩) (by assumption) ?_
  rotate_left
  ·intro w hSw
   (try dsimp only at hSw)
   go_simp
   try with_reducible rfl
  try simp only [Act.put, List.setIfInBounds_toArray, List.set_cons_zero, List.set_cons_succ]
  refine wpAnyH_take (i := 7) (oi := { dst := some 22, op := Op.move (Operand.tmp 4), type := 3, pos := "l03_normal.go:123", after := #[], guard := none }) (v := ?_) rfl (by kernel_rfl) (by kernel_rfl) (by kernel_rfl) (fun _ _ _ h => h) (Or.inl ⟨by rfl, ?_⟩) (by assumption) ?_
  rotate_left
  ·intro w hSw
   (try dsimp only at hSw)
   go_simp
   try with_reducible rfl
  try simp only [Act.put, List.setIfInBounds_toArray, List.set_cons_zero, List.set_cons_succ]
  refine wpAnyH_take (i := 8) (oi := { dst := some 23, op := Op.move (Operand.tmp 4), type := 3, pos := "l03_normal.go:123", after := #[], guard := none }) (v := ?_) rfl (by kernel_rfl) (by kernel_rfl) (by kernel_rfl) (fun _ _ _ h => h) (Or.inl ⟨by rfl, ?_⟩) (by assumption) ?_
  rotate_left
  ·intro w hSw
   (try dsimp only at hSw)
   go_simp
   try with_reducible rfl
  try simp only [Act.put, List.setIfInBounds_toArray, List.set_cons_zero, List.set_cons_succ]
  refine wpAnyH_take (i := 9) (oi := { dst := some 24, op := Op.slice 26 (Operand.tmp 21) none (some (Operand.tmp 22)) (some (Operand.tmp 23)), type := 26, pos := "l03_normal.go:123", after := #[{ on := 6, ground := Ground.data }, { on := 7, ground := Ground.data }, { on := 8, ground := Ground.data }], guard := none }) (v := ?_) rfl (by kernel_rfl) (by kernel_rfl) (by kernel_rfl) (fun _ _ _ h => h) (Or.inl ⟨by rfl, ?_⟩) (by assumption) ?_
  rotate_left
  ·intro w hSw
   (try dsimp only at hSw)
   go_simp
   try with_reducible rfl
  try simp only [Act.put, List.setIfInBounds_toArray, List.set_cons_zero, List.set_cons_succ]
  refine wpAnyH_take (i := 10) (oi := { dst := some 25, op := Op.build 28 #[(0, Operand.tmp 16), (1, Operand.tmp 19), (2, Operand.tmp 24)], type := 28, pos := "l03_normal.go:123", after := #[{ on := 1, ground := Ground.data }, { on := 4, ground := Ground.data }, { on := 9, ground := Ground.data }], guard := none }) (v := ?_) rfl (by kernel_rfl) (by kernel_rfl) (by kernel_rfl) (fun _ _ _ h => h) (Or.inl ⟨by rfl, ?_⟩) (by assumption) ?_
  rotate_left
  ·intro w hSw
   (try dsimp only at hSw)
   go_simp
   try with_reducible rfl
  try simp only [Act.put, List.setIfInBounds_toArray, List.set_cons_zero, List.set_cons_succ]
  refine wpAnyH_ready (rs := [11]) (by kernel_rfl) (by simp) ?_
  refine AllReadyH.cons (o := { dst := some 5, op := Op.alloc 28, type := 0, pos := "l03_normal.go:123", after := #[], guard := none }) rfl (fun K hK => ?_) ?_
  ·go_simp
   have ZZ : Hid (At3 (W0.alloc (.cells #[.int .i64 0, .int .i64 0, .slice none 0 0] 28)).drew (W0.heap.size) (.int .i64 0) (.int .i64 0) (.slice none 0 0)) := Lib.hid ((At3.place W0 (.int .i64 0) (.int .i64 0) (.slice none 0 0) 28 (W0.heap.size) (by simp)).drew)
   replace KB : Hid (Below W0.heap.size W0 (W0.alloc (.cells #[.int .i64 0, .int .i64 0, .slice none 0 0] 28)).drew) := Lib.hid (KB.out.alloc KB.out.size (.cells #[.int .i64 0, .int .i64 0, .slice none 0 0] 28))
   refine hK.out _ _ ?_ (fun hHeld => ?_)
   ·with_reducible exact SH.out _ KB.out
   clear hK K
   try simp only [Act.put, List.setIfInBounds_toArray, List.set_cons_zero, List.set_cons_succ]
   refine wpAnyH_ready (rs := [12]) (by kernel_rfl) (by simp) ?_
   refine AllReadyH.cons (o := { dst := none, op := Op.store 28 (Operand.tmp 5) (Operand.tmp 25), type := 0, pos := "l03_normal.go:123", after := #[{ on := 11, ground := Ground.data }, { on := 10, ground := Ground.data }, { on := 0, ground := Ground.phase }, { on := 1, ground := Ground.phase }, { on := 2, ground := Ground.phase }, { on := 3, ground := Ground.phase }, { on := 4, ground := Ground.phase }, { on := 5, ground := Ground.phase }, { on := 6, ground := Ground.phase }, { on := 7, ground := Ground.phase }, { on := 8, ground := Ground.phase }, { on := 9, ground := Ground.phase }, { on := 10, ground := Ground.phase }, { on := 11, ground := Ground.phase }], guard := none }) rfl (fun K hK => ?_) ?_
   ·obtain ⟨z0, ⟨z1, z2, z3⟩, z4, z5, z6⟩ := ZZ.out
    go_simp
    clear z0 z1 z2 z3 z4 z5 z6 KB
    have KB : Hid (Below W0.heap.size W0 (W0.alloc (.cells #[.int .i64 m, .int .i64 0, .slice (some ⟨ba, off, none⟩) 0 0] 28)).drew) := Lib.hid ((below1 W0 _).drew)
    refine hK.out _ _ ?_ (fun hHeld => ?_)
    ·with_reducible exact SH.out _ KB.out
    clear hK K
    try simp only [Act.put, List.setIfInBounds_toArray, List.set_cons_zero, List.set_cons_succ]
    refine wpAnyH_done (by kernel_rfl) ?_ _
    go_wp2_with fail
    go_meet
    exact ⟨rfl, (At3.place W0 _ _ _ 28 W0.heap.size rfl).drew, (below1 W0 _).drew⟩
   exact AllReadyH.nil
  exact AllReadyH.nil
 case rest =>
  obtain ⟨v1, hwc⟩ : ∃ x, x = wc := ⟨_, rfl⟩; subst hwc
  obtain ⟨rfl, hS, hb⟩ := hcut
  have S := Lib.hid hS
  have hv1 := S.out.1
  replace A := Lib.hid (A.out.below hb)
  replace Z1 := Lib.hid (Z1.out.below hb)
  replace Z2 := Lib.hid (Z2.out.below hb)
  replace B := Lib.hid (below_go B.out hb B.out.size)
  clear hS hb
  have HV1 := Lib.hid hv1
  clear hv1
  obtain ⟨q1, q2, q3⟩ := A.out.all
  go_wp2_with fail
  refine (clone_any (some ⟨ba, off, none⟩) n cap (l.drop 0) _ ((by rw [List.drop_zero]; exact R.out.below B.out)) (by omega)).mono ?_
  rintro e v2 ⟨b2, d2, rfl, ho, hb⟩
  have QB : Hid (OwnSIn v1.heap.size v2.heap.size v2 b2 n (l.drop 0)) := Lib.hid (by have := ho.within; simpa using this)
  replace A := Lib.hid (A.out.below hb)
  replace S := Lib.hid (S.out.below hb)
  replace Z1 := Lib.hid (Z1.out.below hb)
  replace Z2 := Lib.hid (Z2.out.below hb)
  have HV2 := Lib.hid hb.size
  replace B := Lib.hid (below_go B.out hb B.out.size)
  clear ho hb q1 q2 q3
  obtain ⟨q1, q2, q3⟩ := A.out.all
  go_upto_region 4 with fail
  clear q1 q2 q3
  have KB : Hid (Below v2.heap.size v2 v2.drew) := Lib.hid (Below.refl v2.heap.size v2).drew
  have SH : Hid (∀ X, Below v2.heap.size v2 X → (X.cell? ⟨w.heap.size, 0, none⟩ = some (.int .i64 m) ∧ X.cell? ⟨w.heap.size, 1, none⟩ = some (.int .i64 0) ∧ X.cell? ⟨w.heap.size, 2, none⟩ = some (.slice (some ⟨ba, off, none⟩) n cap)) ∧ (X.cell? ⟨W0.heap.size, 0, none⟩ = some (.int .i64 m) ∧ X.cell? ⟨W0.heap.size, 1, none⟩ = some (.int .i64 0) ∧ X.cell? ⟨W0.heap.size, 2, none⟩ = some (.slice (some ⟨ba, off, none⟩) 0 0))) := Lib.hid fun X h => ⟨(A.out.below h).cells, (S.out.below h).cells⟩
  obtain ⟨ip, hip⟩ : ∃ ip, ip = -((0 : Nat) : Int) - 0 := ⟨_, rfl⟩
  have EV : Hid ((negK 0 : Int) - (endF 0 l : Nat) = ip) := Lib.hid (by rw [HK.out, HC.out, hip]; omega)
  refine wp_region_held_drew (S := (fun w' => (w'.cell? ⟨w.heap.size, 0, none⟩ = some (.int .i64 m) ∧ w'.cell? ⟨w.heap.size, 1, none⟩ = some (.int .i64 0) ∧ w'.cell? ⟨w.heap.size, 2, none⟩ = some (.slice (some ⟨ba, off, none⟩) n cap)) ∧ (w'.cell? ⟨W0.heap.size, 0, none⟩ = some (.int .i64 m) ∧ w'.cell? ⟨W0.heap.size, 1, none⟩ = some (.int .i64 0) ∧ w'.cell? ⟨W0.heap.size, 2, none⟩ = some (.slice (some ⟨ba, off, none⟩) 0 0)))) (by kernel_rfl) ?_ (fun hHeld => ?_)
  ·first | with_reducible exact SH.out _ KB.out | with_reducible exact ⟨A.out.cells, S.out.cells⟩
  refine wpAnyH_take (i := 0) (oi := { dst := some 31, op := Op.load 28 (Operand.tmp 5), type := 28, pos := "l03_normal.go:125", after := #[], guard := none }) (v := ?_) rfl (by kernel_rfl) (by kernel_rfl) (by kernel_rfl) (fun _ _ _ h => h) (Or.inl ⟨by rfl, ?_⟩) (by assumption) ?_
  rotate_left
  ·intro w hSw
   (try dsimp only at hSw)
   go_simp
   try with_reducible rfl
  try simp only [Act.put, List.setIfInBounds_toArray, List.set_cons_zero, List.set_cons_succ]
  refine wpAnyH_take (i := 2) (oi := { dst := some 33, op := Op.fieldAddr 28 (Operand.tmp 1) 0, type := 0, pos := "l03_normal.go:125", after := #[{ on := 9, ground := Ground.gcOnly Departure.lateStores }], guard := none }) (v := ?_) rfl (by kernel_rfl) (by kernel_rfl) (by kernel_rfl) (fun _ _ _ h => h) (Or.inl ⟨by rfl, ?_⟩) (by assumption) ?_
  rotate_left
  ·intro w hSw
   (try dsimp only at hSw)
   go_simp
   try with_reducible rfl
  try simp only [Act.put, List.setIfInBounds_toArray, List.set_cons_zero, List.set_cons_succ]
  refine wpAnyH_take (i := 3) (oi := { dst := some 34, op := Op.load 2 (Operand.tmp 33), type := 2, pos := "l03_normal.go:125", after := #[{ on := 2, ground := Ground.data }, { on := 9, ground := Ground.gcOnly Departure.lateStores }], guard := none }) (v := ?_) rfl (by kernel_rfl) (by kernel_rfl) (by kernel_rfl) (fun _ _ _ h => h) (Or.inl ⟨by rfl, ?_⟩) (by assumption) ?_
  rotate_left
  ·intro w hSw
   (try dsimp only at hSw)
   go_simp
   try with_reducible rfl
  try simp only [Act.put, List.setIfInBounds_toArray, List.set_cons_zero, List.set_cons_succ]
  refine wpAnyH_take (i := 4) (oi := { dst := some 35, op := Op.fieldAddr 28 (Operand.tmp 1) 1, type := 0, pos := "l03_normal.go:125", after := #[], guard := none }) (v := ?_) rfl (by kernel_rfl) (by kernel_rfl) (by kernel_rfl) (fun _ _ _ h => h) (Or.inl ⟨by rfl, ?_⟩) (by assumption) ?_
  rotate_left
  ·intro w hSw
   (try dsimp only at hSw)
   go_simp
   try with_reducible rfl
  try simp only [Act.put, List.setIfInBounds_toArray, List.set_cons_zero, List.set_cons_succ]
  refine wpAnyH_take (i := 5) (oi := { dst := some 36, op := Op.load 2 (Operand.tmp 35), type := 2, pos := "l03_normal.go:125", after := #[{ on := 4, ground := Ground.data }], guard := none }) (v := ?_) rfl (by kernel_rfl) (by kernel_rfl) (by kernel_rfl) (fun _ _ _ h => h) (Or.inl ⟨by rfl, ?_⟩) (by assumption) ?_
  rotate_left
  ·intro w hSw
   (try dsimp only at hSw)
   go_simp
   try with_reducible rfl
  try simp only [Act.put, List.setIfInBounds_toArray, List.set_cons_zero, List.set_cons_succ]
  refine wpAnyH_take (i := 6) (oi := { dst := some 37, op := Op.call { callee := Callee.builtin Builtin.max, args := #[Operand.tmp 36, Operand.const (Value.int IntKind.i64 0)], argTypes := #[2, 2] }, type := 2, pos := "l03_normal.go:125", after := #[{ on := 5, ground := Ground.data }], guard := none }) (v := ?_) rfl (by kernel_rfl) (by kernel_rfl) (by kernel_rfl) (fun _ _ _ h => h) (Or.inl ⟨by rfl, ?_⟩) (by assumption) ?_
  rotate_left
  ·intro w hSw
   (try dsimp only at hSw)
   go_simp
   try with_reducible rfl
  try simp only [Act.put, List.setIfInBounds_toArray, List.set_cons_zero, List.set_cons_succ]
  refine wpAnyH_take (i := 7) (oi := { dst := some 38, op := Op.move (Operand.tmp 6), type := 26, pos := "l03_normal.go:125", after := #[{ on := 9, ground := Ground.gcOnly Departure.lateStores }], guard := none }) (v := ?_) rfl (by kernel_rfl) (by kernel_rfl) (by kernel_rfl) (fun _ _ _ h => h) (Or.inl ⟨by rfl, ?_⟩) (by assumption) ?_
  rotate_left
  ·intro w hSw
   (try dsimp only at hSw)
   go_simp
   try with_reducible rfl
  try simp only [Act.put, List.setIfInBounds_toArray, List.set_cons_zero, List.set_cons_succ]
  refine wpAnyH_take (i := 8) (oi := { dst := some 39, op := Op.build 28 #[(0, Operand.tmp 34), (1, Operand.tmp 37), (2, Operand.tmp 38)], type := 28, pos := "l03_normal.go:125", after := #[{ on := 3, ground := Ground.data }, { on := 6, ground := Ground.data }, { on := 7, ground := Ground.data }, { on := 9, ground := Ground.gcOnly Departure.lateStores }], guard := none }) (v := ?_) rfl (by kernel_rfl) (by kernel_rfl) (by kernel_rfl) (fun _ _ _ h => h) (Or.inl ⟨by rfl, ?_⟩) (by assumption) ?_
  rotate_left
  ·intro w hSw
   (try dsimp only at hSw)
   go_simp
   try with_reducible rfl
  try simp only [Act.put, List.setIfInBounds_toArray, List.set_cons_zero, List.set_cons_succ]
  refine wpAnyH_ready (rs := [1]) (by kernel_rfl) (by simp) ?_
  refine AllReadyH.cons (o := { dst := some 32, op := Op.call { callee := Callee.value (Operand.func 73), args := #[Operand.tmp 31], argTypes := #[28] }, type := 28, pos := "l03_normal.go:125", after := #[{ on := 0, ground := Ground.data }], guard := none }) rfl (fun K hK => ?_) ?_
  ·go_simp
   have hinv := fun W (hW : Below v2.heap.size v2 W) => inverse_any m 0 (by omega) (some ⟨ba, off, none⟩) 0 0 (l.take 0) W ((R.out.first 0 (Nat.zero_le _)).below (B.out.trans (hW.mono B.out.size))) (fun x hx => HS.out x (List.mem_of_mem_take hx)) (by omega)
   rw [← hip] at hinv
   clear hip
   refine (hinv _ KB.out).mono ?_
   rintro e v3 ⟨b1, n1, c1, rfl, ho, gg⟩
   have QA : Hid (OwnS v2.heap.size v3 b1 n1 (turns m 0 (invL m (l.take 0)))) := Lib.hid (ho.toS.mono KB.out.size)
   replace KB := Lib.hid (below_go KB.out gg KB.out.size)
   have QB2 : Hid (OwnSIn v1.heap.size v2.heap.size v3 b2 n (l.drop 0)) := Lib.hid ⟨QB.out.1.below KB.out, QB.out.2⟩
   replace A := Lib.hid (A.out.below KB.out)
   replace S := Lib.hid (S.out.below KB.out)
   replace Z1 := Lib.hid (Z1.out.below KB.out)
   replace Z2 := Lib.hid (Z2.out.below KB.out)
   replace B := Lib.hid (B.out.trans (KB.out.mono B.out.size))
   clear ho gg hinv
   go_wp2_with fail
   refine hK.out _ _ ?_ (fun hHeld => ?_)
   ·first | with_reducible exact SH.out _ KB.out | with_reducible exact ⟨A.out.cells, S.out.cells⟩
   clear hK K
   try simp only [Act.put, List.setIfInBounds_toArray, List.set_cons_zero, List.set_cons_succ]
   refine wpAnyH_ready (rs := [9]) (by kernel_rfl) (by simp) ?_
   refine AllReadyH.cons (o := { dst := none, op := Op.store 28 (Operand.tmp 2) (Operand.tmp 32), type := 0, pos := "l03_normal.go:125", after := #[{ on := 1, ground := Ground.data }, { on := 1, ground := Ground.chain }, { on := 0, ground := Ground.phase }, { on := 1, ground := Ground.phase }, { on := 2, ground := Ground.textOnly Departure.lateStores }, { on := 3, ground := Ground.textOnly Departure.lateStores }, { on := 4, ground := Ground.textOnly Departure.lateStores }, { on := 5, ground := Ground.textOnly Departure.lateStores }, { on := 6, ground := Ground.textOnly Departure.lateStoresUnsure }, { on := 7, ground := Ground.textOnly Departure.lateStores }, { on := 8, ground := Ground.textOnly Departure.lateStores }], guard := none }) rfl (fun K hK => ?_) ?_
   ·obtain ⟨z0, ⟨z1, z2, z3⟩, z4, z5, z6⟩ := Z1.out
    go_simp
    clear z0 z1 z2 z3 z4 z5 z6
    have hs0 := HS0.out
    have hv1 := HV1.out
    have hv2 := HV2.out
    have hk3 := KB.out.size
    replace A := Lib.hid (A.out.set3 (g2 := w.heap.size + 1) (by omega) (.int .i64 m) (.int .i64 ip) (.slice b1 n1 c1))
    replace S := Lib.hid (S.out.set3 (g2 := w.heap.size + 1) (by omega) (.int .i64 m) (.int .i64 ip) (.slice b1 n1 c1))
    replace Z1 := Lib.hid (Z1.out.fill (.int .i64 m) (.int .i64 ip) (.slice b1 n1 c1))
    replace Z2 := Lib.hid (Z2.out.set3 (g2 := w.heap.size + 1) (by omega) (.int .i64 m) (.int .i64 ip) (.slice b1 n1 c1))
    replace QA := Lib.hid (QA.out.set3 (g2 := w.heap.size + 1) (by omega) (.int .i64 m) (.int .i64 ip) (.slice b1 n1 c1))
    replace QB2 : Hid (OwnSIn v1.heap.size v2.heap.size _ b2 n (l.drop 0)) := Lib.hid ⟨QB2.out.1.set3 (g2 := w.heap.size + 1) (by omega) (.int .i64 m) (.int .i64 ip) (.slice b1 n1 c1), QB2.out.2⟩
    replace B := Lib.hid (below_set3 (g2 := w.heap.size + 1) B.out (by omega) (.int .i64 m) (.int .i64 ip) (.slice b1 n1 c1))
    clear hs0 hv1 hv2 hk3
    obtain ⟨U8, hU8⟩ : ∃ U, U = (((v3.setCell ⟨w.heap.size + 1, 0, none⟩ (.int .i64 m)).setCell ⟨w.heap.size + 1, 1, none⟩ (.int .i64 ip)).setCell ⟨w.heap.size + 1, 2, none⟩ (.slice b1 n1 c1)) := ⟨_, rfl⟩
    rw [← hU8] at A S Z1 Z2 QA QB2 B ⊢
    clear hU8
    refine hK.out _ _ ?_ (fun hHeld => ?_)
    ·first | with_reducible exact SH.out _ KB.out | with_reducible exact ⟨A.out.cells, S.out.cells⟩
    clear hK K
    try simp only [Act.put, List.setIfInBounds_toArray, List.set_cons_zero, List.set_cons_succ]
    refine wpAnyH_ready (rs := [10]) (by kernel_rfl) (by simp) ?_
    refine AllReadyH.cons (o := { dst := none, op := Op.store 28 (Operand.tmp 3) (Operand.tmp 39), type := 0, pos := "l03_normal.go:125", after := #[{ on := 8, ground := Ground.data }, { on := 9, ground := Ground.chain }, { on := 0, ground := Ground.phase }, { on := 1, ground := Ground.phase }, { on := 2, ground := Ground.phase }, { on := 3, ground := Ground.phase }, { on := 4, ground := Ground.phase }, { on := 5, ground := Ground.phase }, { on := 6, ground := Ground.phase }, { on := 7, ground := Ground.phase }, { on := 8, ground := Ground.phase }, { on := 9, ground := Ground.phase }], guard := none }) rfl (fun K hK => ?_) ?_
    ·obtain ⟨z0, ⟨z1, z2, z3⟩, z4, z5, z6⟩ := Z2.out
     go_simp
     clear z0 z1 z2 z3 z4 z5 z6
     have hs0 := HS0.out
     have hv1 := HV1.out
     have hv2 := HV2.out
     have hk3 := KB.out.size
     replace A := Lib.hid (A.out.set3 (g2 := w.heap.size + 1 + 1) (by omega) (.int .i64 m) (.int .i64 0) (.slice b2 n d2))
     replace S := Lib.hid (S.out.set3 (g2 := w.heap.size + 1 + 1) (by omega) (.int .i64 m) (.int .i64 0) (.slice b2 n d2))
     replace Z1 := Lib.hid (Z1.out.set3 (g2 := w.heap.size + 1 + 1) (by omega) (.int .i64 m) (.int .i64 0) (.slice b2 n d2))
     replace Z2 := Lib.hid (Z2.out.fill (.int .i64 m) (.int .i64 0) (.slice b2 n d2))
     replace QA := Lib.hid (QA.out.set3 (g2 := w.heap.size + 1 + 1) (by omega) (.int .i64 m) (.int .i64 0) (.slice b2 n d2))
     replace QB2 : Hid (OwnSIn v1.heap.size v2.heap.size _ b2 n (l.drop 0)) := Lib.hid ⟨QB2.out.1.set3 (g2 := w.heap.size + 1 + 1) (by omega) (.int .i64 m) (.int .i64 0) (.slice b2 n d2), QB2.out.2⟩
     replace B := Lib.hid (below_set3 (g2 := w.heap.size + 1 + 1) B.out (by omega) (.int .i64 m) (.int .i64 0) (.slice b2 n d2))
     clear hs0 hv1 hv2 hk3
     obtain ⟨U9, hU9⟩ : ∃ U, U = (((U8.setCell ⟨w.heap.size + 1 + 1, 0, none⟩ (.int .i64 m)).setCell ⟨w.heap.size + 1 + 1, 1, none⟩ (.int .i64 0)).setCell ⟨w.heap.size + 1 + 1, 2, none⟩ (.slice b2 n d2)) := ⟨_, rfl⟩
     rw [← hU9] at A S Z1 Z2 QA QB2 B ⊢
     clear hU9
     refine hK.out _ _ ?_ (fun hHeld => ?_)
     ·first | with_reducible exact SH.out _ KB.out | with_reducible exact ⟨A.out.cells, S.out.cells⟩
     clear hK K
     try simp only [Act.put, List.setIfInBounds_toArray, List.set_cons_zero, List.set_cons_succ]
     refine wpAnyH_done (by kernel_rfl) ?_ _
     go_wp2
     try rw [Exit.noGoto_ret]
     obtain ⟨e1, e2, e3⟩ := Z1.out.cells
     obtain ⟨f1, f2, f3⟩ := Z2.out.cells
     have hs0 := HS0.out
     have hv1 := HV1.out
     have hv2 := HV2.out
     exact bodyPost_ret (v := .tuple #[.agg #[(.int .i64 m), (.int .i64 ip), (.slice b1 n1 c1)], .agg #[(.int .i64 m), (.int .i64 0), (.slice b2 n d2)]]) (by simp [results, Try.results75, go_sem, e1, e2, e3, f1, f2, f3]) rfl ⟨b1, n1, c1, b2, n, d2, v2.heap.size, by first | rw [EV.out, HX.out] | (rw [EV.out]; simp), by omega, by rw [HC.out]; unfold fracA; rw [HK.out, Int.neg_neg]; exact QA.out, by rw [HC.out]; exact ⟨QB2.out.1.mono (by omega), QB2.out.2⟩, B.out⟩
    exact AllReadyH.nil
   exact AllReadyH.nil
  exact AllReadyH.nil

set_option maxRecDepth 100000 in
set_option maxHeartbeats 8000000 in
theorem fraction_P0 (m : Nat) (c : Nat) (hc : c ≤ 200) (ba off : Nat) (cap : Nat) (h0 : 0 < c) (l : List (List Int)) (w : World) (hr : ReadsA w (some ⟨ba, off, none⟩) 0 l) (hl : Sims m l) :
  Calls Try.prog 75 #[.agg #[.int .i64 m, .int .i64 (c : Int), .slice (some ⟨ba, off, none⟩) 0 cap]] w (RetFr w m (c : Int) l) := by
 have HL := Lib.hid hr.len
 have HS := Lib.hid hl
 have R := Lib.hid hr
 clear hr hl
 have hcc : 0 ≤ cap := by omega
 have HC : Hid (endF (c : Int) l = 0) := Lib.hid (by unfold endF negK; have := HL.out; omega)
 have HK : Hid ((negK (c : Int) : Int) = -0) := Lib.hid (by unfold negK; omega)
 have HX : Hid (max (c : Int) 0 = (c : Int)) := Lib.hid (by omega)
 have A := Lib.hid (((At3.place w (.int .i64 m) (.int .i64 (c : Int)) (.slice (some ⟨ba, off, none⟩) 0 cap) 28 w.heap.size rfl).alloc (.cells #[.int .i64 0, .int .i64 0, .slice none 0 0] 28)).alloc (.cells #[.int .i64 0, .int .i64 0, .slice none 0 0] 28))
 have Z1 := Lib.hid ((At3.place (w.alloc (.cells #[.int .i64 m, .int .i64 (c : Int), .slice (some ⟨ba, off, none⟩) 0 cap] 28)) (.int .i64 0) (.int .i64 0) (.slice none 0 0) 28 (w.heap.size + 1) (by simp)).alloc (.cells #[.int .i64 0, .int .i64 0, .slice none 0 0] 28))
 have Z2 := Lib.hid (At3.place ((w.alloc (.cells #[.int .i64 m, .int .i64 (c : Int), .slice (some ⟨ba, off, none⟩) 0 cap] 28)).alloc (.cells #[.int .i64 0, .int .i64 0, .slice none 0 0] 28)) (.int .i64 0) (.int .i64 0) (.slice none 0 0) 28 (w.heap.size + 1 + 1) (by simp))
 have B := Lib.hid ((below2 w (.cells #[.int .i64 m, .int .i64 (c : Int), .slice (some ⟨ba, off, none⟩) 0 cap] 28) (.cells #[.int .i64 0, .int .i64 0, .slice none 0 0] 28)).alloc (by simp; omega) (.cells #[.int .i64 0, .int .i64 0, .slice none 0 0] 28))
 obtain ⟨W0, hW0⟩ : ∃ W0, W0 = (((w.alloc (.cells #[.int .i64 m, .int .i64 (c : Int), .slice (some ⟨ba, off, none⟩) 0 cap] 28)).alloc (.cells #[.int .i64 0, .int .i64 0, .slice none 0 0] 28)).alloc (.cells #[.int .i64 0, .int .i64 0, .slice none 0 0] 28)) := ⟨_, rfl⟩
 have hs0 : W0.heap.size = w.heap.size + 1 + 1 + 1 := by rw [hW0]; simp
 rw [← hW0] at A Z1 Z2 B
 have HW0 := Lib.hid hW0
 clear hW0
 have HS0 := Lib.hid hs0
 clear hs0
 go_enter Try.func75, Try.ntmps75
 go_upto_region 1 with fail
 rw [← HW0.out]
 obtain ⟨q1, q2, q3⟩ := A.out.all
 go_upto_region 2 with fail
 clear q1 q2 q3
 go_cut [5] from 15 to 25 (fun x5 wx => x5 = .pointer (some ⟨W0.heap.size, 0, none⟩) ∧ At3 wx W0.heap.size (.int .i64 m) (.int .i64 0) (.slice (some ⟨ba, off, none⟩) 0 0) ∧ Below W0.heap.size W0 wx)
 case first =>
  have KB : Hid (Below W0.heap.size W0 W0.drew) := Lib.hid (Below.refl W0.heap.size W0).drew
  have SH : Hid (∀ X, Below W0.heap.size W0 X → X.cell? ⟨w.heap.size, 0, none⟩ = some (.int .i64 m) ∧ X.cell? ⟨w.heap.size, 1, none⟩ = some (.int .i64 (c : Int)) ∧ X.cell? ⟨w.heap.size, 2, none⟩ = some (.slice (some ⟨ba, off, none⟩) 0 cap)) := Lib.hid fun X h => (A.out.below h).all
  refine wp_region_held_drew (S := (fun w' => w'.cell? ⟨w.heap.size, 0, none⟩ = some (.int .i64 m) ∧ w'.cell? ⟨w.heap.size, 1, none⟩ = some (.int .i64 (c : Int)) ∧ w'.cell? ⟨w.heap.size, 2, none⟩ = some (.slice (some ⟨ba, off, none⟩) 0 cap))) (by kernel_rfl) ?_ (fun hHeld => ?_)
  ·with_reducible exact SH.out _ KB.out
  refine wpAnyH_take (i := 0) (oi := { dst := some 15, op := Op.fieldAddr 28 (Operand.tmp 1) 0, type := 0, pos := "l03_normal.go:123", after := #[], guard := none }) (v := ?_) rfl (by kernel_rfl) (by kernel_rfl) (by kernel_rfl) (fun _ _ _ h => h) (Or.inl ⟨by rfl, ?_⟩) (by assumption) ?_
  rotate_left
  ·intro w hSw
   (try dsimp only at hSw)
   go_simp
   try with_reducible rfl
  try simp only [Act.put, List.setIfInBounds_toArray, List.set_cons_zero, List.set_cons_succ]
  refine wpAnyH_take (i := 1) (oi := { dst := some 16, op := Op.load 2 (Operand.tmp 15), type := 2, pos := "l03_normal.go:123", after := #[{ on := 0, ground := Ground.data }], guard := none }) (v := ?_) rfl (by kernel_rfl) (by kernel_rfl) (by kernel_rfl) (fun _ _ _ h => h) (Or.inl ⟨by rfl, ?_⟩) (by assumption) ?_
  rotate_left
  ·intro w hSw
   (try dsimp only at hSw)
   go_simp
   try with_reducible rfl
  try simp only [Act.put, List.setIfInBounds_toArray, List.set_cons_zero, List.set_cons_succ]
  refine wpAnyH_take (i := 2) (oi := { dst := some 17, op := Op.fieldAddr 28 (Operand.tmp 1) 1, type := 0, pos := "l03_normal.go:123", after := #[], guard := none }) (v := ?_) rfl (by kernel_rfl) (by kernel_rfl) (by kernel_rfl) (fun _ _ _ h => h) (Or.inl ⟨by rfl, ?_⟩) (by assumption) ?_
  rotate_left
  ·intro w hSw
   (try dsimp only at hSw)
   go_simp
   try with_reducible rfl
  try simp only [Act.put, List.setIfInBounds_toArray, List.set_cons_zero, List.set_cons_succ]
  refine wpAnyH_take (i := 3) (oi := { dst := some 18, op := Op.load 2 (Operand.tmp 17), type := 2, pos := "l03_normal.go:123", after := #[{ on := 2, ground := Ground.data }], guard := none }) (v := ?_) rfl (by kernel_rfl) (by kernel_rfl) (by kernel_rfl) (fun _ _ _ h => h) (Or.inl ⟨by rfl, ?_⟩) (by assumption) ?_
  rotate_left
  ·intro w hSw
   (try dsimp only at hSw)
   go_simp
   try with_reducible rfl
  try simp only [Act.put, List.setIfInBounds_toArray, List.set_cons_zero, List.set_cons_succ]
  refine wpAnyH_take (i := 4) (oi := { dst := some 19, op := Op.call { callee := Callee.builtin Builtin.min, args := #[Operand.tmp 18, Operand.const (Value.int IntKind.i64 0)], argTypes := #[2, 2] }, type := 2, pos := "l03_normal.go:123", after := #[{ on := 3, ground := Ground.data }], guard := none }) (v := ?_) rfl (by kernel_rfl) (by kernel_rfl) (by kernel_rfl) (fun _ _ _ h => h) (Or.inl ⟨by rfl, ?_⟩) (by assumption) ?_
  rotate_left
  ·intro w hSw
   (try dsimp only at hSw)
   go_simp
   try with_reducible rfl
  try simp only [Act.put, List.setIfInBounds_toArray, List.set_cons_zero, List.set_cons_succ]
  refine wpAnyH_take (i := 5) (oi := { dst := some 20, op := Op.fieldAddr 28 (Operand.tmp 1) 2, type := 0, pos := "l03_normal.go:123", after := #[], guard := none }) (v := ?_) rfl (by kernel_rfl) (by kernel_rfl) (by kernel_rfl) (fun _ _ _ h => h) (Or.inl ⟨by rfl, ?_⟩) (by assumption) ?_
  rotate_left
  ·intro w hSw
   (try dsimp only at hSw)
   go_simp
   try with_reducible rfl
  try simp only [Act.put, List.setIfInBounds_toArray, List.set_cons_zero, List.set_cons_succ]
  refine wpAnyH_take (i := 6) (oi := { dst := some 21, op := Op.load 26 (Operand.tmp 20), type := 26, pos := "l03_normal.go:123", after := #[{ on := 5, ground := Ground.data }], guard := none }) (v := ?_) rfl (by kernel_rfl) (by kernel_rfl) (by kernel_rfl) (fun _ _ _ h => h) (Or.inl ⟨by rfl, ?_⟩) (by assumption) ?_
  rotate_left
  ·intro w hSw
   (try dsimp only at hSw)
   go_simp
   try with_reducible rfl
  try simp only [Act.put, List.setIfInBounds_toArray, List.set_cons_zero, List.set_cons_succ]
  refine wpAnyH_take (i := 7) (oi := { dst := some 22, op := Op.move (Operand.tmp 4), type := 3, pos := "l03_normal.go:123", after := #[], guard := none }) (v := ?_) rfl (by kernel_rfl) (by kernel_rfl) (by kernel_rfl) (fun _ _ _ h => h) (Or.inl ⟨by rfl, ?_⟩) (by assumption) ?_
  rotate_left
  ·intro w hSw
   (try dsimp only at hSw)
   go_simp
   try with_reducible rfl
  try simp only [Act.put, List.setIfInBounds_toArray, List.set_cons_zero, List.set_cons_succ]
  refine wpAnyH_take (i := 8) (oi := { dst := some 23, op := Op.move (Operand.tmp 4), type := 3, pos := "l03_normal.go:123", after := #[], guard := none }) (v := ?_) rfl (by kernel_rfl) (by kernel_rfl) (by kernel_rfl) (fun _ _ _ h => h) (Or.inl ⟨by rfl, ?_⟩) (by assumption) ?_
  rotate_left
  ·intro w hSw
   (try dsimp only at hSw)
   go_simp
   try with_reducible rfl
  try simp only [Act.put, List.setIfInBounds_toArray, List.set_cons_zero, List.set_cons_succ]
  refine wpAnyH_take (i := 9) (oi := { dst := some 24, op := Op.slice 26 (Operand.tmp 21) none (some (Operand.tmp 22)) (some (Operand.tmp 23)), type := 26, pos := "l03_normal.go:123", after := #[{ on := 6, ground := Ground.data }, { on := 7, ground := Ground.data }, { on := 8, ground := Ground.data }], guard := none }) (v := ?_) rfl (by kernel_rfl) (by kernel_rfl) (by kernel_rfl) (fun _ _ _ h => h) (Or.inl ⟨by rfl, ?_⟩) (by assumption) ?_
  rotate_left
  ·intro w hSw
   (try dsimp only at hSw)
   go_simp
   try with_reducible rfl
  try simp only [Act.put, List.setIfInBounds_toArray, List.set_cons_zero, List.set_cons_succ]
  refine wpAnyH_take (i := 10) (oi := { dst := some 25, op := Op.build 28 #[(0, Operand.tmp 16), (1, Operand.tmp 19), (2, Operand.tmp 24)], type := 28, pos := "l03_normal.go:123", after := #[{ on := 1, ground := Ground.data }, { on := 4, ground := Ground.data }, { on := 9, ground := Ground.data }], guard := none }) (v := ?_) rfl (by kernel_rfl) (by kernel_rfl) (by kernel_rfl) (fun _ _ _ h => h) (Or.inl ⟨by rfl, ?_⟩) (by assumption) ?_
  rotate_left
  ·intro w hSw
   (try dsimp only at hSw)
   go_simp
   try with_reducible rfl
  try simp only [Act.put, List.setIfInBounds_toArray, List.set_cons_zero, List.set_cons_succ]
  refine wpAnyH_ready (rs := [11]) (by kernel_rfl) (by simp) ?_
  refine AllReadyH.cons (o := { dst := some 5, op := Op.alloc 28, type := 0, pos := "l03_normal.go:123", after := #[], guard := none }) rfl (fun K hK => ?_) ?_
  ·go_simp
   have ZZ : Hid (At3 (W0.alloc (.cells #[.int .i64 0, .int .i64 0, .slice none 0 0] 28)).drew (W0.heap.size) (.int .i64 0) (.int .i64 0) (.slice none 0 0)) := Lib.hid ((At3.place W0 (.int .i64 0) (.int .i64 0) (.slice none 0 0) 28 (W0.heap.size) (by simp)).drew)
   replace KB : Hid (Below W0.heap.size W0 (W0.alloc (.cells #[.int .i64 0, .int .i64 0, .slice none 0 0] 28)).drew) := Lib.hid (KB.out.alloc KB.out.size (.cells #[.int .i64 0, .int .i64 0, .slice none 0 0] 28))
   refine hK.out _ _ ?_ (fun hHeld => ?_)
   ·with_reducible exact SH.out _ KB.out
   clear hK K
   try simp only [Act.put, List.setIfInBounds_toArray, List.set_cons_zero, List.set_cons_succ]
   refine wpAnyH_ready (rs := [12]) (by kernel_rfl) (by simp) ?_
   refine AllReadyH.cons (o := { dst := none, op := Op.store 28 (Operand.tmp 5) (Operand.tmp 25), type := 0, pos := "l03_normal.go:123", after := #[{ on := 11, ground := Ground.data }, { on := 10, ground := Ground.data }, { on := 0, ground := Ground.phase }, { on := 1, ground := Ground.phase }, { on := 2, ground := Ground.phase }, { on := 3, ground := Ground.phase }, { on := 4, ground := Ground.phase }, { on := 5, ground := Ground.phase }, { on := 6, ground := Ground.phase }, { on := 7, ground := Ground.phase }, { on := 8, ground := Ground.phase }, { on := 9, ground := Ground.phase }, { on := 10, ground := Ground.phase }, { on := 11, ground := Ground.phase }], guard := none }) rfl (fun K hK => ?_) ?_
   ·obtain ⟨z0, ⟨z1, z2, z3⟩, z4, z5, z6⟩ := ZZ.out
    go_simp
    clear z0 z1 z2 z3 z4 z5 z6 KB
    have KB : Hid (Below W0.heap.size W0 (W0.alloc (.cells #[.int .i64 m, .int .i64 0, .slice (some ⟨ba, off, none⟩) 0 0] 28)).drew) := Lib.hid ((below1 W0 _).drew)
    refine hK.out _ _ ?_ (fun hHeld => ?_)
    ·with_reducible exact SH.out _ KB.out
    clear hK K
    try simp only [Act.put, List.setIfInBounds_toArray, List.set_cons_zero, List.set_cons_succ]
    refine wpAnyH_done (by kernel_rfl) ?_ _
    go_wp2_with fail
    go_meet
    exact ⟨rfl, (At3.place W0 _ _ _ 28 W0.heap.size rfl).drew, (below1 W0 _).drew⟩
   exact AllReadyH.nil
  exact AllReadyH.nil
 case rest =>
  obtain ⟨v1, hwc⟩ : ∃ x, x = wc := ⟨_, rfl⟩; subst hwc
  obtain ⟨rfl, hS, hb⟩ := hcut
  have S := Lib.hid hS
  have hv1 := S.out.1
  replace A := Lib.hid (A.out.below hb)
  replace Z1 := Lib.hid (Z1.out.below hb)
  replace Z2 := Lib.hid (Z2.out.below hb)
  replace B := Lib.hid (below_go B.out hb B.out.size)
  clear hS hb
  have HV1 := Lib.hid hv1
  clear hv1
  obtain ⟨q1, q2, q3⟩ := A.out.all
  go_wp2_with fail
  refine (clone_any (some ⟨ba, off, none⟩) 0 cap (l.drop 0) _ ((by rw [List.drop_zero]; exact R.out.below B.out)) (by omega)).mono ?_
  rintro e v2 ⟨b2, d2, rfl, ho, hb⟩
  have QB : Hid (OwnSIn v1.heap.size v2.heap.size v2 b2 0 (l.drop 0)) := Lib.hid (by have := ho.within; simpa using this)
  replace A := Lib.hid (A.out.below hb)
  replace S := Lib.hid (S.out.below hb)
  replace Z1 := Lib.hid (Z1.out.below hb)
  replace Z2 := Lib.hid (Z2.out.below hb)
  have HV2 := Lib.hid hb.size
  replace B := Lib.hid (below_go B.out hb B.out.size)
  clear ho hb q1 q2 q3
  obtain ⟨q1, q2, q3⟩ := A.out.all
  go_upto_region 4 with fail
  clear q1 q2 q3
  have KB : Hid (Below v2.heap.size v2 v2.drew) := Lib.hid (Below.refl v2.heap.size v2).drew
  have SH : Hid (∀ X, Below v2.heap.size v2 X → (X.cell? ⟨w.heap.size, 0, none⟩ = some (.int .i64 m) ∧ X.cell? ⟨w.heap.size, 1, none⟩ = some (.int .i64 (c : Int)) ∧ X.cell? ⟨w.heap.size, 2, none⟩ = some (.slice (some ⟨ba, off, none⟩) 0 cap)) ∧ (X.cell? ⟨W0.heap.size, 0, none⟩ = some (.int .i64 m) ∧ X.cell? ⟨W0.heap.size, 1, none⟩ = some (.int .i64 0) ∧ X.cell? ⟨W0.heap.size, 2, none⟩ = some (.slice (some ⟨ba, off, none⟩) 0 0))) := Lib.hid fun X h => ⟨(A.out.below h).cells, (S.out.below h).cells⟩
  obtain ⟨ip, hip⟩ : ∃ ip, ip = -((0 : Nat) : Int) - 0 := ⟨_, rfl⟩
  have EV : Hid ((negK (c : Int) : Int) - (endF (c : Int) l : Nat) = ip) := Lib.hid (by rw [HK.out, HC.out, hip]; omega)
  refine wp_region_held_drew (S := (fun w' => (w'.cell? ⟨w.heap.size, 0, none⟩ = some (.int .i64 m) ∧ w'.cell? ⟨w.heap.size, 1, none⟩ = some (.int .i64 (c : Int)) ∧ w'.cell? ⟨w.heap.size, 2, none⟩ = some (.slice (some ⟨ba, off, none⟩) 0 cap)) ∧ (w'.cell? ⟨W0.heap.size, 0, none⟩ = some (.int .i64 m) ∧ w'.cell? ⟨W0.heap.size, 1, none⟩ = some (.int .i64 0) ∧ w'.cell? ⟨W0.heap.size, 2, none⟩ = some (.slice (some ⟨ba, off, none⟩) 0 0)))) (by kernel_rfl) ?_ (fun hHeld => ?_)
  ·first | with_reducible exact SH.out _ KB.out | with_reducible exact ⟨A.out.cells, S.out.cells⟩
  refine wpAnyH_take (i := 0) (oi := { dst := some 31, op := Op.load 28 (Operand.tmp 5), type := 28, pos := "l03_normal.go:125", after := #[], guard := none }) (v := ?_) rfl (by kernel_rfl) (by kernel_rfl) (by kernel_rfl) (fun _ _ _ h => h) (Or.inl ⟨by rfl, ?_⟩) (by assumption) ?_
  rotate_left
  ·intro w hSw
   (try dsimp only at hSw)
   go_simp
   try with_reducible rfl
  try simp only [Act.put, List.setIfInBounds_toArray, List.set_cons_zero, List.set_cons_succ]
  refine wpAnyH_take (i := 2) (oi := { dst := some 33, op := Op.fieldAddr 28 (Operand.tmp 1) 0, type := 0, pos := "l03_normal.go:125", after := #[{ on := 9, ground := Ground.gcOnly Departure.lateStores }], guard := none }) (v := ?_) rfl (by kernel_rfl) (by kernel_rfl) (by kernel_rfl) (fun _ _ _ h => h) (Or.inl ⟨by rfl, ?_⟩) (by assumption) ?_
  rotate_left
  ·intro w hSw
   (try dsimp only at hSw)
   go_simp
   try with_reducible rfl
  try simp only [Act.put, List.setIfInBounds_toArray, List.set_cons_zero, List.set_cons_succ]
  refine wpAnyH_take (i := 3) (oi := { dst := some 34, op := Op.load 2 (Operand.tmp 33), type := 2, pos := "l03_normal.go:125", after := #[{ on := 2, ground := Ground.data }, { on := 9, ground := Ground.gcOnly Departure.lateStores }], guard := none }) (v := ?_) rfl (by kernel_rfl) (by kernel_rfl) (by kernel_rfl) (fun _ _ _ h => h) (Or.inl ⟨by rfl, ?_⟩) (by assumption) ?_
  rotate_left
  ·intro w hSw
   (try dsimp only at hSw)
   go_simp
   try with_reducible rfl
  try simp only [Act.put, List.setIfInBounds_toArray, List.set_cons_zero, List.set_cons_succ]
  refine wpAnyH_take (i := 4) (oi := { dst := some 35, op := Op.fieldAddr 28 (Operand.tmp 1) 1, type := 0, pos := "l03_normal.go:125", after := #[], guard := none }) (v := ?_) rfl (by kernel_rfl) (by kernel_rfl) (by kernel_rfl) (fun _ _ _ h => h) (Or.inl ⟨by rfl, ?_⟩) (by assumption) ?_
  rotate_left
  ·intro w hSw
   (try dsimp only at hSw)
   go_simp
   try with_reducible rfl
  try simp only [Act.put, List.setIfInBounds_toArray, List.set_cons_zero, List.set_cons_succ]
  refine wpAnyH_take (i := 5) (oi := { dst := some 36, op := Op.load 2 (Operand.tmp 35), type := 2, pos := "l03_normal.go:125", after := #[{ on := 4, ground := Ground.data }], guard := none }) (v := ?_) rfl (by kernel_rfl) (by kernel_rfl) (by kernel_rfl) (fun _ _ _ h => h) (Or.inl ⟨by rfl, ?_⟩) (by assumption) ?_
  rotate_left
  ·intro w hSw
   (try dsimp only at hSw)
   go_simp
   try with_reducible rfl
  try simp only [Act.put, List.setIfInBounds_toArray, List.set_cons_zero, List.set_cons_succ]
  refine wpAnyH_take (i := 6) (oi := { dst := some 37, op := Op.call { callee := Callee.builtin Builtin.max, args := #[Operand.tmp 36, Operand.const (Value.int IntKind.i64 0)], argTypes := #[2, 2] }, type := 2, pos := "l03_normal.go:125", after := #[{ on := 5, ground := Ground.data }], guard := none }) (v := ?_) rfl (by kernel_rfl) (by kernel_rfl) (by kernel_rfl) (fun _ _ _ h => h) (Or.inl ⟨by rfl, ?_⟩) (by assumption) ?_
  rotate_left
  ·intro w hSw
   (try dsimp only at hSw)
   go_simp
   try with_reducible rfl
  try simp only [Act.put, List.setIfInBounds_toArray, List.set_cons_zero, List.set_cons_succ]
  refine wpAnyH_take (i := 7) (oi := { dst := some 38, op := Op.move (Operand.tmp 6), type := 26, pos := "l03_normal.go:125", after := #[{ on := 9, ground := Ground.gcOnly Departure.lateStores }], guard := none }) (v := ?_) rfl (by kernel_rfl) (by kernel_rfl) (by kernel_rfl) (fun _ _ _ h => h) (Or.inl ⟨by rfl, ?_⟩) (by assumption) ?_
  rotate_left
  ·intro w hSw
   (try dsimp only at hSw)
   go_simp
   try with_reducible rfl
  try simp only [Act.put, List.setIfInBounds_toArray, List.set_cons_zero, List.set_cons_succ]
  refine wpAnyH_take (i := 8) (oi := { dst := some 39, op := Op.build 28 #[(0, Operand.tmp 34), (1, Operand.tmp 37), (2, Operand.tmp 38)], type := 28, pos := "l03_normal.go:125", after := #[{ on := 3, ground := Ground.data }, { on := 6, ground := Ground.data }, { on := 7, ground := Ground.data }, { on := 9, ground := Ground.gcOnly Departure.lateStores }], guard := none }) (v := ?_) rfl (by kernel_rfl) (by kernel_rfl) (by kernel_rfl) (fun _ _ _ h => h) (Or.inl ⟨by rfl, ?_⟩) (by assumption) ?_
  rotate_left
  ·intro w hSw
   (try dsimp only at hSw)
   go_simp
   try with_reducible rfl
  try simp only [Act.put, List.setIfInBounds_toArray, List.set_cons_zero, List.set_cons_succ]
  refine wpAnyH_ready (rs := [1]) (by kernel_rfl) (by simp) ?_
  refine AllReadyH.cons (o := { dst := some 32, op := Op.call { callee := Callee.value (Operand.func 73), args := #[Operand.tmp 31], argTypes := #[28] }, type := 28, pos := "l03_normal.go:125", after := #[{ on := 0, ground := Ground.data }], guard := none }) rfl (fun K hK => ?_) ?_
  ·go_simp
   have hinv := fun W (hW : Below v2.heap.size v2 W) => inverse_any m 0 (by omega) (some ⟨ba, off, none⟩) 0 0 (l.take 0) W ((R.out.first 0 (Nat.zero_le _)).below (B.out.trans (hW.mono B.out.size))) (fun x hx => HS.out x (List.mem_of_mem_take hx)) (by omega)
   rw [← hip] at hinv
   clear hip
   refine (hinv _ KB.out).mono ?_
   rintro e v3 ⟨b1, n1, c1, rfl, ho, gg⟩
   have QA : Hid (OwnS v2.heap.size v3 b1 n1 (turns m 0 (invL m (l.take 0)))) := Lib.hid (ho.toS.mono KB.out.size)
   replace KB := Lib.hid (below_go KB.out gg KB.out.size)
   have QB2 : Hid (OwnSIn v1.heap.size v2.heap.size v3 b2 0 (l.drop 0)) := Lib.hid ⟨QB.out.1.below KB.out, QB.out.2⟩
   replace A := Lib.hid (A.out.below KB.out)
   replace S := Lib.hid (S.out.below KB.out)
   replace Z1 := Lib.hid (Z1.out.below KB.out)
   replace Z2 := Lib.hid (Z2.out.below KB.out)
   replace B := Lib.hid (B.out.trans (KB.out.mono B.out.size))
   clear ho gg hinv
   go_wp2_with fail
   refine hK.out _ _ ?_ (fun hHeld => ?_)
   ·first | with_reducible exact SH.out _ KB.out | with_reducible exact ⟨A.out.cells, S.out.cells⟩
   clear hK K
   try simp only [Act.put, List.setIfInBounds_toArray, List.set_cons_zero, List.set_cons_succ]
   refine wpAnyH_ready (rs := [9]) (by kernel_rfl) (by simp) ?_
   refine AllReadyH.cons (o := { dst := none, op := Op.store 28 (Operand.tmp 2) (Operand.tmp 32), type := 0, pos := "l03_normal.go:125", after := #[{ on := 1, ground := Ground.data }, { on := 1, ground := Ground.chain }, { on := 0, ground := Ground.phase }, { on := 1, ground := Ground.phase }, { on := 2, ground := Ground.textOnly Departure.lateStores }, { on := 3, ground := Ground.textOnly Departure.lateStores }, { on := 4, ground := Ground.textOnly Departure.lateStores }, { on := 5, ground := Ground.textOnly Departure.lateStores }, { on := 6, ground := Ground.textOnly Departure.lateStoresUnsure }, { on := 7, ground := Ground.textOnly Departure.lateStores }, { on := 8, ground := Ground.textOnly Departure.lateStores }], guard := none }) rfl (fun K hK => ?_) ?_
   ·obtain ⟨z0, ⟨z1, z2, z3⟩, z4, z5, z6⟩ := Z1.out
    go_simp
    clear z0 z1 z2 z3 z4 z5 z6
    have hs0 := HS0.out
    have hv1 := HV1.out
    have hv2 := HV2.out
    have hk3 := KB.out.size
    replace A := Lib.hid (A.out.set3 (g2 := w.heap.size + 1) (by omega) (.int .i64 m) (.int .i64 ip) (.slice b1 n1 c1))
    replace S := Lib.hid (S.out.set3 (g2 := w.heap.size + 1) (by omega) (.int .i64 m) (.int .i64 ip) (.slice b1 n1 c1))
    replace Z1 := Lib.hid (Z1.out.fill (.int .i64 m) (.int .i64 ip) (.slice b1 n1 c1))
    replace Z2 := Lib.hid (Z2.out.set3 (g2 := w.heap.size + 1) (by omega) (.int .i64 m) (.int .i64 ip) (.slice b1 n1 c1))
    replace QA := Lib.hid (QA.out.set3 (g2 := w.heap.size + 1) (by omega) (.int .i64 m) (.int .i64 ip) (.slice b1 n1 c1))
    replace QB2 : Hid (OwnSIn v1.heap.size v2.heap.size _ b2 0 (l.drop 0)) := Lib.hid ⟨QB2.out.1.set3 (g2 := w.heap.size + 1) (by omega) (.int .i64 m) (.int .i64 ip) (.slice b1 n1 c1), QB2.out.2⟩
    replace B := Lib.hid (below_set3 (g2 := w.heap.size + 1) B.out (by omega) (.int .i64 m) (.int .i64 ip) (.slice b1 n1 c1))
    clear hs0 hv1 hv2 hk3
    obtain ⟨U8, hU8⟩ : ∃ U, U = (((v3.setCell ⟨w.heap.size + 1, 0, none⟩ (.int .i64 m)).setCell ⟨w.heap.size + 1, 1, none⟩ (.int .i64 ip)).setCell ⟨w.heap.size + 1, 2, none⟩ (.slice b1 n1 c1)) := ⟨_, rfl⟩
    rw [← hU8] at A S Z1 Z2 QA QB2 B ⊢
    clear hU8
    refine hK.out _ _ ?_ (fun hHeld => ?_)
    ·first | with_reducible exact SH.out _ KB.out | with_reducible exact ⟨A.out.cells, S.out.cells⟩
    clear hK K
    try simp only [Act.put, List.setIfInBounds_toArray, List.set_cons_zero, List.set_cons_succ]
    refine wpAnyH_ready (rs := [10]) (by kernel_rfl) (by simp) ?_
    refine AllReadyH.cons (o := { dst := none, op := Op.store 28 (Operand.tmp 3) (Operand.tmp 39), type := 0, pos := "l03_normal.go:125", after := #[{ on := 8, ground := Ground.data }, { on := 9, ground := Ground.chain }, { on := 0, ground := Ground.phase }, { on := 1, ground := Ground.phase }, { on := 2, ground := Ground.phase }, { on := 3, ground := Ground.phase }, { on := 4, ground := Ground.phase }, { on := 5, ground := Ground.phase }, { on := 6, ground := Ground.phase }, { on := 7, ground := Ground.phase }, { on := 8, ground := Ground.phase }, { on := 9, ground := Ground.phase }], guard := none }) rfl (fun K hK => ?_) ?_
    ·obtain ⟨z0, ⟨z1, z2, z3⟩, z4, z5, z6⟩ := Z2.out
     go_simp
     clear z0 z1 z2 z3 z4 z5 z6
     have hs0 := HS0.out
     have hv1 := HV1.out
     have hv2 := HV2.out
     have hk3 := KB.out.size
     replace A := Lib.hid (A.out.set3 (g2 := w.heap.size + 1 + 1) (by omega) (.int .i64 m) (.int .i64 (c : Int)) (.slice b2 0 d2))
     replace S := Lib.hid (S.out.set3 (g2 := w.heap.size + 1 + 1) (by omega) (.int .i64 m) (.int .i64 (c : Int)) (.slice b2 0 d2))
     replace Z1 := Lib.hid (Z1.out.set3 (g2 := w.heap.size + 1 + 1) (by omega) (.int .i64 m) (.int .i64 (c : Int)) (.slice b2 0 d2))
     replace Z2 := Lib.hid (Z2.out.fill (.int .i64 m) (.int .i64 (c : Int)) (.slice b2 0 d2))
     replace QA := Lib.hid (QA.out.set3 (g2 := w.heap.size + 1 + 1) (by omega) (.int .i64 m) (.int .i64 (c : Int)) (.slice b2 0 d2))
     replace QB2 : Hid (OwnSIn v1.heap.size v2.heap.size _ b2 0 (l.drop 0)) := Lib.hid ⟨QB2.out.1.set3 (g2 := w.heap.size + 1 + 1) (by omega) (.int .i64 m) (.int .i64 (c : Int)) (.slice b2 0 d2), QB2.out.2⟩
     replace B := Lib.hid (below_set3 (g2 := w.heap.size + 1 + 1) B.out (by omega) (.int .i64 m) (.int .i64 (c : Int)) (.slice b2 0 d2))
     clear hs0 hv1 hv2 hk3
     obtain ⟨U9, hU9⟩ : ∃ U, U = (((U8.setCell ⟨w.heap.size + 1 + 1, 0, none⟩ (.int .i64 m)).setCell ⟨w.heap.size + 1 + 1, 1, none⟩ (.int .i64 (c : Int))).setCell ⟨w.heap.size + 1 + 1, 2, none⟩ (.slice b2 0 d2)) := ⟨_, rfl⟩
     rw [← hU9] at A S Z1 Z2 QA QB2 B ⊢
     clear hU9
     refine hK.out _ _ ?_ (fun hHeld => ?_)
     ·first | with_reducible exact SH.out _ KB.out | with_reducible exact ⟨A.out.cells, S.out.cells⟩
     clear hK K
     try simp only [Act.put, List.setIfInBounds_toArray, List.set_cons_zero, List.set_cons_succ]
     refine wpAnyH_done (by kernel_rfl) ?_ _
     go_wp2
     try rw [Exit.noGoto_ret]
     obtain ⟨e1, e2, e3⟩ := Z1.out.cells
     obtain ⟨f1, f2, f3⟩ := Z2.out.cells
     have hs0 := HS0.out
     have hv1 := HV1.out
     have hv2 := HV2.out
     exact bodyPost_ret (v := .tuple #[.agg #[(.int .i64 m), (.int .i64 ip), (.slice b1 n1 c1)], .agg #[(.int .i64 m), (.int .i64 (c : Int)), (.slice b2 0 d2)]]) (by simp [results, Try.results75, go_sem, e1, e2, e3, f1, f2, f3]) rfl ⟨b1, n1, c1, b2, 0, d2, v2.heap.size, by first | rw [EV.out, HX.out] | (rw [EV.out]; simp), by omega, by rw [HC.out]; unfold fracA; rw [HK.out, Int.neg_neg]; exact QA.out, by rw [HC.out]; exact ⟨QB2.out.1.mono (by omega), QB2.out.2⟩, B.out⟩
    exact AllReadyH.nil
   exact AllReadyH.nil
  exact AllReadyH.nil

set_option maxRecDepth 100000 in
set_option maxHeartbeats 8000000 in
theorem fraction_Z0 (m : Nat) (ba off : Nat) (cap : Nat)  (l : List (List Int)) (w : World) (hr : ReadsA w (some ⟨ba, off, none⟩) 0 l) (hl : Sims m l) :
  Calls Try.prog 75 #[.agg #[.int .i64 m, .int .i64 0, .slice (some ⟨ba, off, none⟩) 0 cap]] w (RetFr w m 0 l) := by
 have HL := Lib.hid hr.len
 have HS := Lib.hid hl
 have R := Lib.hid hr
 clear hr hl
 have hcc : 0 ≤ cap := by omega
 have HC : Hid (endF 0 l = 0) := Lib.hid (by unfold endF negK; have := HL.out; omega)
 have HK : Hid ((negK 0 : Int) = -0) := Lib.hid (by unfold negK; omega)
 have HX : Hid (max 0 0 = 0) := Lib.hid (by omega)
 have A := Lib.hid (((At3.place w (.int .i64 m) (.int .i64 0) (.slice (some ⟨ba, off, none⟩) 0 cap) 28 w.heap.size rfl).alloc (.cells #[.int .i64 0, .int .i64 0, .slice none 0 0] 28)).alloc (.cells #[.int .i64 0, .int .i64 0, .slice none 0 0] 28))
 have Z1 := Lib.hid ((At3.place (w.alloc (.cells #[.int .i64 m, .int .i64 0, .slice (some ⟨ba, off, none⟩) 0 cap] 28)) (.int .i64 0) (.int .i64 0) (.slice none 0 0) 28 (w.heap.size + 1) (by simp)).alloc (.cells #[.int .i64 0, .int .i64 0, .slice none 0 0] 28))
 have Z2 := Lib.hid (At3.place ((w.alloc (.cells #[.int .i64 m, .int .i64 0, .slice (some ⟨ba, off, none⟩) 0 cap] 28)).alloc (.cells #[.int .i64 0, .int .i64 0, .slice none 0 0] 28)) (.int .i64 0) (.int .i64 0) (.slice none 0 0) 28 (w.heap.size + 1 + 1) (by simp))
 have B := Lib.hid ((below2 w (.cells #[.int .i64 m, .int .i64 0, .slice (some ⟨ba, off, none⟩) 0 cap] 28) (.cells #[.int .i64 0, .int .i64 0, .slice none 0 0] 28)).alloc (by simp; omega) (.cells #[.int .i64 0, .int .i64 0, .slice none 0 0] 28))
 obtain ⟨W0, hW0⟩ : ∃ W0, W0 = (((w.alloc (.cells #[.int .i64 m, .int .i64 0, .slice (some ⟨ba, off, none⟩) 0 cap] 28)).alloc (.cells #[.int .i64 0, .int .i64 0, .slice none 0 0] 28)).alloc (.cells #[.int .i64 0, .int .i64 0, .slice none 0 0] 28)) := ⟨_, rfl⟩
 have hs0 : W0.heap.size = w.heap.size + 1 + 1 + 1 := by rw [hW0]; simp
 rw [← hW0] at A Z1 Z2 B
 have HW0 := Lib.hid hW0
 clear hW0
 have HS0 := Lib.hid hs0
 clear hs0
 go_enter Try.func75, Try.ntmps75
 go_upto_region 1 with fail
 rw [← HW0.out]
 obtain ⟨q1, q2, q3⟩ := A.out.all
 go_upto_region 2 with fail
 clear q1 q2 q3
 go_cut [5] from 15 to 25 (fun x5 wx => x5 = .pointer (some ⟨W0.heap.size, 0, none⟩) ∧ At3 wx W0.heap.size (.int .i64 m) (.int .i64 0) (.slice (some ⟨ba, off, none⟩) 0 0) ∧ Below W0.heap.size W0 wx)
 case first =>
  have KB : Hid (Below W0.heap.size W0 W0.drew) := Lib.hid (Below.refl W0.heap.size W0).drew
  have SH : Hid (∀ X, Below W0.heap.size W0 X → X.cell? ⟨w.heap.size, 0, none⟩ = some (.int .i64 m) ∧ X.cell? ⟨w.heap.size, 1, none⟩ = some (.int .i64 0) ∧ X.cell? ⟨w.heap.size, 2, none⟩ = some (.slice (some ⟨ba, off, none⟩) 0 cap)) := Lib.hid fun X h => (A.out.below h).all
  refine wp_region_held_drew (S := (fun w' => w'.cell? ⟨w.heap.size, 0, none⟩ = some (.int .i64 m) ∧ w'.cell? ⟨w.heap.size, 1, none⟩ = some (.int .i64 0) ∧ w'.cell? ⟨w.heap.size, 2, none⟩ = some (.slice (some ⟨ba, off, none⟩) 0 cap))) (by kernel_rfl) ?_ (fun hHeld => ?_)
  ·with_reducible exact SH.out _ KB.out
  refine wpAnyH_take (i := 0) (oi := { dst := some 15, op := Op.fieldAddr 28 (Operand.tmp 1) 0, type := 0, pos := "l03_normal.go:123", after := #[], guard := none }) (v := ?_) rfl (by kernel_rfl) (by kernel_rfl) (by kernel_rfl) (fun _ _ _ h => h) (Or.inl ⟨by rfl, ?_⟩) (by assumption) ?_
  rotate_left
  ·intro w hSw
   (try dsimp only at hSw)
   go_simp
   try with_reducible rfl
  try simp only [Act.put, List.setIfInBounds_toArray, List.set_cons_zero, List.set_cons_succ]
  refine wpAnyH_take (i := 1) (oi := { dst := some 16, op := Op.load 2 (Operand.tmp 15), type := 2, pos := "l03_normal.go:123", after := #[{ on := 0, ground := Ground.data }], guard := none }) (v := ?_) rfl (by kernel_rfl) (by kernel_rfl) (by kernel_rfl) (fun _ _ _ h => h) (Or.inl ⟨by rfl, ?_⟩) (by assumption) ?_
  rotate_left
  ·intro w hSw
   (try dsimp only at hSw)
   go_simp
   try with_reducible rfl
  try simp only [Act.put, List.setIfInBounds_toArray, List.set_cons_zero, List.set_cons_succ]
  refine wpAnyH_take (i := 2) (oi := { dst := some 17, op := Op.fieldAddr 28 (Operand.tmp 1) 1, type := 0, pos := "l03_normal.go:123", after := #[], guard := none }) (v := ?_) rfl (by kernel_rfl) (by kernel_rfl) (by kernel_rfl) (fun _ _ _ h => h) (Or.inl ⟨by rfl, ?_⟩) (by assumption) ?_
  rotate_left
  ·intro w hSw
   (try dsimp only at hSw)
   go_simp
   try with_reducible rfl
  try simp only [Act.put, List.setIfInBounds_toArray, List.set_cons_zero, List.set_cons_succ]
  refine wpAnyH_take (i := 3) (oi := { dst := some 18, op := Op.load 2 (Operand.tmp 17), type := 2, pos := "l03_normal.go:123", after := #[{ on := 2, ground := Ground.data }], guard := none }) (v := ?_) rfl (by kernel_rfl) (by kernel_rfl) (by kernel_rfl) (fun _ _ _ h => h) (Or.inl ⟨by rfl, ?_⟩) (by assumption) ?_
  rotate_left
  ·intro w hSw
   (try dsimp only at hSw)
   go_simp
   try with_reducible rfl
  try simp only [Act.put, List.setIfInBounds_toArray, List.set_cons_zero, List.set_cons_succ]
  refine wpAnyH_take (i := 4) (oi := { dst := some 19, op := Op.call { callee := Callee.builtin Builtin.min, args := #[Operand.tmp 18, Operand.const (Value.int IntKind.i64 0)], argTypes := #[2, 2] }, type := 2, pos := "l03_normal.go:123", after := #[{ on := 3, ground := Ground.data }], guard := none }) (v := ?_) rfl (by kernel_rfl) (by kernel_rfl) (by kernel_rfl) (fun _ _ _ h => h) (Or.inl ⟨by rfl, ?_⟩) (by assumption) ?_
  rotate_left
  ·intro w hSw
   (try dsimp only at hSw)
   go_simp
   try with_reducible rfl
  try simp only [Act.put, List.setIfInBounds_toArray, List.set_cons_zero, List.set_cons_succ]
  refine wpAnyH_take (i := 5) (oi := { dst := some 20, op := Op.fieldAddr 28 (Operand.tmp 1) 2, type := 0, pos := "l03_normal.go:123", after := #[], guard := none }) (v := ?_) rfl (by kernel_rfl) (by kernel_rfl) (by kernel_rfl) (fun _ _ _ h => h) (Or.inl ⟨by rfl, ?_⟩) (by assumption) ?_
  rotate_left
  ·intro w hSw
   (try dsimp only at hSw)
   go_simp
   try with_reducible rfl
  try simp only [Act.put, List.setIfInBounds_toArray, List.set_cons_zero, List.set_cons_succ]
  refine wpAnyH_take (i := 6) (oi := { dst := some 21, op := Op.load 26 (Operand.tmp 20), type := 26, pos := "l03_normal.go:123", after := #[{ on := 5, ground := Ground.data }], guard := none }) (v := ?_) rfl (by kernel_rfl) (by kernel_rfl) (by kernel_rfl) (fun _ _ _ h => h) (Or.inl ⟨by rfl, ?_⟩) (by assumption) ?_
  rotate_left
  ·intro w hSw
   (try dsimp only at hSw)
   go_simp
   try with_reducible rfl
  try simp only [Act.put, List.setIfInBounds_toArray, List.set_cons_zero, List.set_cons_succ]
  refine wpAnyH_take (i := 7) (oi := { dst := some 22, op := Op.move (Operand.tmp 4), type := 3, pos := "l03_normal.go:123", after := #[], guard := none }) (v := ?_) rfl (by kernel_rfl) (by kernel_rfl) (by kernel_rfl) (fun _ _ _ h => h) (Or.inl ⟨by rfl, ?_⟩) (by assumption) ?_
  rotate_left
  ·intro w hSw
   (try dsimp only at hSw)
   go_simp
   try with_reducible rfl
  try simp only [Act.put, List.setIfInBounds_toArray, List.set_cons_zero, List.set_cons_succ]
  refine wpAnyH_take (i := 8) (oi := { dst := some 23, op := Op.move (Operand.tmp 4), type := 3, pos := "l03_normal.go:123", after := #[], guard := none }) (v := ?_) rfl (by kernel_rfl) (by kernel_rfl) (by kernel_rfl) (fun _ _ _ h => h) (Or.inl ⟨by rfl, ?_⟩) (by assumption) ?_
  rotate_left
  ·intro w hSw
   (try dsimp only at hSw)
   go_simp
   try with_reducible rfl
  try simp only [Act.put, List.setIfInBounds_toArray, List.set_cons_zero, List.set_cons_succ]
  refine wpAnyH_take (i := 9) (oi := { dst := some 24, op := Op.slice 26 (Operand.tmp 21) none (some (Operand.tmp 22)) (some (Operand.tmp 23)), type := 26, pos := "l03_normal.go:123", after := #[{ on := 6, ground := Ground.data }, { on := 7, ground := Ground.data }, { on := 8, ground := Ground.data }], guard := none }) (v := ?_) rfl (by kernel_rfl) (by kernel_rfl) (by kernel_rfl) (fun _ _ _ h => h) (Or.inl ⟨by rfl, ?_⟩) (by assumption) ?_
  rotate_left
  ·intro w hSw
   (try dsimp only at hSw)
   go_simp
   try with_reducible rfl
  try simp only [Act.put, List.setIfInBounds_toArray, List.set_cons_zero, List.set_cons_succ]
  refine wpAnyH_take (i := 10) (oi := { dst := some 25, op := Op.build 28 #[(0, Operand.tmp 16), (1, Operand.tmp 19), (2, Operand.tmp 24)], type := 28, pos := "l03_normal.go:123", after := #[{ on := 1, ground := Ground.data }, { on := 4, ground := Ground.data }, { on := 9, ground := Ground.data }], guard := none }) (v := ?_) rfl (by kernel_rfl) (by kernel_rfl) (by kernel_rfl) (fun _ _ _ h => h) (Or.inl ⟨by rfl, ?_⟩) (by assumption) ?_
  rotate_left
  ·intro w hSw
   (try dsimp only at hSw)
   go_simp
   try with_reducible rfl
  try simp only [Act.put, List.setIfInBounds_toArray, List.set_cons_zero, List.set_cons_succ]
  refine wpAnyH_ready (rs := [11]) (by kernel_rfl) (by simp) ?_
  refine AllReadyH.cons (o := { dst := some 5, op := Op.alloc 28, type := 0, pos := "l03_normal.go:123", after := #[], guard := none }) rfl (fun K hK => ?_) ?_
  ·go_simp
   have ZZ : Hid (At3 (W0.alloc (.cells #[.int .i64 0, .int .i64 0, .slice none 0 0] 28)).drew (W0.heap.size) (.int .i64 0) (.int .i64 0) (.slice none 0 0)) := Lib.hid ((At3.place W0 (.int .i64 0) (.int .i64 0) (.slice none 0 0) 28 (W0.heap.size) (by simp)).drew)
   replace KB : Hid (Below W0.heap.size W0 (W0.alloc (.cells #[.int .i64 0, .int .i64 0, .slice none 0 0] 28)).drew) := Lib.hid (KB.out.alloc KB.out.size (.cells #[.int .i64 0, .int .i64 0, .slice none 0 0] 28))
   refine hK.out _ _ ?_ (fun hHeld => ?_)
   ·with_reducible exact SH.out _ KB.out
   clear hK K
   try simp only [Act.put, List.setIfInBounds_toArray, List.set_cons_zero, List.set_cons_succ]
   refine wpAnyH_ready (rs := [12]) (by kernel_rfl) (by simp) ?_
   refine AllReadyH.cons (o := { dst := none, op := Op.store 28 (Operand.tmp 5) (Operand.tmp 25), type := 0, pos := "l03_normal.go:123", after := #[{ on := 11, ground := Ground.data }, { on := 10, ground := Ground.data }, { on := 0, ground := Ground.phase }, { on := 1, ground := Ground.phase }, { on := 2, ground := Ground.phase }, { on := 3, ground := Ground.phase }, { on := 4, ground := Ground.phase }, { on := 5, ground := Ground.phase }, { on := 6, ground := Ground.phase }, { on := 7, ground := Ground.phase }, { on := 8, ground := Ground.phase }, { on := 9, ground := Ground.phase }, { on := 10, ground := Ground.phase }, { on := 11, ground := Ground.phase }], guard := none }) rfl (fun K hK => ?_) ?_
   ·obtain ⟨z0, ⟨z1, z2, z3⟩, z4, z5, z6⟩ := ZZ.out
    go_simp
    clear z0 z1 z2 z3 z4 z5 z6 KB
    have KB : Hid (Below W0.heap.size W0 (W0.alloc (.cells #[.int .i64 m, .int .i64 0, .slice (some ⟨ba, off, none⟩) 0 0] 28)).drew) := Lib.hid ((below1 W0 _).drew)
    refine hK.out _ _ ?_ (fun hHeld => ?_)
    ·with_reducible exact SH.out _ KB.out
    clear hK K
    try simp only [Act.put, List.setIfInBounds_toArray, List.set_cons_zero, List.set_cons_succ]
    refine wpAnyH_done (by kernel_rfl) ?_ _
    go_wp2_with fail
    go_meet
    exact ⟨rfl, (At3.place W0 _ _ _ 28 W0.heap.size rfl).drew, (below1 W0 _).drew⟩
   exact AllReadyH.nil
  exact AllReadyH.nil
 case rest =>
  obtain ⟨v1, hwc⟩ : ∃ x, x = wc := ⟨_, rfl⟩; subst hwc
  obtain ⟨rfl, hS, hb⟩ := hcut
  have S := Lib.hid hS
  have hv1 := S.out.1
  replace A := Lib.hid (A.out.below hb)
  replace Z1 := Lib.hid (Z1.out.below hb)
  replace Z2 := Lib.hid (Z2.out.below hb)
  replace B := Lib.hid (below_go B.out hb B.out.size)
  clear hS hb
  have HV1 := Lib.hid hv1
  clear hv1
  obtain ⟨q1, q2, q3⟩ := A.out.all
  go_wp2_with fail
  refine (clone_any (some ⟨ba, off, none⟩) 0 cap (l.drop 0) _ ((by rw [List.drop_zero]; exact R.out.below B.out)) (by omega)).mono ?_
  rintro e v2 ⟨b2, d2, rfl, ho, hb⟩
  have QB : Hid (OwnSIn v1.heap.size v2.heap.size v2 b2 0 (l.drop 0)) := Lib.hid (by have := ho.within; simpa using this)
  replace A := Lib.hid (A.out.below hb)
  replace S := Lib.hid (S.out.below hb)
  replace Z1 := Lib.hid (Z1.out.below hb)
  replace Z2 := Lib.hid (Z2.out.below hb)
  have HV2 := Lib.hid hb.size
  replace B := Lib.hid (below_go B.out hb B.out.size)
  clear ho hb q1 q2 q3
  obtain ⟨q1, q2, q3⟩ := A.out.all
  go_upto_region 4 with fail
  clear q1 q2 q3
  have KB : Hid (Below v2.heap.size v2 v2.drew) := Lib.hid (Below.refl v2.heap.size v2).drew
  have SH : Hid (∀ X, Below v2.heap.size v2 X → (X.cell? ⟨w.heap.size, 0, none⟩ = some (.int .i64 m) ∧ X.cell? ⟨w.heap.size, 1, none⟩ = some (.int .i64 0) ∧ X.cell? ⟨w.heap.size, 2, none⟩ = some (.slice (some ⟨ba, off, none⟩) 0 cap)) ∧ (X.cell? ⟨W0.heap.size, 0, none⟩ = some (.int .i64 m) ∧ X.cell? ⟨W0.heap.size, 1, none⟩ = some (.int .i64 0) ∧ X.cell? ⟨W0.heap.size, 2, none⟩ = some (.slice (some ⟨ba, off, none⟩) 0 0))) := Lib.hid fun X h => ⟨(A.out.below h).cells, (S.out.below h).cells⟩
  obtain ⟨ip, hip⟩ : ∃ ip, ip = -((0 : Nat) : Int) - 0 := ⟨_, rfl⟩
  have EV : Hid ((negK 0 : Int) - (endF 0 l : Nat) = ip) := Lib.hid (by rw [HK.out, HC.out, hip]; omega)
  refine wp_region_held_drew (S := (fun w' => (w'.cell? ⟨w.heap.size, 0, none⟩ = some (.int .i64 m) ∧ w'.cell? ⟨w.heap.size, 1, none⟩ = some (.int .i64 0) ∧ w'.cell? ⟨w.heap.size, 2, none⟩ = some (.slice (some ⟨ba, off, none⟩) 0 cap)) ∧ (w'.cell? ⟨W0.heap.size, 0, none⟩ = some (.int .i64 m) ∧ w'.cell? ⟨W0.heap.size, 1, none⟩ = some (.int .i64 0) ∧ w'.cell? ⟨W0.heap.size, 2, none⟩ = some (.slice (some ⟨ba, off, none⟩) 0 0)))) (by kernel_rfl) ?_ (fun hHeld => ?_)
  ·first | with_reducible exact SH.out _ KB.out | with_reducible exact ⟨A.out.cells, S.out.cells⟩
  refine wpAnyH_take (i := 0) (oi := { dst := some 31, op := Op.load 28 (Operand.tmp 5), type := 28, pos := "l03_normal.go:125", after := #[], guard := none }) (v := ?_) rfl (by kernel_rfl) (by kernel_rfl) (by kernel_rfl) (fun _ _ _ h => h) (Or.inl ⟨by rfl, ?_⟩) (by assumption) ?_
  rotate_left
  ·intro w hSw
   (try dsimp only at hSw)
   go_simp
   try with_reducible rfl
  try simp only [Act.put, List.setIfInBounds_toArray, List.set_cons_zero, List.set_cons_succ]
  refine wpAnyH_take (i := 2) (oi := { dst := some 33, op := Op.fieldAddr 28 (Operand.tmp 1) 0, type := 0, pos := "l03_normal.go:125", after := #[{ on := 9, ground := Ground.gcOnly Departure.lateStores }], guard := none }) (v := ?_) rfl (by kernel_rfl) (by kernel_rfl) (by kernel_rfl) (fun _ _ _ h => h) (Or.inl ⟨by rfl, ?_⟩) (by assumption) ?_
  rotate_left
  ·intro w hSw
   (try dsimp only at hSw)
   go_simp
   try with_reducible rfl
  try simp only [Act.put, List.setIfInBounds_toArray, List.set_cons_zero, List.set_cons_succ]
  refine wpAnyH_take (i := 3) (oi := { dst := some 34, op := Op.load 2 (Operand.tmp 33), type := 2, pos := "l03_normal.go:125", after := #[{ on := 2, ground := Ground.data }, { on := 9, ground := Ground.gcOnly Departure.lateStores }], guard := none }) (v := ?_) rfl (by kernel_rfl) (by kernel_rfl) (by kernel_rfl) (fun _ _ _ h => h) (Or.inl ⟨by rfl, ?_⟩) (by assumption) ?_
  rotate_left
  ·intro w hSw
   (try dsimp only at hSw)
   go_simp
   try with_reducible rfl
  try simp only [Act.put, List.setIfInBounds_toArray, List.set_cons_zero, List.set_cons_succ]
  refine wpAnyH_take (i := 4) (oi := { dst := some 35, op := Op.fieldAddr 28 (Operand.tmp 1) 1, type := 0, pos := "l03_normal.go:125", after := #[], guard := none }) (v := ?_) rfl (by kernel_rfl) (by kernel_rfl) (by kernel_rfl) (fun _ _ _ h => h) (Or.inl ⟨by rfl, ?_⟩) (by assumption) ?_
  rotate_left
  ·intro w hSw
   (try dsimp only at hSw)
   go_simp
   try with_reducible rfl
  try simp only [Act.put, List.setIfInBounds_toArray, List.set_cons_zero, List.set_cons_succ]
  refine wpAnyH_take (i := 5) (oi := { dst := some 36, op := Op.load 2 (Operand.tmp 35), type := 2, pos := "l03_normal.go:125", after := #[{ on := 4, ground := Ground.data }], guard := none }) (v := ?_) rfl (by kernel_rfl) (by kernel_rfl) (by kernel_rfl) (fun _ _ _ h => h) (Or.inl ⟨by rfl, ?_⟩) (by assumption) ?_
  rotate_left
  ·intro w hSw
   (try dsimp only at hSw)
   go_simp
   try with_reducible rfl
  try simp only [Act.put, List.setIfInBounds_toArray, List.set_cons_zero, List.set_cons_succ]
  refine wpAnyH_take (i := 6) (oi := { dst := some 37, op := Op.call { callee := Callee.builtin Builtin.max, args := #[Operand.tmp 36, Operand.const (Value.int IntKind.i64 0)], argTypes := #[2, 2] }, type := 2, pos := "l03_normal.go:125", after := #[{ on := 5, ground := Ground.data }], guard := none }) (v := ?_) rfl (by kernel_rfl) (by kernel_rfl) (by kernel_rfl) (fun _ _ _ h => h) (Or.inl ⟨by rfl, ?_⟩) (by assumption) ?_
  rotate_left
  ·intro w hSw
   (try dsimp only at hSw)
   go_simp
   try with_reducible rfl
  try simp only [Act.put, List.setIfInBounds_toArray, List.set_cons_zero, List.set_cons_succ]
  refine wpAnyH_take (i := 7) (oi := { dst := some 38, op := Op.move (Operand.tmp 6), type := 26, pos := "l03_normal.go:125", after := #[{ on := 9, ground := Ground.gcOnly Departure.lateStores }], guard := none }) (v := ?_) rfl (by kernel_rfl) (by kernel_rfl) (by kernel_rfl) (fun _ _ _ h => h) (Or.inl ⟨by rfl, ?_⟩) (by assumption) ?_
  rotate_left
  ·intro w hSw
   (try dsimp only at hSw)
   go_simp
   try with_reducible rfl
  try simp only [Act.put, List.setIfInBounds_toArray, List.set_cons_zero, List.set_cons_succ]
  refine wpAnyH_take (i := 8) (oi := { dst := some 39, op := Op.build 28 #[(0, Operand.tmp 34), (1, Operand.tmp 37), (2, Operand.tmp 38)], type := 28, pos := "l03_normal.go:125", after := #[{ on := 3, ground := Ground.data }, { on := 6, ground := Ground.data }, { on := 7, ground := Ground.data }, { on := 9, ground := Ground.gcOnly Departure.lateStores }], guard := none }) (v := ?_) rfl (by kernel_rfl) (by kernel_rfl) (by kernel_rfl) (fun _ _ _ h => h) (Or.inl ⟨by rfl, ?_⟩) (by assumption) ?_
  rotate_left
  ·intro w hSw
   (try dsimp only at hSw)
   go_simp
   try with_reducible rfl
  try simp only [Act.put, List.setIfInBounds_toArray, List.set_cons_zero, List.set_cons_succ]
  refine wpAnyH_ready (rs := [1]) (by kernel_rfl) (by simp) ?_
  refine AllReadyH.cons (o := { dst := some 32, op := Op.call { callee := Callee.value (Operand.func 73), args := #[Operand.tmp 31], argTypes := #[28] }, type := 28, pos := "l03_normal.go:125", after := #[{ on := 0, ground := Ground.data }], guard := none }) rfl (fun K hK => ?_) ?_
  ·go_simp
   have hinv := fun W (hW : Below v2.heap.size v2 W) => inverse_any m 0 (by omega) (some ⟨ba, off, none⟩) 0 0 (l.take 0) W ((R.out.first 0 (Nat.zero_le _)).below (B.out.trans (hW.mono B.out.size))) (fun x hx => HS.out x (List.mem_of_mem_take hx)) (by omega)
   rw [← hip] at hinv
   clear hip
   refine (hinv _ KB.out).mono ?_
   rintro e v3 ⟨b1, n1, c1, rfl, ho, gg⟩
   have QA : Hid (OwnS v2.heap.size v3 b1 n1 (turns m 0 (invL m (l.take 0)))) := Lib.hid (ho.toS.mono KB.out.size)
   replace KB := Lib.hid (below_go KB.out gg KB.out.size)
   have QB2 : Hid (OwnSIn v1.heap.size v2.heap.size v3 b2 0 (l.drop 0)) := Lib.hid ⟨QB.out.1.below KB.out, QB.out.2⟩
   replace A := Lib.hid (A.out.below KB.out)
   replace S := Lib.hid (S.out.below KB.out)
   replace Z1 := Lib.hid (Z1.out.below KB.out)
   replace Z2 := Lib.hid (Z2.out.below KB.out)
   replace B := Lib.hid (B.out.trans (KB.out.mono B.out.size))
   clear ho gg hinv
   go_wp2_with fail
   refine hK.out _ _ ?_ (fun hHeld => ?_)
   ·first | with_reducible exact SH.out _ KB.out | with_reducible exact ⟨A.out.cells, S.out.cells⟩
   clear hK K
   try simp only [Act.put, List.setIfInBounds_toArray, List.set_cons_zero, List.set_cons_succ]
   refine wpAnyH_ready (rs := [9]) (by kernel_rfl) (by simp) ?_
   refine AllReadyH.cons (o := { dst := none, op := Op.store 28 (Operand.tmp 2) (Operand.tmp 32), type := 0, pos := "l03_normal.go:125", after := #[{ on := 1, ground := Ground.data }, { on := 1, ground := Ground.chain }, { on := 0, ground := Ground.phase }, { on := 1, ground := Ground.phase }, { on := 2, ground := Ground.textOnly Departure.lateStores }, { on := 3, ground := Ground.textOnly Departure.lateStores }, { on := 4, ground := Ground.textOnly Departure.lateStores }, { on := 5, ground := Ground.textOnly Departure.lateStores }, { on := 6, ground := Ground.textOnly Departure.lateStoresUnsure }, { on := 7, ground := Ground.textOnly Departure.lateStores }, { on := 8, ground := Ground.textOnly Departure.lateStores }], guard := none }) rfl (fun K hK => ?_) ?_
   ·obtain ⟨z0, ⟨z1, z2, z3⟩, z4, z5, z6⟩ := Z1.out
    go_simp
    clear z0 z1 z2 z3 z4 z5 z6
    have hs0 := HS0.out
    have hv1 := HV1.out
    have hv2 := HV2.out
    have hk3 := KB.out.size
    replace A := Lib.hid (A.out.set3 (g2 := w.heap.size + 1) (by omega) (.int .i64 m) (.int .i64 ip) (.slice b1 n1 c1))
    replace S := Lib.hid (S.out.set3 (g2 := w.heap.size + 1) (by omega) (.int .i64 m) (.int .i64 ip) (.slice b1 n1 c1))
    replace Z1 := Lib.hid (Z1.out.fill (.int .i64 m) (.int .i64 ip) (.slice b1 n1 c1))
    replace Z2 := Lib.hid (Z2.out.set3 (g2 := w.heap.size + 1) (by omega) (.int .i64 m) (.int .i64 ip) (.slice b1 n1 c1))
    replace QA := Lib.hid (QA.out.set3 (g2 := w.heap.size + 1) (by omega) (.int .i64 m) (.int .i64 ip) (.slice b1 n1 c1))
    replace QB2 : Hid (OwnSIn v1.heap.size v2.heap.size _ b2 0 (l.drop 0)) := Lib.hid ⟨QB2.out.1.set3 (g2 := w.heap.size + 1) (by omega) (.int .i64 m) (.int .i64 ip) (.slice b1 n1 c1), QB2.out.2⟩
    replace B := Lib.hid (below_set3 (g2 := w.heap.size + 1) B.out (by omega) (.int .i64 m) (.int .i64 ip) (.slice b1 n1 c1))
    clear hs0 hv1 hv2 hk3
    obtain ⟨U8, hU8⟩ : ∃ U, U = (((v3.setCell ⟨w.heap.size + 1, 0, none⟩ (.int .i64 m)).setCell ⟨w.heap.size + 1, 1, none⟩ (.int .i64 ip)).setCell ⟨w.heap.size + 1, 2, none⟩ (.slice b1 n1 c1)) := ⟨_, rfl⟩
    rw [← hU8] at A S Z1 Z2 QA QB2 B ⊢
    clear hU8
    refine hK.out _ _ ?_ (fun hHeld => ?_)
    ·first | with_reducible exact SH.out _ KB.out | with_reducible exact ⟨A.out.cells, S.out.cells⟩
    clear hK K
    try simp only [Act.put, List.setIfInBounds_toArray, List.set_cons_zero, List.set_cons_succ]
    refine wpAnyH_ready (rs := [10]) (by kernel_rfl) (by simp) ?_
    refine AllReadyH.cons (o := { dst := none, op := Op.store 28 (Operand.tmp 3) (Operand.tmp 39), type := 0, pos := "l03_normal.go:125", after := #[{ on := 8, ground := Ground.data }, { on := 9, ground := Ground.chain }, { on := 0, ground := Ground.phase }, { on := 1, ground := Ground.phase }, { on := 2, ground := Ground.phase }, { on := 3, ground := Ground.phase }, { on := 4, ground := Ground.phase }, { on := 5, ground := Ground.phase }, { on := 6, ground := Ground.phase }, { on := 7, ground := Ground.phase }, { on := 8, ground := Ground.phase }, { on := 9, ground := Ground.phase }], guard := none }) rfl (fun K hK => ?_) ?_
    ·obtain ⟨z0, ⟨z1, z2, z3⟩, z4, z5, z6⟩ := Z2.out
     go_simp
     clear z0 z1 z2 z3 z4 z5 z6
     have hs0 := HS0.out
     have hv1 := HV1.out
     have hv2 := HV2.out
     have hk3 := KB.out.size
     replace A := Lib.hid (A.out.set3 (g2 := w.heap.size + 1 + 1) (by omega) (.int .i64 m) (.int .i64 0) (.slice b2 0 d2))
     replace S := Lib.hid (S.out.set3 (g2 := w.heap.size + 1 + 1) (by omega) (.int .i64 m) (.int .i64 0) (.slice b2 0 d2))
     replace Z1 := Lib.hid (Z1.out.set3 (g2 := w.heap.size + 1 + 1) (by omega) (.int .i64 m) (.int .i64 0) (.slice b2 0 d2))
     replace Z2 := Lib.hid (Z2.out.fill (.int .i64 m) (.int .i64 0) (.slice b2 0 d2))
     replace QA := Lib.hid (QA.out.set3 (g2 := w.heap.size + 1 + 1) (by omega) (.int .i64 m) (.int .i64 0) (.slice b2 0 d2))
     replace QB2 : Hid (OwnSIn v1.heap.size v2.heap.size _ b2 0 (l.drop 0)) := Lib.hid ⟨QB2.out.1.set3 (g2 := w.heap.size + 1 + 1) (by omega) (.int .i64 m) (.int .i64 0) (.slice b2 0 d2), QB2.out.2⟩
     replace B := Lib.hid (below_set3 (g2 := w.heap.size + 1 + 1) B.out (by omega) (.int .i64 m) (.int .i64 0) (.slice b2 0 d2))
     clear hs0 hv1 hv2 hk3
     obtain ⟨U9, hU9⟩ : ∃ U, U = (((U8.setCell ⟨w.heap.size + 1 + 1, 0, none⟩ (.int .i64 m)).setCell ⟨w.heap.size + 1 + 1, 1, none⟩ (.int .i64 0)).setCell ⟨w.heap.size + 1 + 1, 2, none⟩ (.slice b2 0 d2)) := ⟨_, rfl⟩
     rw [← hU9] at A S Z1 Z2 QA QB2 B ⊢
     clear hU9
     refine hK.out _ _ ?_ (fun hHeld => ?_)
     ·first | with_reducible exact SH.out _ KB.out | with_reducible exact ⟨A.out.cells, S.out.cells⟩
     clear hK K
     try simp only [Act.put, List.setIfInBounds_toArray, List.set_cons_zero, List.set_cons_succ]
     refine wpAnyH_done (by kernel_rfl) ?_ _
     go_wp2
     try rw [Exit.noGoto_ret]
     obtain ⟨e1, e2, e3⟩ := Z1.out.cells
     obtain ⟨f1, f2, f3⟩ := Z2.out.cells
     have hs0 := HS0.out
     have hv1 := HV1.out
     have hv2 := HV2.out
     exact bodyPost_ret (v := .tuple #[.agg #[(.int .i64 m), (.int .i64 ip), (.slice b1 n1 c1)], .agg #[(.int .i64 m), (.int .i64 0), (.slice b2 0 d2)]]) (by simp [results, Try.results75, go_sem, e1, e2, e3, f1, f2, f3]) rfl ⟨b1, n1, c1, b2, 0, d2, v2.heap.size, by first | rw [EV.out, HX.out] | (rw [EV.out]; simp), by omega, by rw [HC.out]; unfold fracA; rw [HK.out, Int.neg_neg]; exact QA.out, by rw [HC.out]; exact ⟨QB2.out.1.mono (by omega), QB2.out.2⟩, B.out⟩
    exact AllReadyH.nil
   exact AllReadyH.nil
  exact AllReadyH.nil

set_option maxRecDepth 100000 in
set_option maxHeartbeats 8000000 in
theorem fraction_NN (m : Nat) (c : Nat) (hc : c ≤ 200) (h0 : 0 < c)  (l : List (List Int)) (w : World) (hr : ReadsA w none 0 l) (hl : Sims m l) :
  Calls Try.prog 75 #[.agg #[.int .i64 m, .int .i64 (-(c : Int)), .slice none 0 0]] w (RetFr w m (-(c : Int)) l) := by
 have HL := Lib.hid hr.len
 have HS := Lib.hid hl
 have R := Lib.hid hr
 clear hr hl
 have hcc : 0 ≤ 0 := by omega
 have HC : Hid (endF (-(c : Int)) l = 0) := Lib.hid (by unfold endF negK; have := HL.out; omega)
 have HK : Hid ((negK (-(c : Int)) : Int) = -(-(c : Int))) := Lib.hid (by unfold negK; omega)
 have HX : Hid (max (-(c : Int)) 0 = 0) := Lib.hid (by omega)
 have A := Lib.hid (((At3.place w (.int .i64 m) (.int .i64 (-(c : Int))) (.slice none 0 0) 28 w.heap.size rfl).alloc (.cells #[.int .i64 0, .int .i64 0, .slice none 0 0] 28)).alloc (.cells #[.int .i64 0, .int .i64 0, .slice none 0 0] 28))
 have Z1 := Lib.hid ((At3.place (w.alloc (.cells #[.int .i64 m, .int .i64 (-(c : Int)), .slice none 0 0] 28)) (.int .i64 0) (.int .i64 0) (.slice none 0 0) 28 (w.heap.size + 1) (by simp)).alloc (.cells #[.int .i64 0, .int .i64 0, .slice none 0 0] 28))
 have Z2 := Lib.hid (At3.place ((w.alloc (.cells #[.int .i64 m, .int .i64 (-(c : Int)), .slice none 0 0] 28)).alloc (.cells #[.int .i64 0, .int .i64 0, .slice none 0 0] 28)) (.int .i64 0) (.int .i64 0) (.slice none 0 0) 28 (w.heap.size + 1 + 1) (by simp))
 have B := Lib.hid ((below2 w (.cells #[.int .i64 m, .int .i64 (-(c : Int)), .slice none 0 0] 28) (.cells #[.int .i64 0, .int .i64 0, .slice none 0 0] 28)).alloc (by simp; omega) (.cells #[.int .i64 0, .int .i64 0, .slice none 0 0] 28))
 obtain ⟨W0, hW0⟩ : ∃ W0, W0 = (((w.alloc (.cells #[.int .i64 m, .int .i64 (-(c : Int)), .slice none 0 0] 28)).alloc (.cells #[.int .i64 0, .int .i64 0, .slice none 0 0] 28)).alloc (.cells #[.int .i64 0, .int .i64 0, .slice none 0 0] 28)) := ⟨_, rfl⟩
 have hs0 : W0.heap.size = w.heap.size + 1 + 1 + 1 := by rw [hW0]; simp
 rw [← hW0] at A Z1 Z2 B
 have HW0 := Lib.hid hW0
 clear hW0
 have HS0 := Lib.hid hs0
 clear hs0
 go_enter Try.func75, Try.ntmps75
 go_upto_region 1 with fail
 rw [← HW0.out]
 obtain ⟨q1, q2, q3⟩ := A.out.all
 go_upto_region 2 with fail
 clear q1 q2 q3
 go_cut [5] from 15 to 25 (fun x5 wx => x5 = .pointer (some ⟨W0.heap.size, 0, none⟩) ∧ At3 wx W0.heap.size (.int .i64 m) (.int .i64 (-(c : Int))) (.slice none 0 0) ∧ Below W0.heap.size W0 wx)
 case first =>
  have KB : Hid (Below W0.heap.size W0 W0.drew) := Lib.hid (Below.refl W0.heap.size W0).drew
  have SH : Hid (∀ X, Below W0.heap.size W0 X → X.cell? ⟨w.heap.size, 0, none⟩ = some (.int .i64 m) ∧ X.cell? ⟨w.heap.size, 1, none⟩ = some (.int .i64 (-(c : Int))) ∧ X.cell? ⟨w.heap.size, 2, none⟩ = some (.slice none 0 0)) := Lib.hid fun X h => (A.out.below h).all
  refine wp_region_held_drew (S := (fun w' => w'.cell? ⟨w.heap.size, 0, none⟩ = some (.int .i64 m) ∧ w'.cell? ⟨w.heap.size, 1, none⟩ = some (.int .i64 (-(c : Int))) ∧ w'.cell? ⟨w.heap.size, 2, none⟩ = some (.slice none 0 0))) (by kernel_rfl) ?_ (fun hHeld => ?_)
  ·with_reducible exact SH.out _ KB.out
  refine wpAnyH_take (i := 0) (oi := { dst := some 15, op := Op.fieldAddr 28 (Operand.tmp 1) 0, type := 0, pos := "l03_normal.go:123", after := #[], guard := none }) (v := ?_) rfl (by kernel_rfl) (by kernel_rfl) (by kernel_rfl) (fun _ _ _ h => h) (Or.inl ⟨by rfl, ?_⟩) (by assumption) ?_
  rotate_left
  ·intro w hSw
   (try dsimp only at hSw)
   go_simp
   try with_reducible rfl
  try simp only [Act.put, List.setIfInBounds_toArray, List.set_cons_zero, List.set_cons_succ]
  refine wpAnyH_take (i := 1) (oi := { dst := some 16, op := Op.load 2 (Operand.tmp 15), type := 2, pos := "l03_normal.go:123", after := #[{ on := 0, ground := Ground.data }], guard := none }) (v := ?_) rfl (by kernel_rfl) (by kernel_rfl) (by kernel_rfl) (fun _ _ _ h => h) (Or.inl ⟨by rfl, ?_⟩) (by assumption) ?_
  rotate_left
  ·intro w hSw
   (try dsimp only at hSw)
   go_simp
   try with_reducible rfl
  try simp only [Act.put, List.setIfInBounds_toArray, List.set_cons_zero, List.set_cons_succ]
  refine wpAnyH_take (i := 2) (oi := { dst := some 17, op := Op.fieldAddr 28 (Operand.tmp 1) 1, type := 0, pos := "l03_normal.go:123", after := #[], guard := none }) (v := ?_) rfl (by kernel_rfl) (by kernel_rfl) (by kernel_rfl) (fun _ _ _ h => h) (Or.inl ⟨by rfl, ?_⟩) (by assumption) ?_
  rotate_left
  ·intro w hSw
   (try dsimp only at hSw)
   go_simp
   try with_reducible rfl
  try simp only [Act.put, List.setIfInBounds_toArray, List.set_cons_zero, List.set_cons_succ]
  refine wpAnyH_take (i := 3) (oi := { dst := some 18, op := Op.load 2 (Operand.tmp 17), type := 2, pos := "l03_normal.go:123", after := #[{ on := 2, ground := Ground.data }], guard := none }) (v := ?_) rfl (by kernel_rfl) (by kernel_rfl) (by kernel_rfl) (fun _ _ _ h => h) (Or.inl ⟨by rfl, ?_⟩) (by assumption) ?_
  rotate_left
  ·intro w hSw
   (try dsimp only at hSw)
   go_simp
   try with_reducible rfl
  try simp only [Act.put, List.setIfInBounds_toArray, List.set_cons_zero, List.set_cons_succ]
  refine wpAnyH_take (i := 4) (oi := { dst := some 19, op := Op.call { callee := Callee.builtin Builtin.min, args := #[Operand.tmp 18, Operand.const (Value.int IntKind.i64 0)], argTypes := #[2, 2] }, type := 2, pos := "l03_normal.go:123", after := #[{ on := 3, ground := Ground.data }], guard := none }) (v := ?_) rfl (by kernel_rfl) (by kernel_rfl) (by kernel_rfl) (fun _ _ _ h => h) (Or.inl ⟨by rfl, ?_⟩) (by assumption) ?_
  rotate_left
  ·intro w hSw
   (try dsimp only at hSw)
   go_simp
   try with_reducible rfl
  try simp only [Act.put, List.setIfInBounds_toArray, List.set_cons_zero, List.set_cons_succ]
  refine wpAnyH_take (i := 5) (oi := { dst := some 20, op := Op.fieldAddr 28 (Operand.tmp 1) 2, type := 0, pos := "l03_normal.go:123", after := #[], guard := none }) (v := ?_) rfl (by kernel_rfl) (by kernel_rfl) (by kernel_rfl) (fun _ _ _ h => h) (Or.inl ⟨by rfl, ?_⟩) (by assumption) ?_
  rotate_left
  ·intro w hSw
   (try dsimp only at hSw)
   go_simp
   try with_reducible rfl
  try simp only [Act.put, List.setIfInBounds_toArray, List.set_cons_zero, List.set_cons_succ]
  refine wpAnyH_take (i := 6) (oi := { dst := some 21, op := Op.load 26 (Operand.tmp 20), type := 26, pos := "l03_normal.go:123", after := #[{ on := 5, ground := Ground.data }], guard := none }) (v := ?_) rfl (by kernel_rfl) (by kernel_rfl) (by kernel_rfl) (fun _ _ _ h => h) (Or.inl ⟨by rfl, ?_⟩) (by assumption) ?_
  rotate_left
  ·intro w hSw
   (try dsimp only at hSw)
   go_simp
   try with_reducible rfl
  try simp only [Act.put, List.setIfInBounds_toArray, List.set_cons_zero, List.set_cons_succ]
  refine wpAnyH_take (i := 7) (oi := { dst := some 22, op := Op.move (Operand.tmp 4), type := 3, pos := "l03_normal.go:123", after := #[], guard := none }) (v := ?_) rfl (by kernel_rfl) (by kernel_rfl) (by kernel_rfl) (fun _ _ _ h => h) (Or.inl ⟨by rfl, ?_⟩) (by assumption) ?_
  rotate_left
  ·intro w hSw
   (try dsimp only at hSw)
   go_simp
   try with_reducible rfl
  try simp only [Act.put, List.setIfInBounds_toArray, List.set_cons_zero, List.set_cons_succ]
  refine wpAnyH_take (i := 8) (oi := { dst := some 23, op := Op.move (Operand.tmp 4), type := 3, pos := "l03_normal.go:123", after := #[], guard := none }) (v := ?_) rfl (by kernel_rfl) (by kernel_rfl) (by kernel_rfl) (fun _ _ _ h => h) (Or.inl ⟨by rfl, ?_⟩) (by assumption) ?_
  rotate_left
  ·intro w hSw
   (try dsimp only at hSw)
   go_simp
   try with_reducible rfl
  try simp only [Act.put, List.setIfInBounds_toArray, List.set_cons_zero, List.set_cons_succ]
  refine wpAnyH_take (i := 9) (oi := { dst := some 24, op := Op.slice 26 (Operand.tmp 21) none (some (Operand.tmp 22)) (some (Operand.tmp 23)), type := 26, pos := "l03_normal.go:123", after := #[{ on := 6, ground := Ground.data }, { on := 7, ground := Ground.data }, { on := 8, ground := Ground.data }], guard := none }) (v := ?_) rfl (by kernel_rfl) (by kernel_rfl) (by kernel_rfl) (fun _ _ _ h => h) (Or.inl ⟨by rfl, ?_⟩) (by assumption) ?_
  rotate_left
  ·intro w hSw
   (try dsimp only at hSw)
   go_simp
   try with_reducible rfl
  try simp only [Act.put, List.setIfInBounds_toArray, List.set_cons_zero, List.set_cons_succ]
  refine wpAnyH_take (i := 10) (oi := { dst := some 25, op := Op.build 28 #[(0, Operand.tmp 16), (1, Operand.tmp 19), (2, Operand.tmp 24)], type := 28, pos := "l03_normal.go:123", after := #[{ on := 1, ground := Ground.data }, { on := 4, ground := Ground.data }, { on := 9, ground := Ground.data }], guard := none }) (v := ?_) rfl (by kernel_rfl) (by kernel_rfl) (by kernel_rfl) (fun _ _ _ h => h) (Or.inl ⟨by rfl, ?_⟩) (by assumption) ?_
  rotate_left
  ·intro w hSw
   (try dsimp only at hSw)
   go_simp
   try with_reducible rfl
  try simp only [Act.put, List.setIfInBounds_toArray, List.set_cons_zero, List.set_cons_succ]
  refine wpAnyH_ready (rs := [11]) (by kernel_rfl) (by simp) ?_
  refine AllReadyH.cons (o := { dst := some 5, op := Op.alloc 28, type := 0, pos := "l03_normal.go:123", after := #[], guard := none }) rfl (fun K hK => ?_) ?_
  ·go_simp
   have ZZ : Hid (At3 (W0.alloc (.cells #[.int .i64 0, .int .i64 0, .slice none 0 0] 28)).drew (W0.heap.size) (.int .i64 0) (.int .i64 0) (.slice none 0 0)) := Lib.hid ((At3.place W0 (.int .i64 0) (.int .i64 0) (.slice none 0 0) 28 (W0.heap.size) (by simp)).drew)
   replace KB : Hid (Below W0.heap.size W0 (W0.alloc (.cells #[.int .i64 0, .int .i64 0, .slice none 0 0] 28)).drew) := Lib.hid (KB.out.alloc KB.out.size (.cells #[.int .i64 0, .int .i64 0, .slice none 0 0] 28))
   refine hK.out _ _ ?_ (fun hHeld => ?_)
   ·with_reducible exact SH.out _ KB.out
   clear hK K
   try simp only [Act.put, List.setIfInBounds_toArray, List.set_cons_zero, List.set_cons_succ]
   refine wpAnyH_ready (rs := [12]) (by kernel_rfl) (by simp) ?_
   refine AllReadyH.cons (o := { dst := none, op := Op.store 28 (Operand.tmp 5) (Operand.tmp 25), type := 0, pos := "l03_normal.go:123", after := #[{ on := 11, ground := Ground.data }, { on := 10, ground := Ground.data }, { on := 0, ground := Ground.phase }, { on := 1, ground := Ground.phase }, { on := 2, ground := Ground.phase }, { on := 3, ground := Ground.phase }, { on := 4, ground := Ground.phase }, { on := 5, ground := Ground.phase }, { on := 6, ground := Ground.phase }, { on := 7, ground := Ground.phase }, { on := 8, ground := Ground.phase }, { on := 9, ground := Ground.phase }, { on := 10, ground := Ground.phase }, { on := 11, ground := Ground.phase }], guard := none }) rfl (fun K hK => ?_) ?_
   ·obtain ⟨z0, ⟨z1, z2, z3⟩, z4, z5, z6⟩ := ZZ.out
    go_simp
    clear z0 z1 z2 z3 z4 z5 z6 KB
    have KB : Hid (Below W0.heap.size W0 (W0.alloc (.cells #[.int .i64 m, .int .i64 (if (c : Int) < 0 then 0 else -(c : Int)), .slice none 0 0] 28)).drew) := Lib.hid ((below1 W0 _).drew)
    refine hK.out _ _ ?_ (fun hHeld => ?_)
    ·with_reducible exact SH.out _ KB.out
    clear hK K
    try simp only [Act.put, List.setIfInBounds_toArray, List.set_cons_zero, List.set_cons_succ]
    refine wpAnyH_done (by kernel_rfl) ?_ _
    go_wp2_with fail
    go_meet
    exact ⟨rfl, (At3.place W0 _ _ _ 28 W0.heap.size rfl).drew, (below1 W0 _).drew⟩
   exact AllReadyH.nil
  exact AllReadyH.nil
 case rest =>
  obtain ⟨v1, hwc⟩ : ∃ x, x = wc := ⟨_, rfl⟩; subst hwc
  obtain ⟨rfl, hS, hb⟩ := hcut
  have S := Lib.hid hS
  have hv1 := S.out.1
  replace A := Lib.hid (A.out.below hb)
  replace Z1 := Lib.hid (Z1.out.below hb)
  replace Z2 := Lib.hid (Z2.out.below hb)
  replace B := Lib.hid (below_go B.out hb B.out.size)
  clear hS hb
  have HV1 := Lib.hid hv1
  clear hv1
  obtain ⟨q1, q2, q3⟩ := A.out.all
  go_wp2_with fail
  refine (clone_any none 0 0 (l.drop 0) _ (ReadsA.empty rfl (by rw [List.length_drop, HL.out])) (by omega)).mono ?_
  rintro e v2 ⟨b2, d2, rfl, ho, hb⟩
  have QB : Hid (OwnSIn v1.heap.size v2.heap.size v2 b2 0 (l.drop 0)) := Lib.hid (by have := ho.within; simpa using this)
  replace A := Lib.hid (A.out.below hb)
  replace S := Lib.hid (S.out.below hb)
  replace Z1 := Lib.hid (Z1.out.below hb)
  replace Z2 := Lib.hid (Z2.out.below hb)
  have HV2 := Lib.hid hb.size
  replace B := Lib.hid (below_go B.out hb B.out.size)
  clear ho hb q1 q2 q3
  obtain ⟨q1, q2, q3⟩ := A.out.all
  go_upto_region 4 with fail
  clear q1 q2 q3
  have KB : Hid (Below v2.heap.size v2 v2.drew) := Lib.hid (Below.refl v2.heap.size v2).drew
  have SH : Hid (∀ X, Below v2.heap.size v2 X → (X.cell? ⟨w.heap.size, 0, none⟩ = some (.int .i64 m) ∧ X.cell? ⟨w.heap.size, 1, none⟩ = some (.int .i64 (-(c : Int))) ∧ X.cell? ⟨w.heap.size, 2, none⟩ = some (.slice none 0 0)) ∧ (X.cell? ⟨W0.heap.size, 0, none⟩ = some (.int .i64 m) ∧ X.cell? ⟨W0.heap.size, 1, none⟩ = some (.int .i64 (-(c : Int))) ∧ X.cell? ⟨W0.heap.size, 2, none⟩ = some (.slice none 0 0))) := Lib.hid fun X h => ⟨(A.out.below h).cells, (S.out.below h).cells⟩
  obtain ⟨ip, hip⟩ : ∃ ip, ip = -((0 : Nat) : Int) - (-(c : Int)) := ⟨_, rfl⟩
  have EV : Hid ((negK (-(c : Int)) : Int) - (endF (-(c : Int)) l : Nat) = ip) := Lib.hid (by rw [HK.out, HC.out, hip]; omega)
  refine wp_region_held_drew (S := (fun w' => (w'.cell? ⟨w.heap.size, 0, none⟩ = some (.int .i64 m) ∧ w'.cell? ⟨w.heap.size, 1, none⟩ = some (.int .i64 (-(c : Int))) ∧ w'.cell? ⟨w.heap.size, 2, none⟩ = some (.slice none 0 0)) ∧ (w'.cell? ⟨W0.heap.size, 0, none⟩ = some (.int .i64 m) ∧ w'.cell? ⟨W0.heap.size, 1, none⟩ = some (.int .i64 (-(c : Int))) ∧ w'.cell? ⟨W0.heap.size, 2, none⟩ = some (.slice none 0 0)))) (by kernel_rfl) ?_ (fun hHeld => ?_)
  ·first | with_reducible exact SH.out _ KB.out | with_reducible exact ⟨A.out.cells, S.out.cells⟩
  refine wpAnyH_take (i := 0) (oi := { dst := some 31, op := Op.load 28 (Operand.tmp 5), type := 28, pos := "l03_normal.go:125", after := #[], guard := none }) (v := ?_) rfl (by kernel_rfl) (by kernel_rfl) (by kernel_rfl) (fun _ _ _ h => h) (Or.inl ⟨by rfl, ?_⟩) (by assumption) ?_
  rotate_left
  ·intro w hSw
   (try dsimp only at hSw)
   go_simp
   try with_reducible rfl
  try simp only [Act.put, List.setIfInBounds_toArray, List.set_cons_zero, List.set_cons_succ]
  refine wpAnyH_take (i := 2) (oi := { dst := some 33, op := Op.fieldAddr 28 (Operand.tmp 1) 0, type := 0, pos := "l03_normal.go:125", after := #[{ on := 9, ground := Ground.gcOnly Departure.lateStores }], guard := none }) (v := ?_) rfl (by kernel_rfl) (by kernel_rfl) (by kernel_rfl) (fun _ _ _ h => h) (Or.inl ⟨by rfl, ?_⟩) (by assumption) ?_
  rotate_left
  ·intro w hSw
   (try dsimp only at hSw)
   go_simp
   try with_reducible rfl
  try simp only [Act.put, List.setIfInBounds_toArray, List.set_cons_zero, List.set_cons_succ]
  refine wpAnyH_take (i := 3) (oi := { dst := some 34, op := Op.load 2 (Operand.tmp 33), type := 2, pos := "l03_normal.go:125", after := #[{ on := 2, ground := Ground.data }, { on := 9, ground := Ground.gcOnly Departure.lateStores }], guard := none }) (v := ?_) rfl (by kernel_rfl) (by kernel_rfl) (by kernel_rfl) (fun _ _ _ h => h) (Or.inl ⟨by rfl, ?_⟩) (by assumption) ?_
  rotate_left
  ·intro w hSw
   (try dsimp only at hSw)
   go_simp
   try with_reducible rfl
  try simp only [Act.put, List.setIfInBounds_toArray, List.set_cons_zero, List.set_cons_succ]
  refine wpAnyH_take (i := 4) (oi := { dst := some 35, op := Op.fieldAddr 28 (Operand.tmp 1) 1, type := 0, pos := "l03_normal.go:125", after := #[], guard := none }) (v := ?_) rfl (by kernel_rfl) (by kernel_rfl) (by kernel_rfl) (fun _ _ _ h => h) (Or.inl ⟨by rfl, ?_⟩) (by assumption) ?_
  rotate_left
  ·intro w hSw
   (try dsimp only at hSw)
   go_simp
   try with_reducible rfl
  try simp only [Act.put, List.setIfInBounds_toArray, List.set_cons_zero, List.set_cons_succ]
  refine wpAnyH_take (i := 5) (oi := { dst := some 36, op := Op.load 2 (Operand.tmp 35), type := 2, pos := "l03_normal.go:125", after := #[{ on := 4, ground := Ground.data }], guard := none }) (v := ?_) rfl (by kernel_rfl) (by kernel_rfl) (by kernel_rfl) (fun _ _ _ h => h) (Or.inl ⟨by rfl, ?_⟩) (by assumption) ?_
  rotate_left
  ·intro w hSw
   (try dsimp only at hSw)
   go_simp
   try with_reducible rfl
  try simp only [Act.put, List.setIfInBounds_toArray, List.set_cons_zero, List.set_cons_succ]
  refine wpAnyH_take (i := 6) (oi := { dst := some 37, op := Op.call { callee := Callee.builtin Builtin.max, args := #[Operand.tmp 36, Operand.const (Value.int IntKind.i64 0)], argTypes := #[2, 2] }, type := 2, pos := "l03_normal.go:125", after := #[{ on := 5, ground := Ground.data }], guard := none }) (v := ?_) rfl (by kernel_rfl) (by kernel_rfl) (by kernel_rfl) (fun _ _ _ h => h) (Or.inl ⟨by rfl, ?_⟩) (by assumption) ?_
  rotate_left
  ·intro w hSw
   (try dsimp only at hSw)
   go_simp
   try with_reducible rfl
  try simp only [Act.put, List.setIfInBounds_toArray, List.set_cons_zero, List.set_cons_succ]
  refine wpAnyH_take (i := 7) (oi := { dst := some 38, op := Op.move (Operand.tmp 6), type := 26, pos := "l03_normal.go:125", after := #[{ on := 9, ground := Ground.gcOnly Departure.lateStores }], guard := none }) (v := ?_) rfl (by kernel_rfl) (by kernel_rfl) (by kernel_rfl) (fun _ _ _ h => h) (Or.inl ⟨by rfl, ?_⟩) (by assumption) ?_
  rotate_left
  ·intro w hSw
   (try dsimp only at hSw)
   go_simp
   try with_reducible rfl
  try simp only [Act.put, List.setIfInBounds_toArray, List.set_cons_zero, List.set_cons_succ]
  refine wpAnyH_take (i := 8) (oi := { dst := some 39, op := Op.build 28 #[(0, Operand.tmp 34), (1, Operand.tmp 37), (2, Operand.tmp 38)], type := 28, pos := "l03_normal.go:125", after := #[{ on := 3, ground := Ground.data }, { on := 6, ground := Ground.data }, { on := 7, ground := Ground.data }, { on := 9, ground := Ground.gcOnly Departure.lateStores }], guard := none }) (v := ?_) rfl (by kernel_rfl) (by kernel_rfl) (by kernel_rfl) (fun _ _ _ h => h) (Or.inl ⟨by rfl, ?_⟩) (by assumption) ?_
  rotate_left
  ·intro w hSw
   (try dsimp only at hSw)
   go_simp
   try with_reducible rfl
  try simp only [Act.put, List.setIfInBounds_toArray, List.set_cons_zero, List.set_cons_succ]
  refine wpAnyH_ready (rs := [1]) (by kernel_rfl) (by simp) ?_
  refine AllReadyH.cons (o := { dst := some 32, op := Op.call { callee := Callee.value (Operand.func 73), args := #[Operand.tmp 31], argTypes := #[28] }, type := 28, pos := "l03_normal.go:125", after := #[{ on := 0, ground := Ground.data }], guard := none }) rfl (fun K hK => ?_) ?_
  ·go_simp
   have hinv := fun W (hW : Below v2.heap.size v2 W) => inverse_any m (-(c : Int)) (by omega) none 0 0 (l.take 0) W (((ReadsA.empty (w := w) (a := none) rfl (by rw [List.length_take]; omega) : ReadsA w none 0 (l.take 0))).below (B.out.trans (hW.mono B.out.size))) (fun x hx => HS.out x (List.mem_of_mem_take hx)) (by omega)
   rw [← hip] at hinv
   clear hip
   refine (hinv _ KB.out).mono ?_
   rintro e v3 ⟨b1, n1, c1, rfl, ho, gg⟩
   have QA : Hid (OwnS v2.heap.size v3 b1 n1 (turns m (-(c : Int)) (invL m (l.take 0)))) := Lib.hid (ho.toS.mono KB.out.size)
   replace KB := Lib.hid (below_go KB.out gg KB.out.size)
   have QB2 : Hid (OwnSIn v1.heap.size v2.heap.size v3 b2 0 (l.drop 0)) := Lib.hid ⟨QB.out.1.below KB.out, QB.out.2⟩
   replace A := Lib.hid (A.out.below KB.out)
   replace S := Lib.hid (S.out.below KB.out)
   replace Z1 := Lib.hid (Z1.out.below KB.out)
   replace Z2 := Lib.hid (Z2.out.below KB.out)
   replace B := Lib.hid (B.out.trans (KB.out.mono B.out.size))
   clear ho gg hinv
   go_wp2_with fail
   refine hK.out _ _ ?_ (fun hHeld => ?_)
   ·first | with_reducible exact SH.out _ KB.out | with_reducible exact ⟨A.out.cells, S.out.cells⟩
   clear hK K
   try simp only [Act.put, List.setIfInBounds_toArray, List.set_cons_zero, List.set_cons_succ]
   refine wpAnyH_ready (rs := [9]) (by kernel_rfl) (by simp) ?_
   refine AllReadyH.cons (o := { dst := none, op := Op.store 28 (Operand.tmp 2) (Operand.tmp 32), type := 0, pos := "l03_normal.go:125", after := #[{ on := 1, ground := Ground.data }, { on := 1, ground := Ground.chain }, { on := 0, ground := Ground.phase }, { on := 1, ground := Ground.phase }, { on := 2, ground := Ground.textOnly Departure.lateStores }, { on := 3, ground := Ground.textOnly Departure.lateStores }, { on := 4, ground := Ground.textOnly Departure.lateStores }, { on := 5, ground := Ground.textOnly Departure.lateStores }, { on := 6, ground := Ground.textOnly Departure.lateStoresUnsure }, { on := 7, ground := Ground.textOnly Departure.lateStores }, { on := 8, ground := Ground.textOnly Departure.lateStores }], guard := none }) rfl (fun K hK => ?_) ?_
   ·obtain ⟨z0, ⟨z1, z2, z3⟩, z4, z5, z6⟩ := Z1.out
    go_simp
    clear z0 z1 z2 z3 z4 z5 z6
    have hs0 := HS0.out
    have hv1 := HV1.out
    have hv2 := HV2.out
    have hk3 := KB.out.size
    replace A := Lib.hid (A.out.set3 (g2 := w.heap.size + 1) (by omega) (.int .i64 m) (.int .i64 ip) (.slice b1 n1 c1))
    replace S := Lib.hid (S.out.set3 (g2 := w.heap.size + 1) (by omega) (.int .i64 m) (.int .i64 ip) (.slice b1 n1 c1))
    replace Z1 := Lib.hid (Z1.out.fill (.int .i64 m) (.int .i64 ip) (.slice b1 n1 c1))
    replace Z2 := Lib.hid (Z2.out.set3 (g2 := w.heap.size + 1) (by omega) (.int .i64 m) (.int .i64 ip) (.slice b1 n1 c1))
    replace QA := Lib.hid (QA.out.set3 (g2 := w.heap.size + 1) (by omega) (.int .i64 m) (.int .i64 ip) (.slice b1 n1 c1))
    replace QB2 : Hid (OwnSIn v1.heap.size v2.heap.size _ b2 0 (l.drop 0)) := Lib.hid ⟨QB2.out.1.set3 (g2 := w.heap.size + 1) (by omega) (.int .i64 m) (.int .i64 ip) (.slice b1 n1 c1), QB2.out.2⟩
    replace B := Lib.hid (below_set3 (g2 := w.heap.size + 1) B.out (by omega) (.int .i64 m) (.int .i64 ip) (.slice b1 n1 c1))
    clear hs0 hv1 hv2 hk3
    obtain ⟨U8, hU8⟩ : ∃ U, U = (((v3.setCell ⟨w.heap.size + 1, 0, none⟩ (.int .i64 m)).setCell ⟨w.heap.size + 1, 1, none⟩ (.int .i64 ip)).setCell ⟨w.heap.size + 1, 2, none⟩ (.slice b1 n1 c1)) := ⟨_, rfl⟩
    rw [← hU8] at A S Z1 Z2 QA QB2 B ⊢
    clear hU8
    refine hK.out _ _ ?_ (fun hHeld => ?_)
    ·first | with_reducible exact SH.out _ KB.out | with_reducible exact ⟨A.out.cells, S.out.cells⟩
    clear hK K
    try simp only [Act.put, List.setIfInBounds_toArray, List.set_cons_zero, List.set_cons_succ]
    refine wpAnyH_ready (rs := [10]) (by kernel_rfl) (by simp) ?_
    refine AllReadyH.cons (o := { dst := none, op := Op.store 28 (Operand.tmp 3) (Operand.tmp 39), type := 0, pos := "l03_normal.go:125", after := #[{ on := 8, ground := Ground.data }, { on := 9, ground := Ground.chain }, { on := 0, ground := Ground.phase }, { on := 1, ground := Ground.phase }, { on := 2, ground := Ground.phase }, { on := 3, ground := Ground.phase }, { on := 4, ground := Ground.phase }, { on := 5, ground := Ground.phase }, { on := 6, ground := Ground.phase }, { on := 7, ground := Ground.phase }, { on := 8, ground := Ground.phase }, { on := 9, ground := Ground.phase }], guard := none }) rfl (fun K hK => ?_) ?_
    ·obtain ⟨z0, ⟨z1, z2, z3⟩, z4, z5, z6⟩ := Z2.out
     go_simp
     clear z0 z1 z2 z3 z4 z5 z6
     have hs0 := HS0.out
     have hv1 := HV1.out
     have hv2 := HV2.out
     have hk3 := KB.out.size
     replace A := Lib.hid (A.out.set3 (g2 := w.heap.size + 1 + 1) (by omega) (.int .i64 m) (.int .i64 0) (.slice b2 0 d2))
     replace S := Lib.hid (S.out.set3 (g2 := w.heap.size + 1 + 1) (by omega) (.int .i64 m) (.int .i64 0) (.slice b2 0 d2))
     replace Z1 := Lib.hid (Z1.out.set3 (g2 := w.heap.size + 1 + 1) (by omega) (.int .i64 m) (.int .i64 0) (.slice b2 0 d2))
     replace Z2 := Lib.hid (Z2.out.fill (.int .i64 m) (.int .i64 0) (.slice b2 0 d2))
     replace QA := Lib.hid (QA.out.set3 (g2 := w.heap.size + 1 + 1) (by omega) (.int .i64 m) (.int .i64 0) (.slice b2 0 d2))
     replace QB2 : Hid (OwnSIn v1.heap.size v2.heap.size _ b2 0 (l.drop 0)) := Lib.hid ⟨QB2.out.1.set3 (g2 := w.heap.size + 1 + 1) (by omega) (.int .i64 m) (.int .i64 0) (.slice b2 0 d2), QB2.out.2⟩
     replace B := Lib.hid (below_set3 (g2 := w.heap.size + 1 + 1) B.out (by omega) (.int .i64 m) (.int .i64 0) (.slice b2 0 d2))
     clear hs0 hv1 hv2 hk3
     obtain ⟨U9, hU9⟩ : ∃ U, U = (((U8.setCell ⟨w.heap.size + 1 + 1, 0, none⟩ (.int .i64 m)).setCell ⟨w.heap.size + 1 + 1, 1, none⟩ (.int .i64 0)).setCell ⟨w.heap.size + 1 + 1, 2, none⟩ (.slice b2 0 d2)) := ⟨_, rfl⟩
     rw [← hU9] at A S Z1 Z2 QA QB2 B ⊢
     clear hU9
     refine hK.out _ _ ?_ (fun hHeld => ?_)
     ·first | with_reducible exact SH.out _ KB.out | with_reducible exact ⟨A.out.cells, S.out.cells⟩
     clear hK K
     try simp only [Act.put, List.setIfInBounds_toArray, List.set_cons_zero, List.set_cons_succ]
     refine wpAnyH_done (by kernel_rfl) ?_ _
     go_wp2
     try rw [Exit.noGoto_ret]
     obtain ⟨e1, e2, e3⟩ := Z1.out.cells
     obtain ⟨f1, f2, f3⟩ := Z2.out.cells
     have hs0 := HS0.out
     have hv1 := HV1.out
     have hv2 := HV2.out
     exact bodyPost_ret (v := .tuple #[.agg #[(.int .i64 m), (.int .i64 ip), (.slice b1 n1 c1)], .agg #[(.int .i64 m), (.int .i64 0), (.slice b2 0 d2)]]) (by simp [results, Try.results75, go_sem, e1, e2, e3, f1, f2, f3]) rfl ⟨b1, n1, c1, b2, 0, d2, v2.heap.size, by first | rw [EV.out, HX.out] | (rw [EV.out]; simp), by omega, by rw [HC.out]; unfold fracA; rw [HK.out, Int.neg_neg]; exact QA.out, by rw [HC.out]; exact ⟨QB2.out.1.mono (by omega), QB2.out.2⟩, B.out⟩
    exact AllReadyH.nil
   exact AllReadyH.nil
  exact AllReadyH.nil

set_option maxRecDepth 100000 in
set_option maxHeartbeats 8000000 in
theorem fraction_NP (m : Nat) (c : Nat) (hc : c ≤ 200) (h0 : 0 < c)  (l : List (List Int)) (w : World) (hr : ReadsA w none 0 l) (hl : Sims m l) :
  Calls Try.prog 75 #[.agg #[.int .i64 m, .int .i64 (c : Int), .slice none 0 0]] w (RetFr w m (c : Int) l) := by
 have HL := Lib.hid hr.len
 have HS := Lib.hid hl
 have R := Lib.hid hr
 clear hr hl
 have hcc : 0 ≤ 0 := by omega
 have HC : Hid (endF (c : Int) l = 0) := Lib.hid (by unfold endF negK; have := HL.out; omega)
 have HK : Hid ((negK (c : Int) : Int) = -0) := Lib.hid (by unfold negK; omega)
 have HX : Hid (max (c : Int) 0 = (c : Int)) := Lib.hid (by omega)
 have A := Lib.hid (((At3.place w (.int .i64 m) (.int .i64 (c : Int)) (.slice none 0 0) 28 w.heap.size rfl).alloc (.cells #[.int .i64 0, .int .i64 0, .slice none 0 0] 28)).alloc (.cells #[.int .i64 0, .int .i64 0, .slice none 0 0] 28))
 have Z1 := Lib.hid ((At3.place (w.alloc (.cells #[.int .i64 m, .int .i64 (c : Int), .slice none 0 0] 28)) (.int .i64 0) (.int .i64 0) (.slice none 0 0) 28 (w.heap.size + 1) (by simp)).alloc (.cells #[.int .i64 0, .int .i64 0, .slice none 0 0] 28))
 have Z2 := Lib.hid (At3.place ((w.alloc (.cells #[.int .i64 m, .int .i64 (c : Int), .slice none 0 0] 28)).alloc (.cells #[.int .i64 0, .int .i64 0, .slice none 0 0] 28)) (.int .i64 0) (.int .i64 0) (.slice none 0 0) 28 (w.heap.size + 1 + 1) (by simp))
 have B := Lib.hid ((below2 w (.cells #[.int .i64 m, .int .i64 (c : Int), .slice none 0 0] 28) (.cells #[.int .i64 0, .int .i64 0, .slice none 0 0] 28)).alloc (by simp; omega) (.cells #[.int .i64 0, .int .i64 0, .slice none 0 0] 28))
 obtain ⟨W0, hW0⟩ : ∃ W0, W0 = (((w.alloc (.cells #[.int .i64 m, .int .i64 (c : Int), .slice none 0 0] 28)).alloc (.cells #[.int .i64 0, .int .i64 0, .slice none 0 0] 28)).alloc (.cells #[.int .i64 0, .int .i64 0, .slice none 0 0] 28)) := ⟨_, rfl⟩
 have hs0 : W0.heap.size = w.heap.size + 1 + 1 + 1 := by rw [hW0]; simp
 rw [← hW0] at A Z1 Z2 B
 have HW0 := Lib.hid hW0
 clear hW0
 have HS0 := Lib.hid hs0
 clear hs0
 go_enter Try.func75, Try.ntmps75
 go_upto_region 1 with fail
 rw [← HW0.out]
 obtain ⟨q1, q2, q3⟩ := A.out.all
 go_upto_region 2 with fail
 clear q1 q2 q3
 go_cut [5] from 15 to 25 (fun x5 wx => x5 = .pointer (some ⟨W0.heap.size, 0, none⟩) ∧ At3 wx W0.heap.size (.int .i64 m) (.int .i64 0) (.slice none 0 0) ∧ Below W0.heap.size W0 wx)
 case first =>
  have KB : Hid (Below W0.heap.size W0 W0.drew) := Lib.hid (Below.refl W0.heap.size W0).drew
  have SH : Hid (∀ X, Below W0.heap.size W0 X → X.cell? ⟨w.heap.size, 0, none⟩ = some (.int .i64 m) ∧ X.cell? ⟨w.heap.size, 1, none⟩ = some (.int .i64 (c : Int)) ∧ X.cell? ⟨w.heap.size, 2, none⟩ = some (.slice none 0 0)) := Lib.hid fun X h => (A.out.below h).all
  refine wp_region_held_drew (S := (fun w' => w'.cell? ⟨w.heap.size, 0, none⟩ = some (.int .i64 m) ∧ w'.cell? ⟨w.heap.size, 1, none⟩ = some (.int .i64 (c : Int)) ∧ w'.cell? ⟨w.heap.size, 2, none⟩ = some (.slice none 0 0))) (by kernel_rfl) ?_ (fun hHeld => ?_)
  ·with_reducible exact SH.out _ KB.out
  refine wpAnyH_take (i := 0) (oi := { dst := some 15, op := Op.fieldAddr 28 (Operand.tmp 1) 0, type := 0, pos := "l03_normal.go:123", after := #[], guard := none }) (v := ?_) rfl (by kernel_rfl) (by kernel_rfl) (by kernel_rfl) (fun _ _ _ h => h) (Or.inl ⟨by rfl, ?_⟩) (by assumption) ?_
  rotate_left
  ·intro w hSw
   (try dsimp only at hSw)
   go_simp
   try with_reducible rfl
  try simp only [Act.put, List.setIfInBounds_toArray, List.set_cons_zero, List.set_cons_succ]
  refine wpAnyH_take (i := 1) (oi := { dst := some 16, op := Op.load 2 (Operand.tmp 15), type := 2, pos := "l03_normal.go:123", after := #[{ on := 0, ground := Ground.data }], guard := none }) (v := ?_) rfl (by kernel_rfl) (by kernel_rfl) (by kernel_rfl) (fun _ _ _ h => h) (Or.inl ⟨by rfl, ?_⟩) (by assumption) ?_
  rotate_left
  ·intro w hSw
   (try dsimp only at hSw)
   go_simp
   try with_reducible rfl
  try simp only [Act.put, List.setIfInBounds_toArray, List.set_cons_zero, List.set_cons_succ]
  refine wpAnyH_take (i := 2) (oi := { dst := some 17, op := Op.fieldAddr 28 (Operand.tmp 1) 1, type := 0, pos := "l03_normal.go:123", after := #[], guard := none }) (v := ?_) rfl (by kernel_rfl) (by kernel_rfl) (by kernel_rfl) (fun _ _ _ h => h) (Or.inl ⟨by rfl, ?_⟩) (by assumption) ?_
  rotate_left
  ·intro w hSw
   (try dsimp only at hSw)
   go_simp
   try with_reducible rfl
  try simp only [Act.put, List.setIfInBounds_toArray, List.set_cons_zero, List.set_cons_succ]
  refine wpAnyH_take (i := 3) (oi := { dst := some 18, op := Op.load 2 (Operand.tmp 17), type := 2, pos := "l03_normal.go:123", after := #[{ on := 2, ground := Ground.data }], guard := none }) (v := ?_) rfl (by kernel_rfl) (by kernel_rfl) (by kernel_rfl) (fun _ _ _ h => h) (Or.inl ⟨by rfl, ?_⟩) (by assumption) ?_
  rotate_left
  ·intro w hSw
   (try dsimp only at hSw)
   go_simp
   try with_reducible rfl
  try simp only [Act.put, List.setIfInBounds_toArray, List.set_cons_zero, List.set_cons_succ]
  refine wpAnyH_take (i := 4) (oi := { dst := some 19, op := Op.call { callee := Callee.builtin Builtin.min, args := #[Operand.tmp 18, Operand.const (Value.int IntKind.i64 0)], argTypes := #[2, 2] }, type := 2, pos := "l03_normal.go:123", after := #[{ on := 3, ground := Ground.data }], guard := none }) (v := ?_) rfl (by kernel_rfl) (by kernel_rfl) (by kernel_rfl) (fun _ _ _ h => h) (Or.inl ⟨by rfl, ?_⟩) (by assumption) ?_
  rotate_left
  ·intro w hSw
   (try dsimp only at hSw)
   go_simp
   try with_reducible rfl
  try simp only [Act.put, List.setIfInBounds_toArray, List.set_cons_zero, List.set_cons_succ]
  refine wpAnyH_take (i := 5) (oi := { dst := some 20, op := Op.fieldAddr 28 (Operand.tmp 1) 2, type := 0, pos := "l03_normal.go:123", after := #[], guard := none }) (v := ?_) rfl (by kernel_rfl) (by kernel_rfl) (by kernel_rfl) (fun _ _ _ h => h) (Or.inl ⟨by rfl, ?_⟩) (by assumption) ?_
  rotate_left
  ·intro w hSw
   (try dsimp only at hSw)
   go_simp
   try with_reducible rfl
  try simp only [Act.put, List.setIfInBounds_toArray, List.set_cons_zero, List.set_cons_succ]
  refine wpAnyH_take (i := 6) (oi := { dst := some 21, op := Op.load 26 (Operand.tmp 20), type := 26, pos := "l03_normal.go:123", after := #[{ on := 5, ground := Ground.data }], guard := none }) (v := ?_) rfl (by kernel_rfl) (by kernel_rfl) (by kernel_rfl) (fun _ _ _ h => h) (Or.inl ⟨by rfl, ?_⟩) (by assumption) ?_
  rotate_left
  ·intro w hSw
   (try dsimp only at hSw)
   go_simp
   try with_reducible rfl
  try simp only [Act.put, List.setIfInBounds_toArray, List.set_cons_zero, List.set_cons_succ]
  refine wpAnyH_take (i := 7) (oi := { dst := some 22, op := Op.move (Operand.tmp 4), type := 3, pos := "l03_normal.go:123", after := #[], guard := none }) (v := ?_) rfl (by kernel_rfl) (by kernel_rfl) (by kernel_rfl) (fun _ _ _ h => h) (Or.inl ⟨by rfl, ?_⟩) (by assumption) ?_
  rotate_left
  ·intro w hSw
   (try dsimp only at hSw)
   go_simp
   try with_reducible rfl
  try simp only [Act.put, List.setIfInBounds_toArray, List.set_cons_zero, List.set_cons_succ]
  refine wpAnyH_take (i := 8) (oi := { dst := some 23, op := Op.move (Operand.tmp 4), type := 3, pos := "l03_normal.go:123", after := #[], guard := none }) (v := ?_) rfl (by kernel_rfl) (by kernel_rfl) (by kernel_rfl) (fun _ _ _ h => h) (Or.inl ⟨by rfl, ?_⟩) (by assumption) ?_
  rotate_left
  ·intro w hSw
   (try dsimp only at hSw)
   go_simp
   try with_reducible rfl
  try simp only [Act.put, List.setIfInBounds_toArray, List.set_cons_zero, List.set_cons_succ]
  refine wpAnyH_take (i := 9) (oi := { dst := some 24, op := Op.slice 26 (Operand.tmp 21) none (some (Operand.tmp 22)) (some (Operand.tmp 23)), type := 26, pos := "l03_normal.go:123", after := #[{ on := 6, ground := Ground.data }, { on := 7, ground := Ground.data }, { on := 8, ground := Ground.data }], guard := none }) (v := ?_) rfl (by kernel_rfl) (by kernel_rfl) (by kernel_rfl) (fun _ _ _ h => h) (Or.inl ⟨by rfl, ?_⟩) (by assumption) ?_
  rotate_left
  ·intro w hSw
   (try dsimp only at hSw)
   go_simp
   try with_reducible rfl
  try simp only [Act.put, List.setIfInBounds_toArray, List.set_cons_zero, List.set_cons_succ]
  refine wpAnyH_take (i := 10) (oi := { dst := some 25, op := Op.build 28 #[(0, Operand.tmp 16), (1, Operand.tmp 19), (2, Operand.tmp 24)], type := 28, pos := "l03_normal.go:123", after := #[{ on := 1, ground := Ground.data }, { on := 4, ground := Ground.data }, { on := 9, ground := Ground.data }], guard := none }) (v := ?_) rfl (by kernel_rfl) (by kernel_rfl) (by kernel_rfl) (fun _ _ _ h => h) (Or.inl ⟨by rfl, ?_⟩) (by assumption) ?_
  rotate_left
  ·intro w hSw
   (try dsimp only at hSw)
   go_simp
   try with_reducible rfl
  try simp only [Act.put, List.setIfInBounds_toArray, List.set_cons_zero, List.set_cons_succ]
  refine wpAnyH_ready (rs := [11]) (by kernel_rfl) (by simp) ?_
  refine AllReadyH.cons (o := { dst := some 5, op := Op.alloc 28, type := 0, pos := "l03_normal.go:123", after := #[], guard := none }) rfl (fun K hK => ?_) ?_
  ·go_simp
   have ZZ : Hid (At3 (W0.alloc (.cells #[.int .i64 0, .int .i64 0, .slice none 0 0] 28)).drew (W0.heap.size) (.int .i64 0) (.int .i64 0) (.slice none 0 0)) := Lib.hid ((At3.place W0 (.int .i64 0) (.int .i64 0) (.slice none 0 0) 28 (W0.heap.size) (by simp)).drew)
   replace KB : Hid (Below W0.heap.size W0 (W0.alloc (.cells #[.int .i64 0, .int .i64 0, .slice none 0 0] 28)).drew) := Lib.hid (KB.out.alloc KB.out.size (.cells #[.int .i64 0, .int .i64 0, .slice none 0 0] 28))
   refine hK.out _ _ ?_ (fun hHeld => ?_)
   ·with_reducible exact SH.out _ KB.out
   clear hK K
   try simp only [Act.put, List.setIfInBounds_toArray, List.set_cons_zero, List.set_cons_succ]
   refine wpAnyH_ready (rs := [12]) (by kernel_rfl) (by simp) ?_
   refine AllReadyH.cons (o := { dst := none, op := Op.store 28 (Operand.tmp 5) (Operand.tmp 25), type := 0, pos := "l03_normal.go:123", after := #[{ on := 11, ground := Ground.data }, { on := 10, ground := Ground.data }, { on := 0, ground := Ground.phase }, { on := 1, ground := Ground.phase }, { on := 2, ground := Ground.phase }, { on := 3, ground := Ground.phase }, { on := 4, ground := Ground.phase }, { on := 5, ground := Ground.phase }, { on := 6, ground := Ground.phase }, { on := 7, ground := Ground.phase }, { on := 8, ground := Ground.phase }, { on := 9, ground := Ground.phase }, { on := 10, ground := Ground.phase }, { on := 11, ground := Ground.phase }], guard := none }) rfl (fun K hK => ?_) ?_
   ·obtain ⟨z0, ⟨z1, z2, z3⟩, z4, z5, z6⟩ := ZZ.out
    go_simp
    clear z0 z1 z2 z3 z4 z5 z6 KB
    have KB : Hid (Below W0.heap.size W0 (W0.alloc (.cells #[.int .i64 m, .int .i64 0, .slice none 0 0] 28)).drew) := Lib.hid ((below1 W0 _).drew)
    refine hK.out _ _ ?_ (fun hHeld => ?_)
    ·with_reducible exact SH.out _ KB.out
    clear hK K
    try simp only [Act.put, List.setIfInBounds_toArray, List.set_cons_zero, List.set_cons_succ]
    refine wpAnyH_done (by kernel_rfl) ?_ _
    go_wp2_with fail
    go_meet
    exact ⟨rfl, (At3.place W0 _ _ _ 28 W0.heap.size rfl).drew, (below1 W0 _).drew⟩
   exact AllReadyH.nil
  exact AllReadyH.nil
 case rest =>
  obtain ⟨v1, hwc⟩ : ∃ x, x = wc := ⟨_, rfl⟩; subst hwc
  obtain ⟨rfl, hS, hb⟩ := hcut
  have S := Lib.hid hS
  have hv1 := S.out.1
  replace A := Lib.hid (A.out.below hb)
  replace Z1 := Lib.hid (Z1.out.below hb)
  replace Z2 := Lib.hid (Z2.out.below hb)
  replace B := Lib.hid (below_go B.out hb B.out.size)
  clear hS hb
  have HV1 := Lib.hid hv1
  clear hv1
  obtain ⟨q1, q2, q3⟩ := A.out.all
  go_wp2_with fail
  refine (clone_any none 0 0 (l.drop 0) _ (ReadsA.empty rfl (by rw [List.length_drop, HL.out])) (by omega)).mono ?_
  rintro e v2 ⟨b2, d2, rfl, ho, hb⟩
  have QB : Hid (OwnSIn v1.heap.size v2.heap.size v2 b2 0 (l.drop 0)) := Lib.hid (by have := ho.within; simpa using this)
  replace A := Lib.hid (A.out.below hb)
  replace S := Lib.hid (S.out.below hb)
  replace Z1 := Lib.hid (Z1.out.below hb)
  replace Z2 := Lib.hid (Z2.out.below hb)
  have HV2 := Lib.hid hb.size
  replace B := Lib.hid (below_go B.out hb B.out.size)
  clear ho hb q1 q2 q3
  obtain ⟨q1, q2, q3⟩ := A.out.all
  go_upto_region 4 with fail
  clear q1 q2 q3
  have KB : Hid (Below v2.heap.size v2 v2.drew) := Lib.hid (Below.refl v2.heap.size v2).drew
  have SH : Hid (∀ X, Below v2.heap.size v2 X → (X.cell? ⟨w.heap.size, 0, none⟩ = some (.int .i64 m) ∧ X.cell? ⟨w.heap.size, 1, none⟩ = some (.int .i64 (c : Int)) ∧ X.cell? ⟨w.heap.size, 2, none⟩ = some (.slice none 0 0)) ∧ (X.cell? ⟨W0.heap.size, 0, none⟩ = some (.int .i64 m) ∧ X.cell? ⟨W0.heap.size, 1, none⟩ = some (.int .i64 0) ∧ X.cell? ⟨W0.heap.size, 2, none⟩ = some (.slice none 0 0))) := Lib.hid fun X h => ⟨(A.out.below h).cells, (S.out.below h).cells⟩
  obtain ⟨ip, hip⟩ : ∃ ip, ip = -((0 : Nat) : Int) - 0 := ⟨_, rfl⟩
  have EV : Hid ((negK (c : Int) : Int) - (endF (c : Int) l : Nat) = ip) := Lib.hid (by rw [HK.out, HC.out, hip]; omega)
  refine wp_region_held_drew (S := (fun w' => (w'.cell? ⟨w.heap.size, 0, none⟩ = some (.int .i64 m) ∧ w'.cell? ⟨w.heap.size, 1, none⟩ = some (.int .i64 (c : Int)) ∧ w'.cell? ⟨w.heap.size, 2, none⟩ = some (.slice none 0 0)) ∧ (w'.cell? ⟨W0.heap.size, 0, none⟩ = some (.int .i64 m) ∧ w'.cell? ⟨W0.heap.size, 1, none⟩ = some (.int .i64 0) ∧ w'.cell? ⟨W0.heap.size, 2, none⟩ = some (.slice none 0 0)))) (by kernel_rfl) ?_ (fun hHeld => ?_)
  ·first | with_reducible exact SH.out _ KB.out | with_reducible exact ⟨A.out.cells, S.out.cells⟩
  refine wpAnyH_take (i := 0) (oi := { dst := some 31, op := Op.load 28 (Operand.tmp 5), type := 28, pos := "l03_normal.go:125", after := #[], guard := none }) (v := ?_) rfl (by kernel_rfl) (by kernel_rfl) (by kernel_rfl) (fun _ _ _ h => h) (Or.inl ⟨by rfl, ?_⟩) (by assumption) ?_
  rotate_left
  ·intro w hSw
   (try dsimp only at hSw)
   go_simp
   try with_reducible rfl
  try simp only [Act.put, List.setIfInBounds_toArray, List.set_cons_zero, List.set_cons_succ]
  refine wpAnyH_take (i := 2) (oi := { dst := some 33, op := Op.fieldAddr 28 (Operand.tmp 1) 0, type := 0, pos := "l03_normal.go:125", after := #[{ on := 9, ground := Ground.gcOnly Departure.lateStores }], guard := none }) (v := ?_) rfl (by kernel_rfl) (by kernel_rfl) (by kernel_rfl) (fun _ _ _ h => h) (Or.inl ⟨by rfl, ?_⟩) (by assumption) ?_
  rotate_left
  ·intro w hSw
   (try dsimp only at hSw)
   go_simp
   try with_reducible rfl
  try simp only [Act.put, List.setIfInBounds_toArray, List.set_cons_zero, List.set_cons_succ]
  refine wpAnyH_take (i := 3) (oi := { dst := some 34, op := Op.load 2 (Operand.tmp 33), type := 2, pos := "l03_normal.go:125", after := #[{ on := 2, ground := Ground.data }, { on := 9, ground := Ground.gcOnly Departure.lateStores }], guard := none }) (v := ?_) rfl (by kernel_rfl) (by kernel_rfl) (by kernel_rfl) (fun _ _ _ h => h) (Or.inl ⟨by rfl, ?_⟩) (by assumption) ?_
  rotate_left
  ·intro w hSw
   (try dsimp only at hSw)
   go_simp
   try with_reducible rfl
  try simp only [Act.put, List.setIfInBounds_toArray, List.set_cons_zero, List.set_cons_succ]
  refine wpAnyH_take (i := 4) (oi := { dst := some 35, op := Op.fieldAddr 28 (Operand.tmp 1) 1, type := 0, pos := "l03_normal.go:125", after := #[], guard := none }) (v := ?_) rfl (by kernel_rfl) (by kernel_rfl) (by kernel_rfl) (fun _ _ _ h => h) (Or.inl ⟨by rfl, ?_⟩) (by assumption) ?_
  rotate_left
  ·intro w hSw
   (try dsimp only at hSw)
   go_simp
   try with_reducible rfl
  try simp only [Act.put, List.setIfInBounds_toArray, List.set_cons_zero, List.set_cons_succ]
  refine wpAnyH_take (i := 5) (oi := { dst := some 36, op := Op.load 2 (Operand.tmp 35), type := 2, pos := "l03_normal.go:125", after := #[{ on := 4, ground := Ground.data }], guard := none }) (v := ?_) rfl (by kernel_rfl) (by kernel_rfl) (by kernel_rfl) (fun _ _ _ h => h) (Or.inl ⟨by rfl, ?_⟩) (by assumption) ?_
  rotate_left
  ·intro w hSw
   (try dsimp only at hSw)
   go_simp
   try with_reducible rfl
  try simp only [Act.put, List.setIfInBounds_toArray, List.set_cons_zero, List.set_cons_succ]
  refine wpAnyH_take (i := 6) (oi := { dst := some 37, op := Op.call { callee := Callee.builtin Builtin.max, args := #[Operand.tmp 36, Operand.const (Value.int IntKind.i64 0)], argTypes := #[2, 2] }, type := 2, pos := "l03_normal.go:125", after := #[{ on := 5, ground := Ground.data }], guard := none }) (v := ?_) rfl (by kernel_rfl) (by kernel_rfl) (by kernel_rfl) (fun _ _ _ h => h) (Or.inl ⟨by rfl, ?_⟩) (by assumption) ?_
  rotate_left
  ·intro w hSw
   (try dsimp only at hSw)
   go_simp
   try with_reducible rfl
  try simp only [Act.put, List.setIfInBounds_toArray, List.set_cons_zero, List.set_cons_succ]
  refine wpAnyH_take (i := 7) (oi := { dst := some 38, op := Op.move (Operand.tmp 6), type := 26, pos := "l03_normal.go:125", after := #[{ on := 9, ground := Ground.gcOnly Departure.lateStores }], guard := none }) (v := ?_) rfl (by kernel_rfl) (by kernel_rfl) (by kernel_rfl) (fun _ _ _ h => h) (Or.inl ⟨by rfl, ?_⟩) (by assumption) ?_
  rotate_left
  ·intro w hSw
   (try dsimp only at hSw)
   go_simp
   try with_reducible rfl
  try simp only [Act.put, List.setIfInBounds_toArray, List.set_cons_zero, List.set_cons_succ]
  refine wpAnyH_take (i := 8) (oi := { dst := some 39, op := Op.build 28 #[(0, Operand.tmp 34), (1, Operand.tmp 37), (2, Operand.tmp 38)], type := 28, pos := "l03_normal.go:125", after := #[{ on := 3, ground := Ground.data }, { on := 6, ground := Ground.data }, { on := 7, ground := Ground.data }, { on := 9, ground := Ground.gcOnly Departure.lateStores }], guard := none }) (v := ?_) rfl (by kernel_rfl) (by kernel_rfl) (by kernel_rfl) (fun _ _ _ h => h) (Or.inl ⟨by rfl, ?_⟩) (by assumption) ?_
  rotate_left
  ·intro w hSw
   (try dsimp only at hSw)
   go_simp
   try with_reducible rfl
  try simp only [Act.put, List.setIfInBounds_toArray, List.set_cons_zero, List.set_cons_succ]
  refine wpAnyH_ready (rs := [1]) (by kernel_rfl) (by simp) ?_
  refine AllReadyH.cons (o := { dst := some 32, op := Op.call { callee := Callee.value (Operand.func 73), args := #[Operand.tmp 31], argTypes := #[28] }, type := 28, pos := "l03_normal.go:125", after := #[{ on := 0, ground := Ground.data }], guard := none }) rfl (fun K hK => ?_) ?_
  ·go_simp
   have hinv := fun W (hW : Below v2.heap.size v2 W) => inverse_any m 0 (by omega) none 0 0 (l.take 0) W (((ReadsA.empty (w := w) (a := none) rfl (by rw [List.length_take]; omega) : ReadsA w none 0 (l.take 0))).below (B.out.trans (hW.mono B.out.size))) (fun x hx => HS.out x (List.mem_of_mem_take hx)) (by omega)
   rw [← hip] at hinv
   clear hip
   refine (hinv _ KB.out).mono ?_
   rintro e v3 ⟨b1, n1, c1, rfl, ho, gg⟩
   have QA : Hid (OwnS v2.heap.size v3 b1 n1 (turns m 0 (invL m (l.take 0)))) := Lib.hid (ho.toS.mono KB.out.size)
   replace KB := Lib.hid (below_go KB.out gg KB.out.size)
   have QB2 : Hid (OwnSIn v1.heap.size v2.heap.size v3 b2 0 (l.drop 0)) := Lib.hid ⟨QB.out.1.below KB.out, QB.out.2⟩
   replace A := Lib.hid (A.out.below KB.out)
   replace S := Lib.hid (S.out.below KB.out)
   replace Z1 := Lib.hid (Z1.out.below KB.out)
   replace Z2 := Lib.hid (Z2.out.below KB.out)
   replace B := Lib.hid (B.out.trans (KB.out.mono B.out.size))
   clear ho gg hinv
   go_wp2_with fail
   refine hK.out _ _ ?_ (fun hHeld => ?_)
   ·first | with_reducible exact SH.out _ KB.out | with_reducible exact ⟨A.out.cells, S.out.cells⟩
   clear hK K
   try simp only [Act.put, List.setIfInBounds_toArray, List.set_cons_zero, List.set_cons_succ]
   refine wpAnyH_ready (rs := [9]) (by kernel_rfl) (by simp) ?_
   refine AllReadyH.cons (o := { dst := none, op := Op.store 28 (Operand.tmp 2) (Operand.tmp 32), type := 0, pos := "l03_normal.go:125", after := #[{ on := 1, ground := Ground.data }, { on := 1, ground := Ground.chain }, { on := 0, ground := Ground.phase }, { on := 1, ground := Ground.phase }, { on := 2, ground := Ground.textOnly Departure.lateStores }, { on := 3, ground := Ground.textOnly Departure.lateStores }, { on := 4, ground := Ground.textOnly Departure.lateStores }, { on := 5, ground := Ground.textOnly Departure.lateStores }, { on := 6, ground := Ground.textOnly Departure.lateStoresUnsure }, { on := 7, ground := Ground.textOnly Departure.lateStores }, { on := 8, ground := Ground.textOnly Departure.lateStores }], guard := none }) rfl (fun K hK => ?_) ?_
   ·obtain ⟨z0, ⟨z1, z2, z3⟩, z4, z5, z6⟩ := Z1.out
    go_simp
    clear z0 z1 z2 z3 z4 z5 z6
    have hs0 := HS0.out
    have hv1 := HV1.out
    have hv2 := HV2.out
    have hk3 := KB.out.size
    replace A := Lib.hid (A.out.set3 (g2 := w.heap.size + 1) (by omega) (.int .i64 m) (.int .i64 ip) (.slice b1 n1 c1))
    replace S := Lib.hid (S.out.set3 (g2 := w.heap.size + 1) (by omega) (.int .i64 m) (.int .i64 ip) (.slice b1 n1 c1))
    replace Z1 := Lib.hid (Z1.out.fill (.int .i64 m) (.int .i64 ip) (.slice b1 n1 c1))
    replace Z2 := Lib.hid (Z2.out.set3 (g2 := w.heap.size + 1) (by omega) (.int .i64 m) (.int .i64 ip) (.slice b1 n1 c1))
    replace QA := Lib.hid (QA.out.set3 (g2 := w.heap.size + 1) (by omega) (.int .i64 m) (.int .i64 ip) (.slice b1 n1 c1))
    replace QB2 : Hid (OwnSIn v1.heap.size v2.heap.size _ b2 0 (l.drop 0)) := Lib.hid ⟨QB2.out.1.set3 (g2 := w.heap.size + 1) (by omega) (.int .i64 m) (.int .i64 ip) (.slice b1 n1 c1), QB2.out.2⟩
    replace B := Lib.hid (below_set3 (g2 := w.heap.size + 1) B.out (by omega) (.int .i64 m) (.int .i64 ip) (.slice b1 n1 c1))
    clear hs0 hv1 hv2 hk3
    obtain ⟨U8, hU8⟩ : ∃ U, U = (((v3.setCell ⟨w.heap.size + 1, 0, none⟩ (.int .i64 m)).setCell ⟨w.heap.size + 1, 1, none⟩ (.int .i64 ip)).setCell ⟨w.heap.size + 1, 2, none⟩ (.slice b1 n1 c1)) := ⟨_, rfl⟩
    rw [← hU8] at A S Z1 Z2 QA QB2 B ⊢
    clear hU8
    refine hK.out _ _ ?_ (fun hHeld => ?_)
    ·first | with_reducible exact SH.out _ KB.out | with_reducible exact ⟨A.out.cells, S.out.cells⟩
    clear hK K
    try simp only [Act.put, List.setIfInBounds_toArray, List.set_cons_zero, List.set_cons_succ]
    refine wpAnyH_ready (rs := [10]) (by kernel_rfl) (by simp) ?_
    refine AllReadyH.cons (o := { dst := none, op := Op.store 28 (Operand.tmp 3) (Operand.tmp 39), type := 0, pos := "l03_normal.go:125", after := #[{ on := 8, ground := Ground.data }, { on := 9, ground := Ground.chain }, { on := 0, ground := Ground.phase }, { on := 1, ground := Ground.phase }, { on := 2, ground := Ground.phase }, { on := 3, ground := Ground.phase }, { on := 4, ground := Ground.phase }, { on := 5, ground := Ground.phase }, { on := 6, ground := Ground.phase }, { on := 7, ground := Ground.phase }, { on := 8, ground := Ground.phase }, { on := 9, ground := Ground.phase }], guard := none }) rfl (fun K hK => ?_) ?_
    ·obtain ⟨z0, ⟨z1, z2, z3⟩, z4, z5, z6⟩ := Z2.out
     go_simp
     clear z0 z1 z2 z3 z4 z5 z6
     have hs0 := HS0.out
     have hv1 := HV1.out
     have hv2 := HV2.out
     have hk3 := KB.out.size
     replace A := Lib.hid (A.out.set3 (g2 := w.heap.size + 1 + 1) (by omega) (.int .i64 m) (.int .i64 (c : Int)) (.slice b2 0 d2))
     replace S := Lib.hid (S.out.set3 (g2 := w.heap.size + 1 + 1) (by omega) (.int .i64 m) (.int .i64 (c : Int)) (.slice b2 0 d2))
     replace Z1 := Lib.hid (Z1.out.set3 (g2 := w.heap.size + 1 + 1) (by omega) (.int .i64 m) (.int .i64 (c : Int)) (.slice b2 0 d2))
     replace Z2 := Lib.hid (Z2.out.fill (.int .i64 m) (.int .i64 (c : Int)) (.slice b2 0 d2))
     replace QA := Lib.hid (QA.out.set3 (g2 := w.heap.size + 1 + 1) (by omega) (.int .i64 m) (.int .i64 (c : Int)) (.slice b2 0 d2))
     replace QB2 : Hid (OwnSIn v1.heap.size v2.heap.size _ b2 0 (l.drop 0)) := Lib.hid ⟨QB2.out.1.set3 (g2 := w.heap.size + 1 + 1) (by omega) (.int .i64 m) (.int .i64 (c : Int)) (.slice b2 0 d2), QB2.out.2⟩
     replace B := Lib.hid (below_set3 (g2 := w.heap.size + 1 + 1) B.out (by omega) (.int .i64 m) (.int .i64 (c : Int)) (.slice b2 0 d2))
     clear hs0 hv1 hv2 hk3
     obtain ⟨U9, hU9⟩ : ∃ U, U = (((U8.setCell ⟨w.heap.size + 1 + 1, 0, none⟩ (.int .i64 m)).setCell ⟨w.heap.size + 1 + 1, 1, none⟩ (.int .i64 (c : Int))).setCell ⟨w.heap.size + 1 + 1, 2, none⟩ (.slice b2 0 d2)) := ⟨_, rfl⟩
     rw [← hU9] at A S Z1 Z2 QA QB2 B ⊢
     clear hU9
     refine hK.out _ _ ?_ (fun hHeld => ?_)
     ·first | with_reducible exact SH.out _ KB.out | with_reducible exact ⟨A.out.cells, S.out.cells⟩
     clear hK K
     try simp only [Act.put, List.setIfInBounds_toArray, List.set_cons_zero, List.set_cons_succ]
     refine wpAnyH_done (by kernel_rfl) ?_ _
     go_wp2
     try rw [Exit.noGoto_ret]
     obtain ⟨e1, e2, e3⟩ := Z1.out.cells
     obtain ⟨f1, f2, f3⟩ := Z2.out.cells
     have hs0 := HS0.out
     have hv1 := HV1.out
     have hv2 := HV2.out
     exact bodyPost_ret (v := .tuple #[.agg #[(.int .i64 m), (.int .i64 ip), (.slice b1 n1 c1)], .agg #[(.int .i64 m), (.int .i64 (c : Int)), (.slice b2 0 d2)]]) (by simp [results, Try.results75, go_sem, e1, e2, e3, f1, f2, f3]) rfl ⟨b1, n1, c1, b2, 0, d2, v2.heap.size, by first | rw [EV.out, HX.out] | (rw [EV.out]; simp), by omega, by rw [HC.out]; unfold fracA; rw [HK.out, Int.neg_neg]; exact QA.out, by rw [HC.out]; exact ⟨QB2.out.1.mono (by omega), QB2.out.2⟩, B.out⟩
    exact AllReadyH.nil
   exact AllReadyH.nil
  exact AllReadyH.nil

set_option maxRecDepth 100000 in
set_option maxHeartbeats 8000000 in
theorem fraction_NZ (m : Nat)   (l : List (List Int)) (w : World) (hr : ReadsA w none 0 l) (hl : Sims m l) :
  Calls Try.prog 75 #[.agg #[.int .i64 m, .int .i64 0, .slice none 0 0]] w (RetFr w m 0 l) := by
 have HL := Lib.hid hr.len
 have HS := Lib.hid hl
 have R := Lib.hid hr
 clear hr hl
 have hcc : 0 ≤ 0 := by omega
 have HC : Hid (endF 0 l = 0) := Lib.hid (by unfold endF negK; have := HL.out; omega)
 have HK : Hid ((negK 0 : Int) = -0) := Lib.hid (by unfold negK; omega)
 have HX : Hid (max 0 0 = 0) := Lib.hid (by omega)
 have A := Lib.hid (((At3.place w (.int .i64 m) (.int .i64 0) (.slice none 0 0) 28 w.heap.size rfl).alloc (.cells #[.int .i64 0, .int .i64 0, .slice none 0 0] 28)).alloc (.cells #[.int .i64 0, .int .i64 0, .slice none 0 0] 28))
 have Z1 := Lib.hid ((At3.place (w.alloc (.cells #[.int .i64 m, .int .i64 0, .slice none 0 0] 28)) (.int .i64 0) (.int .i64 0) (.slice none 0 0) 28 (w.heap.size + 1) (by simp)).alloc (.cells #[.int .i64 0, .int .i64 0, .slice none 0 0] 28))
 have Z2 := Lib.hid (At3.place ((w.alloc (.cells #[.int .i64 m, .int .i64 0, .slice none 0 0] 28)).alloc (.cells #[.int .i64 0, .int .i64 0, .slice none 0 0] 28)) (.int .i64 0) (.int .i64 0) (.slice none 0 0) 28 (w.heap.size + 1 + 1) (by simp))
 have B := Lib.hid ((below2 w (.cells #[.int .i64 m, .int .i64 0, .slice none 0 0] 28) (.cells #[.int .i64 0, .int .i64 0, .slice none 0 0] 28)).alloc (by simp; omega) (.cells #[.int .i64 0, .int .i64 0, .slice none 0 0] 28))
 obtain ⟨W0, hW0⟩ : ∃ W0, W0 = (((w.alloc (.cells #[.int .i64 m, .int .i64 0, .slice none 0 0] 28)).alloc (.cells #[.int .i64 0, .int .i64 0, .slice none 0 0] 28)).alloc (.cells #[.int .i64 0, .int .i64 0, .slice none 0 0] 28)) := ⟨_, rfl⟩
 have hs0 : W0.heap.size = w.heap.size + 1 + 1 + 1 := by rw [hW0]; simp
 rw [← hW0] at A Z1 Z2 B
 have HW0 := Lib.hid hW0
 clear hW0
 have HS0 := Lib.hid hs0
 clear hs0
 go_enter Try.func75, Try.ntmps75
 go_upto_region 1 with fail
 rw [← HW0.out]
 obtain ⟨q1, q2, q3⟩ := A.out.all
 go_upto_region 2 with fail
 clear q1 q2 q3
 go_cut [5] from 15 to 25 (fun x5 wx => x5 = .pointer (some ⟨W0.heap.size, 0, none⟩) ∧ At3 wx W0.heap.size (.int .i64 m) (.int .i64 0) (.slice none 0 0) ∧ Below W0.heap.size W0 wx)
 case first =>
  have KB : Hid (Below W0.heap.size W0 W0.drew) := Lib.hid (Below.refl W0.heap.size W0).drew
  have SH : Hid (∀ X, Below W0.heap.size W0 X → X.cell? ⟨w.heap.size, 0, none⟩ = some (.int .i64 m) ∧ X.cell? ⟨w.heap.size, 1, none⟩ = some (.int .i64 0) ∧ X.cell? ⟨w.heap.size, 2, none⟩ = some (.slice none 0 0)) := Lib.hid fun X h => (A.out.below h).all
  refine wp_region_held_drew (S := (fun w' => w'.cell? ⟨w.heap.size, 0, none⟩ = some (.int .i64 m) ∧ w'.cell? ⟨w.heap.size, 1, none⟩ = some (.int .i64 0) ∧ w'.cell? ⟨w.heap.size, 2, none⟩ = some (.slice none 0 0))) (by kernel_rfl) ?_ (fun hHeld => ?_)
  ·with_reducible exact SH.out _ KB.out
  refine wpAnyH_take (i := 0) (oi := { dst := some 15, op := Op.fieldAddr 28 (Operand.tmp 1) 0, type := 0, pos := "l03_normal.go:123", after := #[], guard := none }) (v := ?_) rfl (by kernel_rfl) (by kernel_rfl) (by kernel_rfl) (fun _ _ _ h => h) (Or.inl ⟨by rfl, ?_⟩) (by assumption) ?_
  rotate_left
  ·intro w hSw
   (try dsimp only at hSw)
   go_simp
   try with_reducible rfl
  try simp only [Act.put, List.setIfInBounds_toArray, List.set_cons_zero, List.set_cons_succ]
  refine wpAnyH_take (i := 1) (oi := { dst := some 16, op := Op.load 2 (Operand.tmp 15), type := 2, pos := "l03_normal.go:123", after := #[{ on := 0, ground := Ground.data }], guard := none }) (v := ?_) rfl (by kernel_rfl) (by kernel_rfl) (by kernel_rfl) (fun _ _ _ h => h) (Or.inl ⟨by rfl, ?_⟩) (by assumption) ?_
  rotate_left
  ·intro w hSw
   (try dsimp only at hSw)
   go_simp
   try with_reducible rfl
  try simp only [Act.put, List.setIfInBounds_toArray, List.set_cons_zero, List.set_cons_succ]
  refine wpAnyH_take (i := 2) (oi := { dst := some 17, op := Op.fieldAddr 28 (Operand.tmp 1) 1, type := 0, pos := "l03_normal.go:123", after := #[], guard := none }) (v := ?_) rfl (by kernel_rfl) (by kernel_rfl) (by kernel_rfl) (fun _ _ _ h => h) (Or.inl ⟨by rfl, ?_⟩) (by assumption) ?_
  rotate_left
  ·intro w hSw
   (try dsimp only at hSw)
   go_simp
   try with_reducible rfl
  try simp only [Act.put, List.setIfInBounds_toArray, List.set_cons_zero, List.set_cons_succ]
  refine wpAnyH_take (i := 3) (oi := { dst := some 18, op := Op.load 2 (Operand.tmp 17), type := 2, pos := "l03_normal.go:123", after := #[{ on := 2, ground := Ground.data }], guard := none }) (v := ?_) rfl (by kernel_rfl) (by kernel_rfl) (by kernel_rfl) (fun _ _ _ h => h) (Or.inl ⟨by rfl, ?_⟩) (by assumption) ?_
  rotate_left
  ·intro w hSw
   (try dsimp only at hSw)
   go_simp
   try with_reducible rfl
  try simp only [Act.put, List.setIfInBounds_toArray, List.set_cons_zero, List.set_cons_succ]
  refine wpAnyH_take (i := 4) (oi := { dst := some 19, op := Op.call { callee := Callee.builtin Builtin.min, args := #[Operand.tmp 18, Operand.const (Value.int IntKind.i64 0)], argTypes := #[2, 2] }, type := 2, pos := "l03_normal.go:123", after := #[{ on := 3, ground := Ground.data }], guard := none }) (v := ?_) rfl (by kernel_rfl) (by kernel_rfl) (by kernel_rfl) (fun _ _ _ h => h) (Or.inl ⟨by rfl, ?_⟩) (by assumption) ?_
  rotate_left
  ·intro w hSw
   (try dsimp only at hSw)
   go_simp
   try with_reducible rfl
  try simp only [Act.put, List.setIfInBounds_toArray, List.set_cons_zero, List.set_cons_succ]
  refine wpAnyH_take (i := 5) (oi := { dst := some 20, op := Op.fieldAddr 28 (Operand.tmp 1) 2, type := 0, pos := "l03_normal.go:123", after := #[], guard := none }) (v := ?_) rfl (by kernel_rfl) (by kernel_rfl) (by kernel_rfl) (fun _ _ _ h => h) (Or.inl ⟨by rfl, ?_⟩) (by assumption) ?_
  rotate_left
  ·intro w hSw
   (try dsimp only at hSw)
   go_simp
   try with_reducible rfl
  try simp only [Act.put, List.setIfInBounds_toArray, List.set_cons_zero, List.set_cons_succ]
  refine wpAnyH_take (i := 6) (oi := { dst := some 21, op := Op.load 26 (Operand.tmp 20), type := 26, pos := "l03_normal.go:123", after := #[{ on := 5, ground := Ground.data }], guard := none }) (v := ?_) rfl (by kernel_rfl) (by kernel_rfl) (by kernel_rfl) (fun _ _ _ h => h) (Or.inl ⟨by rfl, ?_⟩) (by assumption) ?_
  rotate_left
  ·intro w hSw
   (try dsimp only at hSw)
   go_simp
   try with_reducible rfl
  try simp only [Act.put, List.setIfInBounds_toArray, List.set_cons_zero, List.set_cons_succ]
  refine wpAnyH_take (i := 7) (oi := { dst := some 22, op := Op.move (Operand.tmp 4), type := 3, pos := "l03_normal.go:123", after := #[], guard := none }) (v := ?_) rfl (by kernel_rfl) (by kernel_rfl) (by kernel_rfl) (fun _ _ _ h => h) (Or.inl ⟨by rfl, ?_⟩) (by assumption) ?_
  rotate_left
  ·intro w hSw
   (try dsimp only at hSw)
   go_simp
   try with_reducible rfl
  try simp only [Act.put, List.setIfInBounds_toArray, List.set_cons_zero, List.set_cons_succ]
  refine wpAnyH_take (i := 8) (oi := { dst := some 23, op := Op.move (Operand.tmp 4), type := 3, pos := "l03_normal.go:123", after := #[], guard := none }) (v := ?_) rfl (by kernel_rfl) (by kernel_rfl) (by kernel_rfl) (fun _ _ _ h => h) (Or.inl ⟨by rfl, ?_⟩) (by assumption) ?_
  rotate_left
  ·intro w hSw
   (try dsimp only at hSw)
   go_simp
   try with_reducible rfl
  try simp only [Act.put, List.setIfInBounds_toArray, List.set_cons_zero, List.set_cons_succ]
  refine wpAnyH_take (i := 9) (oi := { dst := some 24, op := Op.slice 26 (Operand.tmp 21) none (some (Operand.tmp 22)) (some (Operand.tmp 23)), type := 26, pos := "l03_normal.go:123", after := #[{ on := 6, ground := Ground.data }, { on := 7, ground := Ground.data }, { on := 8, ground := Ground.data }], guard := none }) (v := ?_) rfl (by kernel_rfl) (by kernel_rfl) (by kernel_rfl) (fun _ _ _ h => h) (Or.inl ⟨by rfl, ?_⟩) (by assumption) ?_
  rotate_left
  ·intro w hSw
   (try dsimp only at hSw)
   go_simp
   try with_reducible rfl
  try simp only [Act.put, List.setIfInBounds_toArray, List.set_cons_zero, List.set_cons_succ]
  refine wpAnyH_take (i := 10) (oi := { dst := some 25, op := Op.build 28 #[(0, Operand.tmp 16), (1, Operand.tmp 19), (2, Operand.tmp 24)], type := 28, pos := "l03_normal.go:123", after := #[{ on := 1, ground := Ground.data }, { on := 4, ground := Ground.data }, { on := 9, ground := Ground.data }], guard := none }) (v := ?_) rfl (by kernel_rfl) (by kernel_rfl) (by kernel_rfl) (fun _ _ _ h => h) (Or.inl ⟨by rfl, ?_⟩) (by assumption) ?_
  rotate_left
  ·intro w hSw
   (try dsimp only at hSw)
   go_simp
   try with_reducible rfl
  try simp only [Act.put, List.setIfInBounds_toArray, List.set_cons_zero, List.set_cons_succ]
  refine wpAnyH_ready (rs := [11]) (by kernel_rfl) (by simp) ?_
  refine AllReadyH.cons (o := { dst := some 5, op := Op.alloc 28, type := 0, pos := "l03_normal.go:123", after := #[], guard := none }) rfl (fun K hK => ?_) ?_
  ·go_simp
   have ZZ : Hid (At3 (W0.alloc (.cells #[.int .i64 0, .int .i64 0, .slice none 0 0] 28)).drew (W0.heap.size) (.int .i64 0) (.int .i64 0) (.slice none 0 0)) := Lib.hid ((At3.place W0 (.int .i64 0) (.int .i64 0) (.slice none 0 0) 28 (W0.heap.size) (by simp)).drew)
   replace KB : Hid (Below W0.heap.size W0 (W0.alloc (.cells #[.int .i64 0, .int .i64 0, .slice none 0 0] 28)).drew) := Lib.hid (KB.out.alloc KB.out.size (.cells #[.int .i64 0, .int .i64 0, .slice none 0 0] 28))
   refine hK.out _ _ ?_ (fun hHeld => ?_)
   ·with_reducible exact SH.out _ KB.out
   clear hK K
   try simp only [Act.put, List.setIfInBounds_toArray, List.set_cons_zero, List.set_cons_succ]
   refine wpAnyH_ready (rs := [12]) (by kernel_rfl) (by simp) ?_
   refine AllReadyH.cons (o := { dst := none, op := Op.store 28 (Operand.tmp 5) (Operand.tmp 25), type := 0, pos := "l03_normal.go:123", after := #[{ on := 11, ground := Ground.data }, { on := 10, ground := Ground.data }, { on := 0, ground := Ground.phase }, { on := 1, ground := Ground.phase }, { on := 2, ground := Ground.phase }, { on := 3, ground := Ground.phase }, { on := 4, ground := Ground.phase }, { on := 5, ground := Ground.phase }, { on := 6, ground := Ground.phase }, { on := 7, ground := Ground.phase }, { on := 8, ground := Ground.phase }, { on := 9, ground := Ground.phase }, { on := 10, ground := Ground.phase }, { on := 11, ground := Ground.phase }], guard := none }) rfl (fun K hK => ?_) ?_
   ·obtain ⟨z0, ⟨z1, z2, z3⟩, z4, z5, z6⟩ := ZZ.out
    go_simp
    clear z0 z1 z2 z3 z4 z5 z6 KB
    have KB : Hid (Below W0.heap.size W0 (W0.alloc (.cells #[.int .i64 m, .int .i64 0, .slice none 0 0] 28)).drew) := Lib.hid ((below1 W0 _).drew)
    refine hK.out _ _ ?_ (fun hHeld => ?_)
    ·with_reducible exact SH.out _ KB.out
    clear hK K
    try simp only [Act.put, List.setIfInBounds_toArray, List.set_cons_zero, List.set_cons_succ]
    refine wpAnyH_done (by kernel_rfl) ?_ _
    go_wp2_with fail
    go_meet
    exact ⟨rfl, (At3.place W0 _ _ _ 28 W0.heap.size rfl).drew, (below1 W0 _).drew⟩
   exact AllReadyH.nil
  exact AllReadyH.nil
 case rest =>
  obtain ⟨v1, hwc⟩ : ∃ x, x = wc := ⟨_, rfl⟩; subst hwc
  obtain ⟨rfl, hS, hb⟩ := hcut
  have S := Lib.hid hS
  have hv1 := S.out.1
  replace A := Lib.hid (A.out.below hb)
  replace Z1 := Lib.hid (Z1.out.below hb)
  replace Z2 := Lib.hid (Z2.out.below hb)
  replace B := Lib.hid (below_go B.out hb B.out.size)
  clear hS hb
  have HV1 := Lib.hid hv1
  clear hv1
  obtain ⟨q1, q2, q3⟩ := A.out.all
  go_wp2_with fail
  refine (clone_any none 0 0 (l.drop 0) _ (ReadsA.empty rfl (by rw [List.length_drop, HL.out])) (by omega)).mono ?_
  rintro e v2 ⟨b2, d2, rfl, ho, hb⟩
  have QB : Hid (OwnSIn v1.heap.size v2.heap.size v2 b2 0 (l.drop 0)) := Lib.hid (by have := ho.within; simpa using this)
  replace A := Lib.hid (A.out.below hb)
  replace S := Lib.hid (S.out.below hb)
  replace Z1 := Lib.hid (Z1.out.below hb)
  replace Z2 := Lib.hid (Z2.out.below hb)
  have HV2 := Lib.hid hb.size
  replace B := Lib.hid (below_go B.out hb B.out.size)
  clear ho hb q1 q2 q3
  obtain ⟨q1, q2, q3⟩ := A.out.all
  go_upto_region 4 with fail
  clear q1 q2 q3
  have KB : Hid (Below v2.heap.size v2 v2.drew) := Lib.hid (Below.refl v2.heap.size v2).drew
  have SH : Hid (∀ X, Below v2.heap.size v2 X → (X.cell? ⟨w.heap.size, 0, none⟩ = some (.int .i64 m) ∧ X.cell? ⟨w.heap.size, 1, none⟩ = some (.int .i64 0) ∧ X.cell? ⟨w.heap.size, 2, none⟩ = some (.slice none 0 0)) ∧ (X.cell? ⟨W0.heap.size, 0, none⟩ = some (.int .i64 m) ∧ X.cell? ⟨W0.heap.size, 1, none⟩ = some (.int .i64 0) ∧ X.cell? ⟨W0.heap.size, 2, none⟩ = some (.slice none 0 0))) := Lib.hid fun X h => ⟨(A.out.below h).cells, (S.out.below h).cells⟩
  obtain ⟨ip, hip⟩ : ∃ ip, ip = -((0 : Nat) : Int) - 0 := ⟨_, rfl⟩
  have EV : Hid ((negK 0 : Int) - (endF 0 l : Nat) = ip) := Lib.hid (by rw [HK.out, HC.out, hip]; omega)
  refine wp_region_held_drew (S := (fun w' => (w'.cell? ⟨w.heap.size, 0, none⟩ = some (.int .i64 m) ∧ w'.cell? ⟨w.heap.size, 1, none⟩ = some (.int .i64 0) ∧ w'.cell? ⟨w.heap.size, 2, none⟩ = some (.slice none 0 0)) ∧ (w'.cell? ⟨W0.heap.size, 0, none⟩ = some (.int .i64 m) ∧ w'.cell? ⟨W0.heap.size, 1, none⟩ = some (.int .i64 0) ∧ w'.cell? ⟨W0.heap.size, 2, none⟩ = some (.slice none 0 0)))) (by kernel_rfl) ?_ (fun hHeld => ?_)
  ·first | with_reducible exact SH.out _ KB.out | with_reducible exact ⟨A.out.cells, S.out.cells⟩
  refine wpAnyH_take (i := 0) (oi := { dst := some 31, op := Op.load 28 (Operand.tmp 5), type := 28, pos := "l03_normal.go:125", after := #[], guard := none }) (v := ?_) rfl (by kernel_rfl) (by kernel_rfl) (by kernel_rfl) (fun _ _ _ h => h) (Or.inl ⟨by rfl, ?_⟩) (by assumption) ?_
  rotate_left
  ·intro w hSw
   (try dsimp only at hSw)
   go_simp
   try with_reducible rfl
  try simp only [Act.put, List.setIfInBounds_toArray, List.set_cons_zero, List.set_cons_succ]
  refine wpAnyH_take (i := 2) (oi := { dst := some 33, op := Op.fieldAddr 28 (Operand.tmp 1) 0, type := 0, pos := "l03_normal.go:125", after := #[{ on := 9, ground := Ground.gcOnly Departure.lateStores }], guard := none }) (v := ?_) rfl (by kernel_rfl) (by kernel_rfl) (by kernel_rfl) (fun _ _ _ h => h) (Or.inl ⟨by rfl, ?_⟩) (by assumption) ?_
  rotate_left
  ·intro w hSw
   (try dsimp only at hSw)
   go_simp
   try with_reducible rfl
  try simp only [Act.put, List.setIfInBounds_toArray, List.set_cons_zero, List.set_cons_succ]
  refine wpAnyH_take (i := 3) (oi := { dst := some 34, op := Op.load 2 (Operand.tmp 33), type := 2, pos := "l03_normal.go:125", after := #[{ on := 2, ground := Ground.data }, { on := 9, ground := Ground.gcOnly Departure.lateStores }], guard := none }) (v := ?_) rfl (by kernel_rfl) (by kernel_rfl) (by kernel_rfl) (fun _ _ _ h => h) (Or.inl ⟨by rfl, ?_⟩) (by assumption) ?_
  rotate_left
  ·intro w hSw
   (try dsimp only at hSw)
   go_simp
   try with_reducible rfl
  try simp only [Act.put, List.setIfInBounds_toArray, List.set_cons_zero, List.set_cons_succ]
  refine wpAnyH_take (i := 4) (oi := { dst := some 35, op := Op.fieldAddr 28 (Operand.tmp 1) 1, type := 0, pos := "l03_normal.go:125", after := #[], guard := none }) (v := ?_) rfl (by kernel_rfl) (by kernel_rfl) (by kernel_rfl) (fun _ _ _ h => h) (Or.inl ⟨by rfl, ?_⟩) (by assumption) ?_
  rotate_left
  ·intro w hSw
   (try dsimp only at hSw)
   go_simp
   try with_reducible rfl
  try simp only [Act.put, List.setIfInBounds_toArray, List.set_cons_zero, List.set_cons_succ]
  refine wpAnyH_take (i := 5) (oi := { dst := some 36, op := Op.load 2 (Operand.tmp 35), type := 2, pos := "l03_normal.go:125", after := #[{ on := 4, ground := Ground.data }], guard := none }) (v := ?_) rfl (by kernel_rfl) (by kernel_rfl) (by kernel_rfl) (fun _ _ _ h => h) (Or.inl ⟨by rfl, ?_⟩) (by assumption) ?_
  rotate_left
  ·intro w hSw
   (try dsimp only at hSw)
   go_simp
   try with_reducible rfl
  try simp only [Act.put, List.setIfInBounds_toArray, List.set_cons_zero, List.set_cons_succ]
  refine wpAnyH_take (i := 6) (oi := { dst := some 37, op := Op.call { callee := Callee.builtin Builtin.max, args := #[Operand.tmp 36, Operand.const (Value.int IntKind.i64 0)], argTypes := #[2, 2] }, type := 2, pos := "l03_normal.go:125", after := #[{ on := 5, ground := Ground.data }], guard := none }) (v := ?_) rfl (by kernel_rfl) (by kernel_rfl) (by kernel_rfl) (fun _ _ _ h => h) (Or.inl ⟨by rfl, ?_⟩) (by assumption) ?_
  rotate_left
  ·intro w hSw
   (try dsimp only at hSw)
   go_simp
   try with_reducible rfl
  try simp only [Act.put, List.setIfInBounds_toArray, List.set_cons_zero, List.set_cons_succ]
  refine wpAnyH_take (i := 7) (oi := { dst := some 38, op := Op.move (Operand.tmp 6), type := 26, pos := "l03_normal.go:125", after := #[{ on := 9, ground := Ground.gcOnly Departure.lateStores }], guard := none }) (v := ?_) rfl (by kernel_rfl) (by kernel_rfl) (by kernel_rfl) (fun _ _ _ h => h) (Or.inl ⟨by rfl, ?_⟩) (by assumption) ?_
  rotate_left
  ·intro w hSw
   (try dsimp only at hSw)
   go_simp
   try with_reducible rfl
  try simp only [Act.put, List.setIfInBounds_toArray, List.set_cons_zero, List.set_cons_succ]
  refine wpAnyH_take (i := 8) (oi := { dst := some 39, op := Op.build 28 #[(0, Operand.tmp 34), (1, Operand.tmp 37), (2, Operand.tmp 38)], type := 28, pos := "l03_normal.go:125", after := #[{ on := 3, ground := Ground.data }, { on := 6, ground := Ground.data }, { on := 7, ground := Ground.data }, { on := 9, ground := Ground.gcOnly Departure.lateStores }], guard := none }) (v := ?_) rfl (by kernel_rfl) (by kernel_rfl) (by kernel_rfl) (fun _ _ _ h => h) (Or.inl ⟨by rfl, ?_⟩) (by assumption) ?_
  rotate_left
  ·intro w hSw
   (try dsimp only at hSw)
   go_simp
   try with_reducible rfl
  try simp only [Act.put, List.setIfInBounds_toArray, List.set_cons_zero, List.set_cons_succ]
  refine wpAnyH_ready (rs := [1]) (by kernel_rfl) (by simp) ?_
  refine AllReadyH.cons (o := { dst := some 32, op := Op.call { callee := Callee.value (Operand.func 73), args := #[Operand.tmp 31], argTypes := #[28] }, type := 28, pos := "l03_normal.go:125", after := #[{ on := 0, ground := Ground.data }], guard := none }) rfl (fun K hK => ?_) ?_
  ·go_simp
   have hinv := fun W (hW : Below v2.heap.size v2 W) => inverse_any m 0 (by omega) none 0 0 (l.take 0) W (((ReadsA.empty (w := w) (a := none) rfl (by rw [List.length_take]; omega) : ReadsA w none 0 (l.take 0))).below (B.out.trans (hW.mono B.out.size))) (fun x hx => HS.out x (List.mem_of_mem_take hx)) (by omega)
   rw [← hip] at hinv
   clear hip
   refine (hinv _ KB.out).mono ?_
   rintro e v3 ⟨b1, n1, c1, rfl, ho, gg⟩
   have QA : Hid (OwnS v2.heap.size v3 b1 n1 (turns m 0 (invL m (l.take 0)))) := Lib.hid (ho.toS.mono KB.out.size)
   replace KB := Lib.hid (below_go KB.out gg KB.out.size)
   have QB2 : Hid (OwnSIn v1.heap.size v2.heap.size v3 b2 0 (l.drop 0)) := Lib.hid ⟨QB.out.1.below KB.out, QB.out.2⟩
   replace A := Lib.hid (A.out.below KB.out)
   replace S := Lib.hid (S.out.below KB.out)
   replace Z1 := Lib.hid (Z1.out.below KB.out)
   replace Z2 := Lib.hid (Z2.out.below KB.out)
   replace B := Lib.hid (B.out.trans (KB.out.mono B.out.size))
   clear ho gg hinv
   go_wp2_with fail
   refine hK.out _ _ ?_ (fun hHeld => ?_)
   ·first | with_reducible exact SH.out _ KB.out | with_reducible exact ⟨A.out.cells, S.out.cells⟩
   clear hK K
   try simp only [Act.put, List.setIfInBounds_toArray, List.set_cons_zero, List.set_cons_succ]
   refine wpAnyH_ready (rs := [9]) (by kernel_rfl) (by simp) ?_
   refine AllReadyH.cons (o := { dst := none, op := Op.store 28 (Operand.tmp 2) (Operand.tmp 32), type := 0, pos := "l03_normal.go:125", after := #[{ on := 1, ground := Ground.data }, { on := 1, ground := Ground.chain }, { on := 0, ground := Ground.phase }, { on := 1, ground := Ground.phase }, { on := 2, ground := Ground.textOnly Departure.lateStores }, { on := 3, ground := Ground.textOnly Departure.lateStores }, { on := 4, ground := Ground.textOnly Departure.lateStores }, { on := 5, ground := Ground.textOnly Departure.lateStores }, { on := 6, ground := Ground.textOnly Departure.lateStoresUnsure }, { on := 7, ground := Ground.textOnly Departure.lateStores }, { on := 8, ground := Ground.textOnly Departure.lateStores }], guard := none }) rfl (fun K hK => ?_) ?_
   ·obtain ⟨z0, ⟨z1, z2, z3⟩, z4, z5, z6⟩ := Z1.out
    go_simp
    clear z0 z1 z2 z3 z4 z5 z6
    have hs0 := HS0.out
    have hv1 := HV1.out
    have hv2 := HV2.out
    have hk3 := KB.out.size
    replace A := Lib.hid (A.out.set3 (g2 := w.heap.size + 1) (by omega) (.int .i64 m) (.int .i64 ip) (.slice b1 n1 c1))
    replace S := Lib.hid (S.out.set3 (g2 := w.heap.size + 1) (by omega) (.int .i64 m) (.int .i64 ip) (.slice b1 n1 c1))
    replace Z1 := Lib.hid (Z1.out.fill (.int .i64 m) (.int .i64 ip) (.slice b1 n1 c1))
    replace Z2 := Lib.hid (Z2.out.set3 (g2 := w.heap.size + 1) (by omega) (.int .i64 m) (.int .i64 ip) (.slice b1 n1 c1))
    replace QA := Lib.hid (QA.out.set3 (g2 := w.heap.size + 1) (by omega) (.int .i64 m) (.int .i64 ip) (.slice b1 n1 c1))
    replace QB2 : Hid (OwnSIn v1.heap.size v2.heap.size _ b2 0 (l.drop 0)) := Lib.hid ⟨QB2.out.1.set3 (g2 := w.heap.size + 1) (by omega) (.int .i64 m) (.int .i64 ip) (.slice b1 n1 c1), QB2.out.2⟩
    replace B := Lib.hid (below_set3 (g2 := w.heap.size + 1) B.out (by omega) (.int .i64 m) (.int .i64 ip) (.slice b1 n1 c1))
    clear hs0 hv1 hv2 hk3
    obtain ⟨U8, hU8⟩ : ∃ U, U = (((v3.setCell ⟨w.heap.size + 1, 0, none⟩ (.int .i64 m)).setCell ⟨w.heap.size + 1, 1, none⟩ (.int .i64 ip)).setCell ⟨w.heap.size + 1, 2, none⟩ (.slice b1 n1 c1)) := ⟨_, rfl⟩
    rw [← hU8] at A S Z1 Z2 QA QB2 B ⊢
    clear hU8
    refine hK.out _ _ ?_ (fun hHeld => ?_)
    ·first | with_reducible exact SH.out _ KB.out | with_reducible exact ⟨A.out.cells, S.out.cells⟩
    clear hK K
    try simp only [Act.put, List.setIfInBounds_toArray, List.set_cons_zero, List.set_cons_succ]
    refine wpAnyH_ready (rs := [10]) (by kernel_rfl) (by simp) ?_
    refine AllReadyH.cons (o := { dst := none, op := Op.store 28 (Operand.tmp 3) (Operand.tmp 39), type := 0, pos := "l03_normal.go:125", after := #[{ on := 8, ground := Ground.data }, { on := 9, ground := Ground.chain }, { on := 0, ground := Ground.phase }, { on := 1, ground := Ground.phase }, { on := 2, ground := Ground.phase }, { on := 3, ground := Ground.phase }, { on := 4, ground := Ground.phase }, { on := 5, ground := Ground.phase }, { on := 6, ground := Ground.phase }, { on := 7, ground := Ground.phase }, { on := 8, ground := Ground.phase }, { on := 9, ground := Ground.phase }], guard := none }) rfl (fun K hK => ?_) ?_
    ·obtain ⟨z0, ⟨z1, z2, z3⟩, z4, z5, z6⟩ := Z2.out
     go_simp
     clear z0 z1 z2 z3 z4 z5 z6
     have hs0 := HS0.out
     have hv1 := HV1.out
     have hv2 := HV2.out
     have hk3 := KB.out.size
     replace A := Lib.hid (A.out.set3 (g2 := w.heap.size + 1 + 1) (by omega) (.int .i64 m) (.int .i64 0) (.slice b2 0 d2))
     replace S := Lib.hid (S.out.set3 (g2 := w.heap.size + 1 + 1) (by omega) (.int .i64 m) (.int .i64 0) (.slice b2 0 d2))
     replace Z1 := Lib.hid (Z1.out.set3 (g2 := w.heap.size + 1 + 1) (by omega) (.int .i64 m) (.int .i64 0) (.slice b2 0 d2))
     replace Z2 := Lib.hid (Z2.out.fill (.int .i64 m) (.int .i64 0) (.slice b2 0 d2))
     replace QA := Lib.hid (QA.out.set3 (g2 := w.heap.size + 1 + 1) (by omega) (.int .i64 m) (.int .i64 0) (.slice b2 0 d2))
     replace QB2 : Hid (OwnSIn v1.heap.size v2.heap.size _ b2 0 (l.drop 0)) := Lib.hid ⟨QB2.out.1.set3 (g2 := w.heap.size + 1 + 1) (by omega) (.int .i64 m) (.int .i64 0) (.slice b2 0 d2), QB2.out.2⟩
     replace B := Lib.hid (below_set3 (g2 := w.heap.size + 1 + 1) B.out (by omega) (.int .i64 m) (.int .i64 0) (.slice b2 0 d2))
     clear hs0 hv1 hv2 hk3
     obtain ⟨U9, hU9⟩ : ∃ U, U = (((U8.setCell ⟨w.heap.size + 1 + 1, 0, none⟩ (.int .i64 m)).setCell ⟨w.heap.size + 1 + 1, 1, none⟩ (.int .i64 0)).setCell ⟨w.heap.size + 1 + 1, 2, none⟩ (.slice b2 0 d2)) := ⟨_, rfl⟩
     rw [← hU9] at A S Z1 Z2 QA QB2 B ⊢
     clear hU9
     refine hK.out _ _ ?_ (fun hHeld => ?_)
     ·first | with_reducible exact SH.out _ KB.out | with_reducible exact ⟨A.out.cells, S.out.cells⟩
     clear hK K
     try simp only [Act.put, List.setIfInBounds_toArray, List.set_cons_zero, List.set_cons_succ]
     refine wpAnyH_done (by kernel_rfl) ?_ _
     go_wp2
     try rw [Exit.noGoto_ret]
     obtain ⟨e1, e2, e3⟩ := Z1.out.cells
     obtain ⟨f1, f2, f3⟩ := Z2.out.cells
     have hs0 := HS0.out
     have hv1 := HV1.out
     have hv2 := HV2.out
     exact bodyPost_ret (v := .tuple #[.agg #[(.int .i64 m), (.int .i64 ip), (.slice b1 n1 c1)], .agg #[(.int .i64 m), (.int .i64 0), (.slice b2 0 d2)]]) (by simp [results, Try.results75, go_sem, e1, e2, e3, f1, f2, f3]) rfl ⟨b1, n1, c1, b2, 0, d2, v2.heap.size, by first | rw [EV.out, HX.out] | (rw [EV.out]; simp), by omega, by rw [HC.out]; unfold fracA; rw [HK.out, Int.neg_neg]; exact QA.out, by rw [HC.out]; exact ⟨QB2.out.1.mono (by omega), QB2.out.2⟩, B.out⟩
    exact AllReadyH.nil
   exact AllReadyH.nil
  exact AllReadyH.nil

theorem fraction_any (m : Nat) (p : Int) (hp : -200 ≤ p ∧ p ≤ 200) (a : Option Addr) (n cap : Nat) (hform : (a = none ∧ n = 0 ∧ cap = 0) ∨ ∃ ba off, a = some ⟨ba, off, none⟩) (hcap : n ≤ cap) (hn : n ≤ 200) (l : List (List Int)) (w : World) (hr : ReadsA w a n l) (hl : Sims m l) :
  Calls Try.prog 75 #[.agg #[.int .i64 m, .int .i64 p, .slice a n cap]] w (RetFr w m p l) := by
 rcases hform with ⟨rfl, rfl, rfl⟩ | ⟨ba, off, rfl⟩
 ·rcases Int.lt_trichotomy p 0 with h | h | h
  ·obtain ⟨c, rfl⟩ : ∃ c : Nat, p = -(c : Int) := ⟨(-p).toNat, by omega⟩
   exact fraction_NN m c (by omega) (by omega) l w hr hl
  ·subst h
   exact fraction_NZ m l w hr hl
  ·obtain ⟨c, rfl⟩ : ∃ c : Nat, p = (c : Int) := ⟨p.toNat, by omega⟩
   exact fraction_NP m c (by omega) (by omega) l w hr hl
 ·rcases Int.lt_trichotomy p 0 with h | h | h
  ·obtain ⟨c, rfl⟩ : ∃ c : Nat, p = -(c : Int) := ⟨(-p).toNat, by omega⟩
   by_cases h1 : c < n
   ·exact fraction_C m c (by omega) ba off n cap hcap hn (by omega) h1 l w hr hl
   ·by_cases h2 : n = cap
    ·subst h2
     exact fraction_B1 m c (by omega) ba off n (by omega) (by omega) l w hr hl
    ·exact fraction_B2 m c (by omega) ba off n cap (by omega) (by omega) (by omega) l w hr hl
  ·subst h
   rcases Nat.eq_zero_or_pos n with h0 | h0
   ·subst h0
    exact fraction_Z0 m ba off cap l w hr hl
   ·exact fraction_Z m ba off n cap hcap hn h0 l w hr hl
  ·obtain ⟨c, rfl⟩ : ∃ c : Nat, p = (c : Int) := ⟨p.toNat, by omega⟩
   rcases Nat.eq_zero_or_pos n with h0 | h0
   ·subst h0
    exact fraction_P0 m c (by omega) ba off cap (by omega) l w hr hl
   ·exact fraction_P m c (by omega) ba off n cap hcap hn (by omega) h0 l w hr hl

end Go.Proofs.Ythpmehhfhngnbaa

