/- The model: weighing and making a normal form of a list without simple braids, and so of any list. -/
import Derived.Test.YtpkhddndapcpjaaSuSMak
namespace Go.Proofs.Ytpkhddndapcpjaa
open Go.RowKit Go.ChangeShapes

set_option maxRecDepth 100000 in
set_option maxHeartbeats 1000000 in
theorem l03Weigh_zero (m : Nat) (a : Option Addr) (cap : Nat) (w : World) :
  Calls Try.prog 41 #[.slice a 0 cap, .int .i64 m] w (RetRows w []) := by
 obtain ⟨i0, hi, hz0, hz1, hz2⟩ := info_parts infoSimple
 go_enter Try.func41, Try.ntmps41
 have B := Lib.hid (below1 w (.cells #[] 53))
 have O := Lib.hid (OwnAV.empty w)
 go_wp2_with (at_builtin; refine wpList_append_rows_at rfl _ _ 26 rfl w.heap.size i0 Try.underlying26 hi hz0 hz1 hz2 _ _ _ rfl O.out _ _ _ [] rfl ReadsA.zero (by omega) (by simp) ?_)
 intro v' w2 ho' hg hv
 have O2 := Lib.hid ho'
 have B2 := Lib.hid (below_ownA B.out (by simp) (Nat.le_refl _) O.out hg)
 clear ho' hg hv O B
 obtain ⟨a2, c2, rfl, ho⟩ := O2.out.form
 clear O2
 have O := Lib.hid ho
 clear ho
 go_wp2
 go_loopg [6] 1 (fun g mv wx => mv = .bool (decide (0 < g)) ∧ OwnA w.heap.size wx a2 0 c2 [] ∧ Below w.heap.size w wx)
 case atStart => exact ⟨by simp, O.out, B2.out⟩
 case round =>
  obtain ⟨rfl, ho, hB⟩ := hrel
  clear O B2
  have O := Lib.hid ho
  have B := Lib.hid hB
  clear ho hB
  by_cases h0 : 0 < gk
  ·rw [decide_eq_true h0]
   go_wp2
   go_loopg [6, 7] 0 (fun g mv i wx => i = .int .i64 (-2) ∧ mv = .bool false ∧ OwnA w.heap.size wx a2 0 c2 [] ∧ Below w.heap.size w wx)
   case atStart => exact ⟨by go_num, rfl, O.out, B.out⟩
   case round =>
    obtain ⟨rfl, rfl, ho, hB⟩ := hrel
    have hO := Lib.hid ho
    have hBB := Lib.hid hB
    clear ho hB
    go_wp2
    go_roundg 0
    case measure => omega
    case rel => exact ⟨rfl, hO.out, hBB.out⟩
  ·have hg0 : gk = 0 := by omega
   subst hg0
   go_wp2
   go_ret
   exact ⟨_, _, c2, rfl, O.out, B.out⟩

set_option maxRecDepth 100000 in
set_option maxHeartbeats 1000000 in
theorem l03Make_zero (m : Nat) (m1 : 1 ≤ m) (m8 : m ≤ 8) (p : Int) (a : Option Addr) (cap : Nat) (w : World) :
  Calls Try.prog 24 #[.int .i64 m, .int .i64 p, .slice a 0 cap] w (RetNormal w m p []) := by
 obtain ⟨i0, hi, hz0, hz1, hz2⟩ := info_parts infoSimple
 go_enter Try.func24, Try.ntmps24
 have Z := Lib.hid (At3.place w (.int .i64 0) (.int .i64 0) (.slice none 0 0) 28 w.heap.size rfl)
 have B := Lib.hid (below1 w (.cells #[.int .i64 0, .int .i64 0, .slice none 0 0] 28))
 go_wp2_with fail
 refine (l03Weigh_zero m a cap _).mono ?_
 rintro e w2 ⟨a2, n2, c2, rfl, ho, hb⟩
 have hn2 : n2 = 0 := by have := ho.len; simpa using this.symm
 subst hn2
 replace B := Lib.hid (below_go B.out hb (by simp))
 replace Z := Lib.hid (Z.out.below hb)
 clear ho hb
 have hlt : ¬ ((0 : Nat) : Int) < ((0 : Nat) : Int) := by omega
 rcases Nat.lt_or_ge 1 m with hm | hm
 ·have hm2 : (1 : Int) < (m : Int) := by omega
  go_wp2
  go_loopg [1, 7] 0 (fun g pv i wx => i = .int .i64 0 ∧ pv = .int .i64 p ∧ Below w.heap.size w wx ∧ At3 wx w.heap.size (.int .i64 0) (.int .i64 0) (.slice none 0 0))
  case atStart => exact ⟨rfl, rfl, B.out, Z.out⟩
  case round =>
   obtain ⟨rfl, rfl, hB, hZ⟩ := hrel
   clear B Z
   have B := Lib.hid hB
   have Z := Lib.hid hZ
   clear hB hZ
   go_upto_region 4 with fail
   replace B := Lib.hid B.out.drew
   replace Z := Lib.hid Z.out.drew
   refine wp_region_held_drew (S := (fun _ => True)) (by kernel_rfl) ?_ (fun hHeld => ?_)
   ·trivial
   refine wpAnyH_take (i := 0) (oi := { dst := some 16, op := Op.move (Operand.tmp 7), type := 3, pos := "l03_normal.go:56", after := #[], guard := none }) (v := ?_) rfl (by kernel_rfl) (by kernel_rfl) (by kernel_rfl) (fun _ _ _ h => h) (Or.inl ⟨by rfl, ?_⟩) (by assumption) ?_
   rotate_left
   ·intro w hSw
    (try dsimp only at hSw)
    go_simp
    try with_reducible rfl
   try simp only [Act.put, List.setIfInBounds_toArray, List.set_cons_zero, List.set_cons_succ]
   refine wpAnyH_take (i := 1) (oi := { dst := some 17, op := Op.move (Operand.tmp 8), type := 3, pos := "l03_normal.go:56", after := #[], guard := none }) (v := ?_) rfl (by kernel_rfl) (by kernel_rfl) (by kernel_rfl) (fun _ _ _ h => h) (Or.inl ⟨by rfl, ?_⟩) (by assumption) ?_
   rotate_left
   ·intro w hSw
    (try dsimp only at hSw)
    go_simp
    try with_reducible rfl
   try simp only [Act.put, List.setIfInBounds_toArray, List.set_cons_zero, List.set_cons_succ]
   refine wpAnyH_take (i := 2) (oi := { dst := some 18, op := Op.binOp BinOp.lss 3 (Operand.tmp 16) (Operand.tmp 17) 3, type := 4, pos := "l03_normal.go:56", after := #[{ on := 0, ground := Ground.data }, { on := 1, ground := Ground.data }], guard := none }) (v := ?_) rfl (by kernel_rfl) (by kernel_rfl) (by kernel_rfl) (fun _ _ _ h => h) (Or.inl ⟨by rfl, ?_⟩) (by assumption) ?_
   rotate_left
   ·intro w hSw
    (try dsimp only at hSw)
    go_simp
    try with_reducible rfl
   try simp only [Act.put, List.setIfInBounds_toArray, List.set_cons_zero, List.set_cons_succ]
   refine wpAnyH_take (i := 3) (oi := { dst := some 19, op := Op.move (Operand.tmp 18), type := 4, pos := "l03_normal.go:56", after := #[{ on := 2, ground := Ground.data }], guard := none }) (v := ?_) rfl (by kernel_rfl) (by kernel_rfl) (by kernel_rfl) (fun _ _ _ h => h) (Or.inl ⟨by rfl, ?_⟩) (by assumption) ?_
   rotate_left
   ·intro w hSw
    (try dsimp only at hSw)
    go_simp
    try with_reducible rfl
   try simp only [Act.put, List.setIfInBounds_toArray, List.set_cons_zero, List.set_cons_succ]
   refine wpAnyH_take (i := 4) (oi := { dst := some 20, op := Op.move (Operand.tmp 2), type := 26, pos := "l03_normal.go:56", after := #[{ on := 3, ground := Ground.guard }], guard := some (3, true) }) (v := undef) rfl (by kernel_rfl) (by kernel_rfl) (by kernel_rfl) (fun _ _ _ h => h) (Or.inr ⟨by rfl, rfl⟩) (by assumption) ?_
   try simp only [Act.put, List.setIfInBounds_toArray, List.set_cons_zero, List.set_cons_succ]
   refine wpAnyH_take (i := 5) (oi := { dst := some 21, op := Op.move (Operand.tmp 7), type := 3, pos := "l03_normal.go:56", after := #[{ on := 3, ground := Ground.guard }], guard := some (3, true) }) (v := undef) rfl (by kernel_rfl) (by kernel_rfl) (by kernel_rfl) (fun _ _ _ h => h) (Or.inr ⟨by rfl, rfl⟩) (by assumption) ?_
   try simp only [Act.put, List.setIfInBounds_toArray, List.set_cons_zero, List.set_cons_succ]
   refine wpAnyH_take (i := 6) (oi := { dst := some 22, op := Op.indexAddr 26 (Operand.tmp 20) (Operand.tmp 21), type := 0, pos := "l03_normal.go:56", after := #[{ on := 4, ground := Ground.data }, { on := 5, ground := Ground.data }, { on := 3, ground := Ground.guard }], guard := some (3, true) }) (v := undef) rfl (by kernel_rfl) (by kernel_rfl) (by kernel_rfl) (fun _ _ _ h => h) (Or.inr ⟨by rfl, rfl⟩) (by assumption) ?_
   try simp only [Act.put, List.setIfInBounds_toArray, List.set_cons_zero, List.set_cons_succ]
   refine wpAnyH_take (i := 7) (oi := { dst := some 23, op := Op.load 53 (Operand.tmp 22), type := 53, pos := "l03_normal.go:56", after := #[{ on := 6, ground := Ground.data }, { on := 3, ground := Ground.guard }], guard := some (3, true) }) (v := undef) rfl (by kernel_rfl) (by kernel_rfl) (by kernel_rfl) (fun _ _ _ h => h) (Or.inr ⟨by rfl, rfl⟩) (by assumption) ?_
   try simp only [Act.put, List.setIfInBounds_toArray, List.set_cons_zero, List.set_cons_succ]
   refine wpAnyH_take (i := 8) (oi := { dst := some 24, op := Op.move (Operand.tmp 0), type := 2, pos := "l03_normal.go:56", after := #[{ on := 3, ground := Ground.guard }], guard := some (3, true) }) (v := undef) rfl (by kernel_rfl) (by kernel_rfl) (by kernel_rfl) (fun _ _ _ h => h) (Or.inr ⟨by rfl, rfl⟩) (by assumption) ?_
   try simp only [Act.put, List.setIfInBounds_toArray, List.set_cons_zero, List.set_cons_succ]
   refine wpAnyH_ready (rs := [9]) (by kernel_rfl) (by simp) ?_
   refine AllReadyH.cons (o := { dst := some 25, op := Op.call { callee := Callee.value (Operand.func 37), args := #[Operand.tmp 24], argTypes := #[2] }, type := 53, pos := "l03_normal.go:56", after := #[{ on := 8, ground := Ground.data }, { on := 3, ground := Ground.chain }, { on := 3, ground := Ground.guard }], guard := some (3, true) }) rfl (fun K hK => ?_) AllReadyH.nil
   go_simp
   refine hK.out _ _ ?_ (fun hHeld => ?_)
   ·trivial
   clear hK K
   try simp only [Act.put, List.setIfInBounds_toArray, List.set_cons_zero, List.set_cons_succ]
   refine wpAnyH_take (i := 10) (oi := { dst := some 26, op := Op.binOp BinOp.eql 53 (Operand.tmp 23) (Operand.tmp 25) 53, type := 4, pos := "l03_normal.go:56", after := #[{ on := 7, ground := Ground.data }, { on := 9, ground := Ground.data }, { on := 3, ground := Ground.guard }], guard := some (3, true) }) (v := undef) rfl (by kernel_rfl) (by kernel_rfl) (by kernel_rfl) (fun _ _ _ h => h) (Or.inr ⟨by rfl, rfl⟩) (by assumption) ?_
   try simp only [Act.put, List.setIfInBounds_toArray, List.set_cons_zero, List.set_cons_succ]
   refine wpAnyH_take (i := 11) (oi := { dst := some 27, op := Op.pick (Operand.tmp 19) (Operand.tmp 26) (Operand.const (Value.bool false)), type := 4, pos := "l03_normal.go:56", after := #[{ on := 3, ground := Ground.data }, { on := 10, ground := Ground.data }], guard := none }) (v := ?_) rfl (by kernel_rfl) (by kernel_rfl) (by kernel_rfl) (fun _ _ _ h => h) (Or.inl ⟨by rfl, ?_⟩) (by assumption) ?_
   rotate_left
   ·intro w hSw
    (try dsimp only at hSw)
    go_simp
    try with_reducible rfl
   try simp only [Act.put, List.setIfInBounds_toArray, List.set_cons_zero, List.set_cons_succ]
   refine wpAnyH_done (by kernel_rfl) ?_ _
   go_wp2
   go_loopg [8] 0 (fun g v wx => v = .int .i64 0 ∧ Below w.heap.size w wx ∧ At3 wx w.heap.size (.int .i64 0) (.int .i64 0) (.slice none 0 0))
   case atStart => exact ⟨rfl, B.out, Z.out⟩
   case round =>
    obtain ⟨rfl, hB, hZ⟩ := hrel
    clear B Z
    have B := Lib.hid hB
    have Z := Lib.hid hZ
    clear hB hZ
    go_upto_region 7 with fail
    refine wp_region_held_drew (S := (fun _ => True)) (by kernel_rfl) ?_ (fun hHeld => ?_)
    ·trivial
    refine wpAnyH_take (i := 0) (oi := { dst := some 32, op := Op.move (Operand.tmp 8), type := 3, pos := "l03_normal.go:61", after := #[], guard := none }) (v := ?_) rfl (by kernel_rfl) (by kernel_rfl) (by kernel_rfl) (fun _ _ _ h => h) (Or.inl ⟨by rfl, ?_⟩) (by assumption) ?_
    rotate_left
    ·intro w hSw
     (try dsimp only at hSw)
     go_simp
     try with_reducible rfl
    try simp only [Act.put, List.setIfInBounds_toArray, List.set_cons_zero, List.set_cons_succ]
    refine wpAnyH_take (i := 1) (oi := { dst := some 33, op := Op.move (Operand.tmp 7), type := 3, pos := "l03_normal.go:61", after := #[], guard := none }) (v := ?_) rfl (by kernel_rfl) (by kernel_rfl) (by kernel_rfl) (fun _ _ _ h => h) (Or.inl ⟨by rfl, ?_⟩) (by assumption) ?_
    rotate_left
    ·intro w hSw
     (try dsimp only at hSw)
     go_simp
     try with_reducible rfl
    try simp only [Act.put, List.setIfInBounds_toArray, List.set_cons_zero, List.set_cons_succ]
    refine wpAnyH_take (i := 2) (oi := { dst := some 34, op := Op.binOp BinOp.gtr 3 (Operand.tmp 32) (Operand.tmp 33) 3, type := 4, pos := "l03_normal.go:61", after := #[{ on := 0, ground := Ground.data }, { on := 1, ground := Ground.data }], guard := none }) (v := ?_) rfl (by kernel_rfl) (by kernel_rfl) (by kernel_rfl) (fun _ _ _ h => h) (Or.inl ⟨by rfl, ?_⟩) (by assumption) ?_
    rotate_left
    ·intro w hSw
     (try dsimp only at hSw)
     go_simp
     try with_reducible rfl
    try simp only [Act.put, List.setIfInBounds_toArray, List.set_cons_zero, List.set_cons_succ]
    refine wpAnyH_take (i := 3) (oi := { dst := some 35, op := Op.move (Operand.tmp 34), type := 4, pos := "l03_normal.go:61", after := #[{ on := 2, ground := Ground.data }], guard := none }) (v := ?_) rfl (by kernel_rfl) (by kernel_rfl) (by kernel_rfl) (fun _ _ _ h => h) (Or.inl ⟨by rfl, ?_⟩) (by assumption) ?_
    rotate_left
    ·intro w hSw
     (try dsimp only at hSw)
     go_simp
     try with_reducible rfl
    try simp only [Act.put, List.setIfInBounds_toArray, List.set_cons_zero, List.set_cons_succ]
    refine wpAnyH_take (i := 4) (oi := { dst := some 36, op := Op.move (Operand.tmp 2), type := 26, pos := "l03_normal.go:61", after := #[{ on := 3, ground := Ground.guard }], guard := some (3, true) }) (v := undef) rfl (by kernel_rfl) (by kernel_rfl) (by kernel_rfl) (fun _ _ _ h => h) (Or.inr ⟨by rfl, rfl⟩) (by assumption) ?_
    try simp only [Act.put, List.setIfInBounds_toArray, List.set_cons_zero, List.set_cons_succ]
    refine wpAnyH_take (i := 5) (oi := { dst := some 37, op := Op.move (Operand.tmp 8), type := 3, pos := "l03_normal.go:61", after := #[{ on := 3, ground := Ground.guard }], guard := some (3, true) }) (v := undef) rfl (by kernel_rfl) (by kernel_rfl) (by kernel_rfl) (fun _ _ _ h => h) (Or.inr ⟨by rfl, rfl⟩) (by assumption) ?_
    try simp only [Act.put, List.setIfInBounds_toArray, List.set_cons_zero, List.set_cons_succ]
    refine wpAnyH_take (i := 6) (oi := { dst := some 38, op := Op.binOp BinOp.sub 3 (Operand.tmp 37) (Operand.const (Value.int IntKind.i64 1)) 3, type := 3, pos := "l03_normal.go:61", after := #[{ on := 5, ground := Ground.data }, { on := 3, ground := Ground.guard }], guard := some (3, true) }) (v := undef) rfl (by kernel_rfl) (by kernel_rfl) (by kernel_rfl) (fun _ _ _ h => h) (Or.inr ⟨by rfl, rfl⟩) (by assumption) ?_
    try simp only [Act.put, List.setIfInBounds_toArray, List.set_cons_zero, List.set_cons_succ]
    refine wpAnyH_take (i := 7) (oi := { dst := some 39, op := Op.indexAddr 26 (Operand.tmp 36) (Operand.tmp 38), type := 0, pos := "l03_normal.go:61", after := #[{ on := 4, ground := Ground.data }, { on := 6, ground := Ground.data }, { on := 3, ground := Ground.guard }], guard := some (3, true) }) (v := undef) rfl (by kernel_rfl) (by kernel_rfl) (by kernel_rfl) (fun _ _ _ h => h) (Or.inr ⟨by rfl, rfl⟩) (by assumption) ?_
    try simp only [Act.put, List.setIfInBounds_toArray, List.set_cons_zero, List.set_cons_succ]
    refine wpAnyH_take (i := 8) (oi := { dst := some 40, op := Op.load 53 (Operand.tmp 39), type := 53, pos := "l03_normal.go:61", after := #[{ on := 7, ground := Ground.data }, { on := 3, ground := Ground.guard }], guard := some (3, true) }) (v := undef) rfl (by kernel_rfl) (by kernel_rfl) (by kernel_rfl) (fun _ _ _ h => h) (Or.inr ⟨by rfl, rfl⟩) (by assumption) ?_
    try simp only [Act.put, List.setIfInBounds_toArray, List.set_cons_zero, List.set_cons_succ]
    refine wpAnyH_take (i := 9) (oi := { dst := some 41, op := Op.move (Operand.tmp 0), type := 2, pos := "l03_normal.go:61", after := #[{ on := 3, ground := Ground.guard }], guard := some (3, true) }) (v := undef) rfl (by kernel_rfl) (by kernel_rfl) (by kernel_rfl) (fun _ _ _ h => h) (Or.inr ⟨by rfl, rfl⟩) (by assumption) ?_
    try simp only [Act.put, List.setIfInBounds_toArray, List.set_cons_zero, List.set_cons_succ]
    refine wpAnyH_ready (rs := [10]) (by kernel_rfl) (by simp) ?_
    refine AllReadyH.cons (o := { dst := some 42, op := Op.call { callee := Callee.value (Operand.func 36), args := #[Operand.tmp 41], argTypes := #[2] }, type := 53, pos := "l03_normal.go:61", after := #[{ on := 9, ground := Ground.data }, { on := 3, ground := Ground.chain }, { on := 3, ground := Ground.guard }], guard := some (3, true) }) rfl (fun K hK => ?_) AllReadyH.nil
    go_simp
    refine hK.out _ _ ?_ (fun hHeld => ?_)
    ·trivial
    clear hK K
    try simp only [Act.put, List.setIfInBounds_toArray, List.set_cons_zero, List.set_cons_succ]
    refine wpAnyH_take (i := 11) (oi := { dst := some 43, op := Op.binOp BinOp.eql 53 (Operand.tmp 40) (Operand.tmp 42) 53, type := 4, pos := "l03_normal.go:61", after := #[{ on := 8, ground := Ground.data }, { on := 10, ground := Ground.data }, { on := 3, ground := Ground.guard }], guard := some (3, true) }) (v := undef) rfl (by kernel_rfl) (by kernel_rfl) (by kernel_rfl) (fun _ _ _ h => h) (Or.inr ⟨by rfl, rfl⟩) (by assumption) ?_
    try simp only [Act.put, List.setIfInBounds_toArray, List.set_cons_zero, List.set_cons_succ]
    refine wpAnyH_take (i := 12) (oi := { dst := some 44, op := Op.pick (Operand.tmp 35) (Operand.tmp 43) (Operand.const (Value.bool false)), type := 4, pos := "l03_normal.go:61", after := #[{ on := 3, ground := Ground.data }, { on := 11, ground := Ground.data }], guard := none }) (v := ?_) rfl (by kernel_rfl) (by kernel_rfl) (by kernel_rfl) (fun _ _ _ h => h) (Or.inl ⟨by rfl, ?_⟩) (by assumption) ?_
    rotate_left
    ·intro w hSw
     (try dsimp only at hSw)
     go_simp
     try with_reducible rfl
    try simp only [Act.put, List.setIfInBounds_toArray, List.set_cons_zero, List.set_cons_succ]
    refine wpAnyH_done (by kernel_rfl) ?_ _
    have hc1 : (0 : Int) ≤ (c2 : Int) := by omega
    go_wp2_with (at_builtin; refine wpList_append_rows_at rfl _ _ 26 rfl _ i0 Try.underlying26 hi hz0 hz1 hz2 _ _ _ rfl (OwnAV.empty _) _ _ _ [] rfl ReadsA.zero (by omega) (by simp) ?_)
    intro v' w5 ho' hg hv
    have Z5 := (Z.out.alloc (.cells #[] 53)).heap hg.size (hg.block _ (Z.out.alloc _).1 fun e => by have := Z.out.1; simp [Value.ownBlock] at e; omega)
    have B5 : Hid (Below w.heap.size w w5) := Lib.hid (by
     have z9 := B.out.size
     first
      | exact below_ownA (B.out.alloc z9 (.cells #[] 53)) (by simp; omega) z9 (OwnAV.empty _) hg
      | exact below_ownA (B.out.alloc z9 (.cells #[] 53)).drew (by simp; omega) z9 (OwnAV.empty _).drew hg)
    have z5 := Z.out.1
    obtain ⟨a', c', rfl, hoA⟩ := ho'.form
    have HOA := Lib.hid hoA
    clear ho' hg hv hoA
    have Z6 := Lib.hid Z5
    obtain ⟨x0, ⟨x1, x2, x3⟩, y1, y2, y3⟩ := Z5
    go_wp2
    try rw [Exit.noGoto_ret]
    obtain ⟨_, ⟨e1, e2, e3⟩, _⟩ := Z6.out.fill (.int .i64 m) (.int .i64 p) (.slice a' 0 c')
    refine bodyPost_ret (v := .agg #[.int .i64 m, .int .i64 p, .slice a' 0 c']) (by simp [results, Try.results24, go_sem, e1, e2, e3]) rfl ⟨a', _, c', rfl, ((((HOA.out.setCell_below (p := ⟨w.heap.size, 0, none⟩) z5 _).setCell_below (p := ⟨w.heap.size, 1, none⟩) z5 _).setCell_below (p := ⟨w.heap.size, 2, none⟩) z5 _)).mono (Nat.le_of_lt z5), ((B5.out.setCell (p := ⟨w.heap.size, 0, none⟩) (Nat.le_refl _) _).setCell (p := ⟨w.heap.size, 1, none⟩) (Nat.le_refl _) _).setCell (p := ⟨w.heap.size, 2, none⟩) (Nat.le_refl _) _⟩
 ·have hm2 : ¬ (1 : Int) < (m : Int) := by omega
  go_wp2
  go_loopg [8] 0 (fun g v wx => v = .int .i64 0 ∧ Below w.heap.size w wx ∧ At3 wx w.heap.size (.int .i64 0) (.int .i64 0) (.slice none 0 0))
  case atStart => exact ⟨rfl, B.out, Z.out⟩
  case round =>
   obtain ⟨rfl, hB, hZ⟩ := hrel
   clear B Z
   have B := Lib.hid hB
   have Z := Lib.hid hZ
   clear hB hZ
   go_upto_region 7 with fail
   refine wp_region_held_drew (S := (fun _ => True)) (by kernel_rfl) ?_ (fun hHeld => ?_)
   ·trivial
   refine wpAnyH_take (i := 0) (oi := { dst := some 32, op := Op.move (Operand.tmp 8), type := 3, pos := "l03_normal.go:61", after := #[], guard := none }) (v := ?_) rfl (by kernel_rfl) (by kernel_rfl) (by kernel_rfl) (fun _ _ _ h => h) (Or.inl ⟨by rfl, ?_⟩) (by assumption) ?_
   rotate_left
   ·intro w hSw
    (try dsimp only at hSw)
    go_simp
    try with_reducible rfl
   try simp only [Act.put, List.setIfInBounds_toArray, List.set_cons_zero, List.set_cons_succ]
   refine wpAnyH_take (i := 1) (oi := { dst := some 33, op := Op.move (Operand.tmp 7), type := 3, pos := "l03_normal.go:61", after := #[], guard := none }) (v := ?_) rfl (by kernel_rfl) (by kernel_rfl) (by kernel_rfl) (fun _ _ _ h => h) (Or.inl ⟨by rfl, ?_⟩) (by assumption) ?_
   rotate_left
   ·intro w hSw
    (try dsimp only at hSw)
    go_simp
    try with_reducible rfl
   try simp only [Act.put, List.setIfInBounds_toArray, List.set_cons_zero, List.set_cons_succ]
   refine wpAnyH_take (i := 2) (oi := { dst := some 34, op := Op.binOp BinOp.gtr 3 (Operand.tmp 32) (Operand.tmp 33) 3, type := 4, pos := "l03_normal.go:61", after := #[{ on := 0, ground := Ground.data }, { on := 1, ground := Ground.data }], guard := none }) (v := ?_) rfl (by kernel_rfl) (by kernel_rfl) (by kernel_rfl) (fun _ _ _ h => h) (Or.inl ⟨by rfl, ?_⟩) (by assumption) ?_
   rotate_left
   ·intro w hSw
    (try dsimp only at hSw)
    go_simp
    try with_reducible rfl
   try simp only [Act.put, List.setIfInBounds_toArray, List.set_cons_zero, List.set_cons_succ]
   refine wpAnyH_take (i := 3) (oi := { dst := some 35, op := Op.move (Operand.tmp 34), type := 4, pos := "l03_normal.go:61", after := #[{ on := 2, ground := Ground.data }], guard := none }) (v := ?_) rfl (by kernel_rfl) (by kernel_rfl) (by kernel_rfl) (fun _ _ _ h => h) (Or.inl ⟨by rfl, ?_⟩) (by assumption) ?_
   rotate_left
   ·intro w hSw
    (try dsimp only at hSw)
    go_simp
    try with_reducible rfl
   try simp only [Act.put, List.setIfInBounds_toArray, List.set_cons_zero, List.set_cons_succ]
   refine wpAnyH_take (i := 4) (oi := { dst := some 36, op := Op.move (Operand.tmp 2), type := 26, pos := "l03_normal.go:61", after := #[{ on := 3, ground := Ground.guard }], guard := some (3, true) }) (v := undef) rfl (by kernel_rfl) (by kernel_rfl) (by kernel_rfl) (fun _ _ _ h => h) (Or.inr ⟨by rfl, rfl⟩) (by assumption) ?_
   try simp only [Act.put, List.setIfInBounds_toArray, List.set_cons_zero, List.set_cons_succ]
   refine wpAnyH_take (i := 5) (oi := { dst := some 37, op := Op.move (Operand.tmp 8), type := 3, pos := "l03_normal.go:61", after := #[{ on := 3, ground := Ground.guard }], guard := some (3, true) }) (v := undef) rfl (by kernel_rfl) (by kernel_rfl) (by kernel_rfl) (fun _ _ _ h => h) (Or.inr ⟨by rfl, rfl⟩) (by assumption) ?_
   try simp only [Act.put, List.setIfInBounds_toArray, List.set_cons_zero, List.set_cons_succ]
   refine wpAnyH_take (i := 6) (oi := { dst := some 38, op := Op.binOp BinOp.sub 3 (Operand.tmp 37) (Operand.const (Value.int IntKind.i64 1)) 3, type := 3, pos := "l03_normal.go:61", after := #[{ on := 5, ground := Ground.data }, { on := 3, ground := Ground.guard }], guard := some (3, true) }) (v := undef) rfl (by kernel_rfl) (by kernel_rfl) (by kernel_rfl) (fun _ _ _ h => h) (Or.inr ⟨by rfl, rfl⟩) (by assumption) ?_
   try simp only [Act.put, List.setIfInBounds_toArray, List.set_cons_zero, List.set_cons_succ]
   refine wpAnyH_take (i := 7) (oi := { dst := some 39, op := Op.indexAddr 26 (Operand.tmp 36) (Operand.tmp 38), type := 0, pos := "l03_normal.go:61", after := #[{ on := 4, ground := Ground.data }, { on := 6, ground := Ground.data }, { on := 3, ground := Ground.guard }], guard := some (3, true) }) (v := undef) rfl (by kernel_rfl) (by kernel_rfl) (by kernel_rfl) (fun _ _ _ h => h) (Or.inr ⟨by rfl, rfl⟩) (by assumption) ?_
   try simp only [Act.put, List.setIfInBounds_toArray, List.set_cons_zero, List.set_cons_succ]
   refine wpAnyH_take (i := 8) (oi := { dst := some 40, op := Op.load 53 (Operand.tmp 39), type := 53, pos := "l03_normal.go:61", after := #[{ on := 7, ground := Ground.data }, { on := 3, ground := Ground.guard }], guard := some (3, true) }) (v := undef) rfl (by kernel_rfl) (by kernel_rfl) (by kernel_rfl) (fun _ _ _ h => h) (Or.inr ⟨by rfl, rfl⟩) (by assumption) ?_
   try simp only [Act.put, List.setIfInBounds_toArray, List.set_cons_zero, List.set_cons_succ]
   refine wpAnyH_take (i := 9) (oi := { dst := some 41, op := Op.move (Operand.tmp 0), type := 2, pos := "l03_normal.go:61", after := #[{ on := 3, ground := Ground.guard }], guard := some (3, true) }) (v := undef) rfl (by kernel_rfl) (by kernel_rfl) (by kernel_rfl) (fun _ _ _ h => h) (Or.inr ⟨by rfl, rfl⟩) (by assumption) ?_
   try simp only [Act.put, List.setIfInBounds_toArray, List.set_cons_zero, List.set_cons_succ]
   refine wpAnyH_ready (rs := [10]) (by kernel_rfl) (by simp) ?_
   refine AllReadyH.cons (o := { dst := some 42, op := Op.call { callee := Callee.value (Operand.func 36), args := #[Operand.tmp 41], argTypes := #[2] }, type := 53, pos := "l03_normal.go:61", after := #[{ on := 9, ground := Ground.data }, { on := 3, ground := Ground.chain }, { on := 3, ground := Ground.guard }], guard := some (3, true) }) rfl (fun K hK => ?_) AllReadyH.nil
   go_simp
   refine hK.out _ _ ?_ (fun hHeld => ?_)
   ·trivial
   clear hK K
   try simp only [Act.put, List.setIfInBounds_toArray, List.set_cons_zero, List.set_cons_succ]
   refine wpAnyH_take (i := 11) (oi := { dst := some 43, op := Op.binOp BinOp.eql 53 (Operand.tmp 40) (Operand.tmp 42) 53, type := 4, pos := "l03_normal.go:61", after := #[{ on := 8, ground := Ground.data }, { on := 10, ground := Ground.data }, { on := 3, ground := Ground.guard }], guard := some (3, true) }) (v := undef) rfl (by kernel_rfl) (by kernel_rfl) (by kernel_rfl) (fun _ _ _ h => h) (Or.inr ⟨by rfl, rfl⟩) (by assumption) ?_
   try simp only [Act.put, List.setIfInBounds_toArray, List.set_cons_zero, List.set_cons_succ]
   refine wpAnyH_take (i := 12) (oi := { dst := some 44, op := Op.pick (Operand.tmp 35) (Operand.tmp 43) (Operand.const (Value.bool false)), type := 4, pos := "l03_normal.go:61", after := #[{ on := 3, ground := Ground.data }, { on := 11, ground := Ground.data }], guard := none }) (v := ?_) rfl (by kernel_rfl) (by kernel_rfl) (by kernel_rfl) (fun _ _ _ h => h) (Or.inl ⟨by rfl, ?_⟩) (by assumption) ?_
   rotate_left
   ·intro w hSw
    (try dsimp only at hSw)
    go_simp
    try with_reducible rfl
   try simp only [Act.put, List.setIfInBounds_toArray, List.set_cons_zero, List.set_cons_succ]
   refine wpAnyH_done (by kernel_rfl) ?_ _
   have hc1 : (0 : Int) ≤ (c2 : Int) := by omega
   go_wp2_with (at_builtin; refine wpList_append_rows_at rfl _ _ 26 rfl _ i0 Try.underlying26 hi hz0 hz1 hz2 _ _ _ rfl (OwnAV.empty _) _ _ _ [] rfl ReadsA.zero (by omega) (by simp) ?_)
   intro v' w5 ho' hg hv
   have Z5 := (Z.out.alloc (.cells #[] 53)).heap hg.size (hg.block _ (Z.out.alloc _).1 fun e => by have := Z.out.1; simp [Value.ownBlock] at e; omega)
   have B5 : Hid (Below w.heap.size w w5) := Lib.hid (by
    have z9 := B.out.size
    first
     | exact below_ownA (B.out.alloc z9 (.cells #[] 53)) (by simp; omega) z9 (OwnAV.empty _) hg
     | exact below_ownA (B.out.alloc z9 (.cells #[] 53)).drew (by simp; omega) z9 (OwnAV.empty _).drew hg)
   have z5 := Z.out.1
   obtain ⟨a', c', rfl, hoA⟩ := ho'.form
   have HOA := Lib.hid hoA
   clear ho' hg hv hoA
   have Z6 := Lib.hid Z5
   obtain ⟨x0, ⟨x1, x2, x3⟩, y1, y2, y3⟩ := Z5
   go_wp2
   try rw [Exit.noGoto_ret]
   obtain ⟨_, ⟨e1, e2, e3⟩, _⟩ := Z6.out.fill (.int .i64 m) (.int .i64 p) (.slice a' 0 c')
   refine bodyPost_ret (v := .agg #[.int .i64 m, .int .i64 p, .slice a' 0 c']) (by simp [results, Try.results24, go_sem, e1, e2, e3]) rfl ⟨a', _, c', rfl, ((((HOA.out.setCell_below (p := ⟨w.heap.size, 0, none⟩) z5 _).setCell_below (p := ⟨w.heap.size, 1, none⟩) z5 _).setCell_below (p := ⟨w.heap.size, 2, none⟩) z5 _)).mono (Nat.le_of_lt z5), ((B5.out.setCell (p := ⟨w.heap.size, 0, none⟩) (Nat.le_refl _) _).setCell (p := ⟨w.heap.size, 1, none⟩) (Nat.le_refl _) _).setCell (p := ⟨w.heap.size, 2, none⟩) (Nat.le_refl _) _⟩

/-- The model makes the normal form of any list. -/
theorem l03Make_any (m : Nat) (m1 : 1 ≤ m) (m8 : m ≤ 8) (p : Int) (hp : -2000000 ≤ p ∧ p ≤ 2000000) (a : Option Addr) (n cap : Nat) (l : List (List Int)) (w : World) (hr : ReadsA w a n l) (hs : Sims m l) (hn : n ≤ 1048576)
  (q : Int) (K : List (List Int)) (hM : mkN m p l = (q, K)) :
  Calls Try.prog 24 #[.int .i64 m, .int .i64 p, .slice a n cap] w (RetNormal w m q K) := by
 rcases Nat.eq_zero_or_pos n with h | h
 ·subst h
  have : l = [] := List.eq_nil_of_length_eq_zero hr.len
  subst this
  rw [mkN_id p Nl.nil] at hM
  injection hM with h1 h2
  subst h1 h2
  exact l03Make_zero m m1 m8 p a cap w
 ·exact l03Make_pos m m1 m8 p hp a n cap l w hr hs hn h q K hM

end Go.Proofs.Ytpkhddndapcpjaa

