/- The model: the inverse of a normal form. -/
import Derived.Test.YtleoohplnkdbdabCjSFit
import Derived.Test.YtleoohplnkdbdabCjSTim
namespace Go.Proofs.Ytleoohplnkdbdab
open Go.RowKit Go.ChangeShapes

theorem Nl.drop {n : Nat} {l : List (List Int)} (h : Nl n l) (k : Nat) : Nl n (l.drop k) :=
 ⟨fun x hx => h.sims x (List.mem_of_mem_drop hx), wl_drop h.wl k, fun x hx => h.n1 x (List.mem_of_mem_drop hx), fun x hx => h.nh x (List.mem_of_mem_drop hx)⟩

theorem drop_row {l : List (List Int)} {k : Nat} (h : k < l.length) : l.drop k = rowAt l k :: l.drop (k + 1) := by
 rw [List.drop_eq_getElem_cons h, rowAt_lt h]

/-- Where the model's loop has come to. -/
structure AtInv (w wx : World) (m : Nat) (p : Int) (a : Option Addr) (n cap : Nat) (q : Int) (ao : Option Addr) (no co : Nat) (kf : List (List Int)) : Prop where
 box : At3 wx w.heap.size (.int .i64 m) (.int .i64 p) (.slice a n cap)
 res : At3 wx (w.heap.size + 1) (.int .i64 0) (.int .i64 0) (.slice none 0 0)
 out : At3 wx (w.heap.size + 1 + 1) (.int .i64 m) (.int .i64 q) (.slice ao no co)
 own : OwnA (w.heap.size + 1 + 1 + 1) wx ao no co kf
 bel : Below w.heap.size w wx
 size : w.heap.size + 1 + 1 + 1 ≤ wx.heap.size

theorem AtInv.drew {w wx : World} {m : Nat} {p : Int} {a : Option Addr} {n cap : Nat} {q : Int} {ao : Option Addr} {no co : Nat} {kf : List (List Int)} (h : AtInv w wx m p a n cap q ao no co kf) : AtInv w wx.drew m p a n cap q ao no co kf :=
 ⟨h.box, h.res, h.out, h.own, h.bel.drew, h.size⟩

set_option maxRecDepth 100000 in
set_option maxHeartbeats 4000000 in
theorem l03Inverse_any (m : Nat) (m1 : 1 ≤ m) (m8 : m ≤ 8) (p : Int) (hp : -100000 ≤ p ∧ p ≤ 100000) (a : Option Addr) (n cap : Nat) (l : List (List Int)) (w : World) (hr : ReadsA w a n l) (hl : Nl m l) (hn : n ≤ 100000) :
  Calls Try.prog 52 #[.agg #[.int .i64 m, .int .i64 p, .slice a n cap]] w (RetNormal w m (-(n : Int) - p) (turns m p (invL m l))) := by
 have HL := Lib.hid hl; clear hl
 have HN := Lib.hid hr.len
 have Rd := Lib.hid hr
 clear hr
 go_enter Try.func52, Try.ntmps52
 have A0 := Lib.hid (((At3.place w (.int .i64 m) (.int .i64 p) (.slice a n cap) 28 w.heap.size rfl).alloc (.cells #[.int .i64 0, .int .i64 0, .slice none 0 0] 28)).alloc (.cells #[.int .i64 m, .int .i64 0, .slice none 0 0] 28))
 have Z0 := Lib.hid ((At3.place (w.alloc (.cells #[.int .i64 m, .int .i64 p, .slice a n cap] 28)) (.int .i64 0) (.int .i64 0) (.slice none 0 0) 28 (w.heap.size + 1) (by simp)).alloc (.cells #[.int .i64 m, .int .i64 0, .slice none 0 0] 28))
 have O0 := Lib.hid (At3.place ((w.alloc (.cells #[.int .i64 m, .int .i64 p, .slice a n cap] 28)).alloc (.cells #[.int .i64 0, .int .i64 0, .slice none 0 0] 28)) (.int .i64 m) (.int .i64 0) (.slice none 0 0) 28 (w.heap.size + 1 + 1) (by simp))
 have B0 := Lib.hid (((below1 w (.cells #[.int .i64 m, .int .i64 p, .slice a n cap] 28)).alloc (by simp) (.cells #[.int .i64 0, .int .i64 0, .slice none 0 0] 28)).alloc (by simp; omega) (.cells #[.int .i64 m, .int .i64 0, .slice none 0 0] 28))
 have F := Lib.hid (AtInv.mk A0.out Z0.out O0.out (OwnA.nil _ _) B0.out (by simp))
 obtain ⟨q1, q2, q3⟩ := A0.out.all
 clear A0 Z0 O0 B0
 have hw0 : IntKind.i64.wrap ((n : Int) - 1) = (n : Int) - 1 := IntWalk.i64_in _ (by omega)
 go_wp2
 clear q1 q2 q3
 go_loopg [4] n (fun g i wx => ∃ j ao no co, g = j ∧ j ≤ n ∧ i = .int .i64 ((j : Int) - 1) ∧ no + j = n ∧ AtInv w wx m p a n cap (-(no : Int)) ao no co (invL m (l.drop j)))
 case atStart => exact ⟨n, none, 0, 0, rfl, Nat.le_refl _, by go_num, by omega, by rw [List.drop_of_length_le (by rw [HN.out]; exact Nat.le_refl _)]; exact F.out⟩
 case round =>
  obtain ⟨j, ao, no, co, rfl, hj, rfl, hno, hF⟩ := hrel
  clear F
  have F := Lib.hid hF
  clear hF
  by_cases hk0 : gk = 0
  ·subst hk0
   have hnn : no = n := by omega
   subst hnn
   have hw1 : IntKind.i64.wrap (-(no : Int) - p) = -(no : Int) - p := IntWalk.i64_in _ (by omega)
   have S9 : Hid (Sims m (invL m l)) := Lib.hid (invL_nl HL.out).sims
   go_wp2_with fail
   rw [List.drop_zero] at F
   have KB : Hid (Below wr.heap.size wr wr.drew) := Lib.hid (Below.refl wr.heap.size wr).drew
   have HSZ := Lib.hid F.out.size
   have SH : Hid (∀ W, Below wr.heap.size wr W → (W.cell? ⟨w.heap.size, 0, none⟩ = some (.int .i64 m) ∧ W.cell? ⟨w.heap.size, 1, none⟩ = some (.int .i64 p) ∧ W.cell? ⟨w.heap.size, 2, none⟩ = some (.slice a no cap)) ∧ (W.cell? ⟨w.heap.size + 1 + 1, 0, none⟩ = some (.int .i64 m) ∧ W.cell? ⟨w.heap.size + 1 + 1, 1, none⟩ = some (.int .i64 (-(no : Int))) ∧ W.cell? ⟨w.heap.size + 1 + 1, 2, none⟩ = some (.slice ao no co))) := Lib.hid fun W h => ⟨(F.out.box.below h).all, (F.out.out.below h).all⟩
   have SZ : Hid (∀ W, Below wr.heap.size wr W → ∀ u v x, ((((W.setCell ⟨w.heap.size + 1, 0, none⟩ u).setCell ⟨w.heap.size + 1, 1, none⟩ v).setCell ⟨w.heap.size + 1, 2, none⟩ x).cell? ⟨w.heap.size, 0, none⟩ = some (.int .i64 m) ∧ (((W.setCell ⟨w.heap.size + 1, 0, none⟩ u).setCell ⟨w.heap.size + 1, 1, none⟩ v).setCell ⟨w.heap.size + 1, 2, none⟩ x).cell? ⟨w.heap.size, 1, none⟩ = some (.int .i64 p) ∧ (((W.setCell ⟨w.heap.size + 1, 0, none⟩ u).setCell ⟨w.heap.size + 1, 1, none⟩ v).setCell ⟨w.heap.size + 1, 2, none⟩ x).cell? ⟨w.heap.size, 2, none⟩ = some (.slice a no cap)) ∧ ((((W.setCell ⟨w.heap.size + 1, 0, none⟩ u).setCell ⟨w.heap.size + 1, 1, none⟩ v).setCell ⟨w.heap.size + 1, 2, none⟩ x).cell? ⟨w.heap.size + 1 + 1, 0, none⟩ = some (.int .i64 m) ∧ (((W.setCell ⟨w.heap.size + 1, 0, none⟩ u).setCell ⟨w.heap.size + 1, 1, none⟩ v).setCell ⟨w.heap.size + 1, 2, none⟩ x).cell? ⟨w.heap.size + 1 + 1, 1, none⟩ = some (.int .i64 (-(no : Int))) ∧ (((W.setCell ⟨w.heap.size + 1, 0, none⟩ u).setCell ⟨w.heap.size + 1, 1, none⟩ v).setCell ⟨w.heap.size + 1, 2, none⟩ x).cell? ⟨w.heap.size + 1 + 1, 2, none⟩ = some (.slice ao no co))) := Lib.hid fun W h u v x => ⟨((F.out.box.below h).set3 (by omega) u v x).all, ((F.out.out.below h).set3 (by omega) u v x).all⟩
   refine wp_region_held_drew (S := (fun w' => (w'.cell? ⟨w.heap.size, 0, none⟩ = some (.int .i64 m) ∧ w'.cell? ⟨w.heap.size, 1, none⟩ = some (.int .i64 p) ∧ w'.cell? ⟨w.heap.size, 2, none⟩ = some (.slice a no cap)) ∧ (w'.cell? ⟨w.heap.size + 1 + 1, 0, none⟩ = some (.int .i64 m) ∧ w'.cell? ⟨w.heap.size + 1 + 1, 1, none⟩ = some (.int .i64 (-(no : Int))) ∧ w'.cell? ⟨w.heap.size + 1 + 1, 2, none⟩ = some (.slice ao no co)))) (by kernel_rfl) ?_ (fun hHeld => ?_)
   ·(first | with_reducible exact SH.out _ KB.out | with_reducible exact SZ.out _ KB.out _ _ _)
   refine wpAnyH_take (i := 0) (oi := { dst := some 23, op := Op.fieldAddr 28 (Operand.tmp 1) 0, type := 0, pos := "l03_normal.go:166", after := #[], guard := none }) (v := ?_) rfl (by kernel_rfl) (by kernel_rfl) (by kernel_rfl) (fun _ _ _ h => h) (Or.inl ⟨by rfl, ?_⟩) (by assumption) ?_
   rotate_left
   ·intro w hSw
    (try dsimp only at hSw)
    go_simp
    try with_reducible rfl
   try simp only [Act.put, List.setIfInBounds_toArray, List.set_cons_zero, List.set_cons_succ]
   refine wpAnyH_take (i := 1) (oi := { dst := some 24, op := Op.load 2 (Operand.tmp 23), type := 2, pos := "l03_normal.go:166", after := #[{ on := 0, ground := Ground.data }], guard := none }) (v := ?_) rfl (by kernel_rfl) (by kernel_rfl) (by kernel_rfl) (fun _ _ _ h => h) (Or.inl ⟨by rfl, ?_⟩) (by assumption) ?_
   rotate_left
   ·intro w hSw
    (try dsimp only at hSw)
    go_simp
    try with_reducible rfl
   try simp only [Act.put, List.setIfInBounds_toArray, List.set_cons_zero, List.set_cons_succ]
   refine wpAnyH_take (i := 2) (oi := { dst := some 25, op := Op.fieldAddr 28 (Operand.tmp 3) 1, type := 0, pos := "l03_normal.go:166", after := #[], guard := none }) (v := ?_) rfl (by kernel_rfl) (by kernel_rfl) (by kernel_rfl) (fun _ _ _ h => h) (Or.inl ⟨by rfl, ?_⟩) (by assumption) ?_
   rotate_left
   ·intro w hSw
    (try dsimp only at hSw)
    go_simp
    try with_reducible rfl
   try simp only [Act.put, List.setIfInBounds_toArray, List.set_cons_zero, List.set_cons_succ]
   refine wpAnyH_take (i := 3) (oi := { dst := some 26, op := Op.load 2 (Operand.tmp 25), type := 2, pos := "l03_normal.go:166", after := #[{ on := 2, ground := Ground.data }], guard := none }) (v := ?_) rfl (by kernel_rfl) (by kernel_rfl) (by kernel_rfl) (fun _ _ _ h => h) (Or.inl ⟨by rfl, ?_⟩) (by assumption) ?_
   rotate_left
   ·intro w hSw
    (try dsimp only at hSw)
    go_simp
    try with_reducible rfl
   try simp only [Act.put, List.setIfInBounds_toArray, List.set_cons_zero, List.set_cons_succ]
   refine wpAnyH_take (i := 4) (oi := { dst := some 27, op := Op.fieldAddr 28 (Operand.tmp 1) 1, type := 0, pos := "l03_normal.go:166", after := #[], guard := none }) (v := ?_) rfl (by kernel_rfl) (by kernel_rfl) (by kernel_rfl) (fun _ _ _ h => h) (Or.inl ⟨by rfl, ?_⟩) (by assumption) ?_
   rotate_left
   ·intro w hSw
    (try dsimp only at hSw)
    go_simp
    try with_reducible rfl
   try simp only [Act.put, List.setIfInBounds_toArray, List.set_cons_zero, List.set_cons_succ]
   refine wpAnyH_take (i := 5) (oi := { dst := some 28, op := Op.load 2 (Operand.tmp 27), type := 2, pos := "l03_normal.go:166", after := #[{ on := 4, ground := Ground.data }], guard := none }) (v := ?_) rfl (by kernel_rfl) (by kernel_rfl) (by kernel_rfl) (fun _ _ _ h => h) (Or.inl ⟨by rfl, ?_⟩) (by assumption) ?_
   rotate_left
   ·intro w hSw
    (try dsimp only at hSw)
    go_simp
    try with_reducible rfl
   try simp only [Act.put, List.setIfInBounds_toArray, List.set_cons_zero, List.set_cons_succ]
   refine wpAnyH_take (i := 6) (oi := { dst := some 29, op := Op.binOp BinOp.sub 2 (Operand.tmp 26) (Operand.tmp 28) 2, type := 2, pos := "l03_normal.go:166", after := #[{ on := 3, ground := Ground.data }, { on := 5, ground := Ground.data }], guard := none }) (v := ?_) rfl (by kernel_rfl) (by kernel_rfl) (by kernel_rfl) (fun _ _ _ h => h) (Or.inl ⟨by rfl, ?_⟩) (by assumption) ?_
   rotate_left
   ·intro w hSw
    (try dsimp only at hSw)
    go_simp
    try with_reducible rfl
   try simp only [Act.put, List.setIfInBounds_toArray, List.set_cons_zero, List.set_cons_succ]
   refine wpAnyH_take (i := 7) (oi := { dst := some 30, op := Op.fieldAddr 28 (Operand.tmp 3) 2, type := 0, pos := "l03_normal.go:166", after := #[], guard := none }) (v := ?_) rfl (by kernel_rfl) (by kernel_rfl) (by kernel_rfl) (fun _ _ _ h => h) (Or.inl ⟨by rfl, ?_⟩) (by assumption) ?_
   rotate_left
   ·intro w hSw
    (try dsimp only at hSw)
    go_simp
    try with_reducible rfl
   try simp only [Act.put, List.setIfInBounds_toArray, List.set_cons_zero, List.set_cons_succ]
   refine wpAnyH_take (i := 8) (oi := { dst := some 31, op := Op.load 26 (Operand.tmp 30), type := 26, pos := "l03_normal.go:166", after := #[{ on := 7, ground := Ground.data }], guard := none }) (v := ?_) rfl (by kernel_rfl) (by kernel_rfl) (by kernel_rfl) (fun _ _ _ h => h) (Or.inl ⟨by rfl, ?_⟩) (by assumption) ?_
   rotate_left
   ·intro w hSw
    (try dsimp only at hSw)
    go_simp
    try with_reducible rfl
   try simp only [Act.put, List.setIfInBounds_toArray, List.set_cons_zero, List.set_cons_succ]
   refine wpAnyH_take (i := 9) (oi := { dst := some 32, op := Op.fieldAddr 28 (Operand.tmp 1) 0, type := 0, pos := "l03_normal.go:166", after := #[], guard := none }) (v := ?_) rfl (by kernel_rfl) (by kernel_rfl) (by kernel_rfl) (fun _ _ _ h => h) (Or.inl ⟨by rfl, ?_⟩) (by assumption) ?_
   rotate_left
   ·intro w hSw
    (try dsimp only at hSw)
    go_simp
    try with_reducible rfl
   try simp only [Act.put, List.setIfInBounds_toArray, List.set_cons_zero, List.set_cons_succ]
   refine wpAnyH_take (i := 10) (oi := { dst := some 33, op := Op.load 2 (Operand.tmp 32), type := 2, pos := "l03_normal.go:166", after := #[{ on := 9, ground := Ground.data }], guard := none }) (v := ?_) rfl (by kernel_rfl) (by kernel_rfl) (by kernel_rfl) (fun _ _ _ h => h) (Or.inl ⟨by rfl, ?_⟩) (by assumption) ?_
   rotate_left
   ·intro w hSw
    (try dsimp only at hSw)
    go_simp
    try with_reducible rfl
   try simp only [Act.put, List.setIfInBounds_toArray, List.set_cons_zero, List.set_cons_succ]
   refine wpAnyH_take (i := 11) (oi := { dst := some 34, op := Op.fieldAddr 28 (Operand.tmp 1) 1, type := 0, pos := "l03_normal.go:166", after := #[], guard := none }) (v := ?_) rfl (by kernel_rfl) (by kernel_rfl) (by kernel_rfl) (fun _ _ _ h => h) (Or.inl ⟨by rfl, ?_⟩) (by assumption) ?_
   rotate_left
   ·intro w hSw
    (try dsimp only at hSw)
    go_simp
    try with_reducible rfl
   try simp only [Act.put, List.setIfInBounds_toArray, List.set_cons_zero, List.set_cons_succ]
   refine wpAnyH_take (i := 12) (oi := { dst := some 35, op := Op.load 2 (Operand.tmp 34), type := 2, pos := "l03_normal.go:166", after := #[{ on := 11, ground := Ground.data }], guard := none }) (v := ?_) rfl (by kernel_rfl) (by kernel_rfl) (by kernel_rfl) (fun _ _ _ h => h) (Or.inl ⟨by rfl, ?_⟩) (by assumption) ?_
   rotate_left
   ·intro w hSw
    (try dsimp only at hSw)
    go_simp
    try with_reducible rfl
   try simp only [Act.put, List.setIfInBounds_toArray, List.set_cons_zero, List.set_cons_succ]
   refine wpAnyH_ready (rs := [13]) (by kernel_rfl) (by simp) ?_
   refine AllReadyH.cons (o := { dst := some 36, op := Op.call { callee := Callee.value (Operand.func 82), args := #[Operand.tmp 31, Operand.tmp 33, Operand.tmp 35], argTypes := #[26, 2, 2] }, type := 26, pos := "l03_normal.go:166", after := #[{ on := 8, ground := Ground.data }, { on := 10, ground := Ground.data }, { on := 12, ground := Ground.data }], guard := none }) rfl (fun K hK => ?_) ?_
   ·go_simp
    refine (l03Turned_any m p _ no co (invL m l) _ (F.out.own.reads.below KB.out) (rows_sims.1 S9.out) (by omega)).mono ?_
    rintro e w6 ⟨a6, n6, c6, rfl, ho, gg⟩
    have hn6 : n6 = no := by have h1 := ho.len; rw [List.length_map, invL_len, HN.out] at h1; omega
    subst hn6
    have R := Lib.hid (ho.mono KB.out.size)
    replace KB := Lib.hid (below_go KB.out gg KB.out.size)
    clear ho gg
    obtain ⟨x0, ⟨x1, x2, x3⟩, y1, y2, y3⟩ := F.out.res.below KB.out
    go_wp2_with fail
    refine hK.out _ _ ?_ (fun hHeld => ?_)
    ·(first | with_reducible exact SH.out _ KB.out | with_reducible exact SZ.out _ KB.out _ _ _)
    clear hK K
    try simp only [Act.put, List.setIfInBounds_toArray, List.set_cons_zero, List.set_cons_succ]
    refine wpAnyH_ready (rs := [14]) (by kernel_rfl) (by simp) ?_
    refine AllReadyH.cons (o := { dst := some 37, op := Op.build 28 #[(0, Operand.tmp 24), (1, Operand.tmp 29), (2, Operand.tmp 36)], type := 28, pos := "l03_normal.go:166", after := #[{ on := 1, ground := Ground.data }, { on := 6, ground := Ground.data }, { on := 13, ground := Ground.data }], guard := none }) rfl (fun K hK => ?_) ?_
    ·go_simp
     refine hK.out _ _ ?_ (fun hHeld => ?_)
     ·(first | with_reducible exact SH.out _ KB.out | with_reducible exact SZ.out _ KB.out _ _ _)
     clear hK K
     try simp only [Act.put, List.setIfInBounds_toArray, List.set_cons_zero, List.set_cons_succ]
     refine wpAnyH_ready (rs := [15]) (by kernel_rfl) (by simp) ?_
     refine AllReadyH.cons (o := { dst := none, op := Op.store 28 (Operand.tmp 2) (Operand.tmp 37), type := 0, pos := "l03_normal.go:166", after := #[{ on := 14, ground := Ground.data }, { on := 13, ground := Ground.chain }, { on := 0, ground := Ground.phase }, { on := 1, ground := Ground.phase }, { on := 2, ground := Ground.phase }, { on := 3, ground := Ground.phase }, { on := 4, ground := Ground.phase }, { on := 5, ground := Ground.phase }, { on := 6, ground := Ground.phase }, { on := 7, ground := Ground.phase }, { on := 8, ground := Ground.phase }, { on := 9, ground := Ground.phase }, { on := 10, ground := Ground.phase }, { on := 11, ground := Ground.phase }, { on := 12, ground := Ground.phase }, { on := 13, ground := Ground.phase }, { on := 14, ground := Ground.phase }], guard := none }) rfl (fun K hK => ?_) ?_
     ·go_simp
      refine hK.out _ _ ?_ (fun hHeld => ?_)
      ·(first | with_reducible exact SH.out _ KB.out | with_reducible exact SZ.out _ KB.out _ _ _)
      clear hK K
      try simp only [Act.put, List.setIfInBounds_toArray, List.set_cons_zero, List.set_cons_succ]
      refine wpAnyH_done (by kernel_rfl) ?_ _
      go_wp2_with fail
      try rw [Exit.noGoto_ret]
      have hsz := HSZ.out
      obtain ⟨_, ⟨e1, e2, e3⟩, _⟩ := (F.out.res.below KB.out).fill (.int .i64 m) (.int .i64 (-(n6 : Int) - p)) (.slice a6 n6 c6)
      exact bodyPost_ret (v := .agg #[.int .i64 m, .int .i64 (-(n6 : Int) - p), .slice a6 n6 c6]) (by simp [results, Try.results52, go_sem, e1, e2, e3]) rfl ⟨a6, n6, c6, rfl, (R.out.set3 (by omega) _ _ _).mono (by omega), below_set3 (F.out.bel.trans (KB.out.mono (by omega))) (by omega) _ _ _⟩
     exact AllReadyH.nil
    exact AllReadyH.nil
   exact AllReadyH.nil
  ·obtain ⟨k, rfl⟩ : ∃ k, gk = k + 1 := ⟨gk - 1, by omega⟩
   rw [show ((k + 1 : Nat) : Int) - 1 = (k : Int) by omega]
   obtain ⟨b, off, rfl, hbl, hcl⟩ := Rd.out.cells (show 0 < n by omega)
   obtain ⟨row, hrow⟩ : ∃ row, row = rowAt l k := ⟨_, rfl⟩
   have HROW := Lib.hid hrow
   have HCP : Hid (∀ W, Below w.heap.size w W → Cells8 W b (off + k * 8) row) := Lib.hid fun W h => by rw [HROW.out]; exact fun i hi => (h.cell (by exact hbl)).trans (hcl k (by omega) i hi)
   have SR : Hid (Sim m row) := Lib.hid (by rw [hrow]; exact HL.out.sims _ (rowAt_getElem (by rw [HN.out]; omega)))
   have hi1 : (k : Int) < (n : Int) := by omega
   clear hbl hcl hrow
   go_upto_region 5 with fail
   have KB : Hid (Below wr.heap.size wr wr.drew) := Lib.hid (Below.refl wr.heap.size wr).drew
   have HSZ := Lib.hid F.out.size
   have SH : Hid (∀ W, Below wr.heap.size wr W → (W.cell? ⟨w.heap.size, 0, none⟩ = some (.int .i64 m) ∧ W.cell? ⟨w.heap.size, 1, none⟩ = some (.int .i64 p) ∧ W.cell? ⟨w.heap.size, 2, none⟩ = some (.slice (some ⟨b, off, none⟩) n cap)) ∧ (W.cell? ⟨b, off + k * 8, none⟩ = some (.int .u8 (at8 row 0)) ∧ W.cell? ⟨b, off + k * 8 + 1, none⟩ = some (.int .u8 (at8 row 1)) ∧ W.cell? ⟨b, off + k * 8 + 2, none⟩ = some (.int .u8 (at8 row 2)) ∧ W.cell? ⟨b, off + k * 8 + 3, none⟩ = some (.int .u8 (at8 row 3)) ∧ W.cell? ⟨b, off + k * 8 + 4, none⟩ = some (.int .u8 (at8 row 4)) ∧ W.cell? ⟨b, off + k * 8 + 5, none⟩ = some (.int .u8 (at8 row 5)) ∧ W.cell? ⟨b, off + k * 8 + 6, none⟩ = some (.int .u8 (at8 row 6)) ∧ W.cell? ⟨b, off + k * 8 + 7, none⟩ = some (.int .u8 (at8 row 7)))) := Lib.hid fun W h => ⟨(F.out.box.below h).all, (HCP.out W (F.out.bel.trans (h.mono (by have := HSZ.out; omega)))).flat⟩
   have SZ : Hid (∀ W, Below wr.heap.size wr W → ∀ u v x, ((((W.setCell ⟨w.heap.size + 1 + 1, 0, none⟩ u).setCell ⟨w.heap.size + 1 + 1, 1, none⟩ v).setCell ⟨w.heap.size + 1 + 1, 2, none⟩ x).cell? ⟨w.heap.size, 0, none⟩ = some (.int .i64 m) ∧ (((W.setCell ⟨w.heap.size + 1 + 1, 0, none⟩ u).setCell ⟨w.heap.size + 1 + 1, 1, none⟩ v).setCell ⟨w.heap.size + 1 + 1, 2, none⟩ x).cell? ⟨w.heap.size, 1, none⟩ = some (.int .i64 p) ∧ (((W.setCell ⟨w.heap.size + 1 + 1, 0, none⟩ u).setCell ⟨w.heap.size + 1 + 1, 1, none⟩ v).setCell ⟨w.heap.size + 1 + 1, 2, none⟩ x).cell? ⟨w.heap.size, 2, none⟩ = some (.slice (some ⟨b, off, none⟩) n cap)) ∧ ((((W.setCell ⟨w.heap.size + 1 + 1, 0, none⟩ u).setCell ⟨w.heap.size + 1 + 1, 1, none⟩ v).setCell ⟨w.heap.size + 1 + 1, 2, none⟩ x).cell? ⟨b, off + k * 8, none⟩ = some (.int .u8 (at8 row 0)) ∧ (((W.setCell ⟨w.heap.size + 1 + 1, 0, none⟩ u).setCell ⟨w.heap.size + 1 + 1, 1, none⟩ v).setCell ⟨w.heap.size + 1 + 1, 2, none⟩ x).cell? ⟨b, off + k * 8 + 1, none⟩ = some (.int .u8 (at8 row 1)) ∧ (((W.setCell ⟨w.heap.size + 1 + 1, 0, none⟩ u).setCell ⟨w.heap.size + 1 + 1, 1, none⟩ v).setCell ⟨w.heap.size + 1 + 1, 2, none⟩ x).cell? ⟨b, off + k * 8 + 2, none⟩ = some (.int .u8 (at8 row 2)) ∧ (((W.setCell ⟨w.heap.size + 1 + 1, 0, none⟩ u).setCell ⟨w.heap.size + 1 + 1, 1, none⟩ v).setCell ⟨w.heap.size + 1 + 1, 2, none⟩ x).cell? ⟨b, off + k * 8 + 3, none⟩ = some (.int .u8 (at8 row 3)) ∧ (((W.setCell ⟨w.heap.size + 1 + 1, 0, none⟩ u).setCell ⟨w.heap.size + 1 + 1, 1, none⟩ v).setCell ⟨w.heap.size + 1 + 1, 2, none⟩ x).cell? ⟨b, off + k * 8 + 4, none⟩ = some (.int .u8 (at8 row 4)) ∧ (((W.setCell ⟨w.heap.size + 1 + 1, 0, none⟩ u).setCell ⟨w.heap.size + 1 + 1, 1, none⟩ v).setCell ⟨w.heap.size + 1 + 1, 2, none⟩ x).cell? ⟨b, off + k * 8 + 5, none⟩ = some (.int .u8 (at8 row 5)) ∧ (((W.setCell ⟨w.heap.size + 1 + 1, 0, none⟩ u).setCell ⟨w.heap.size + 1 + 1, 1, none⟩ v).setCell ⟨w.heap.size + 1 + 1, 2, none⟩ x).cell? ⟨b, off + k * 8 + 6, none⟩ = some (.int .u8 (at8 row 6)) ∧ (((W.setCell ⟨w.heap.size + 1 + 1, 0, none⟩ u).setCell ⟨w.heap.size + 1 + 1, 1, none⟩ v).setCell ⟨w.heap.size + 1 + 1, 2, none⟩ x).cell? ⟨b, off + k * 8 + 7, none⟩ = some (.int .u8 (at8 row 7)))) := Lib.hid fun W h u v x => ⟨((F.out.box.below h).set3 (by omega) u v x).all, (HCP.out _ (below_set3 (F.out.bel.trans (h.mono (by have := HSZ.out; omega))) (by omega) u v x)).flat⟩
   have HST : Hid (mkN m (-(no : Int) - 1) (turns m 1 (invL m (l.drop (k + 1))) ++ [leftR m row]) = (-(no : Int) - 1, invL m (l.drop k))) := Lib.hid (by have h0 := HL.out.drop k; rw [drop_row (show k < l.length by rw [HN.out]; omega), ← HROW.out] at h0 ⊢; exact invL_step h0 _)
   obtain ⟨x0, ⟨x1, x2, x3⟩, y1, y2, y3⟩ := F.out.out
   refine wp_region_held_drew (S := (fun w' => (w'.cell? ⟨w.heap.size, 0, none⟩ = some (.int .i64 m) ∧ w'.cell? ⟨w.heap.size, 1, none⟩ = some (.int .i64 p) ∧ w'.cell? ⟨w.heap.size, 2, none⟩ = some (.slice (some ⟨b, off, none⟩) n cap)) ∧ (w'.cell? ⟨b, off + k * 8, none⟩ = some (.int .u8 (at8 row 0)) ∧ w'.cell? ⟨b, off + k * 8 + 1, none⟩ = some (.int .u8 (at8 row 1)) ∧ w'.cell? ⟨b, off + k * 8 + 2, none⟩ = some (.int .u8 (at8 row 2)) ∧ w'.cell? ⟨b, off + k * 8 + 3, none⟩ = some (.int .u8 (at8 row 3)) ∧ w'.cell? ⟨b, off + k * 8 + 4, none⟩ = some (.int .u8 (at8 row 4)) ∧ w'.cell? ⟨b, off + k * 8 + 5, none⟩ = some (.int .u8 (at8 row 5)) ∧ w'.cell? ⟨b, off + k * 8 + 6, none⟩ = some (.int .u8 (at8 row 6)) ∧ w'.cell? ⟨b, off + k * 8 + 7, none⟩ = some (.int .u8 (at8 row 7))))) (by kernel_rfl) ?_ (fun hHeld => ?_)
   ·(first | with_reducible exact SH.out _ KB.out | with_reducible exact SZ.out _ KB.out _ _ _)
   refine wpAnyH_take (i := 1) (oi := { dst := some 17, op := Op.fieldAddr 28 (Operand.tmp 1) 2, type := 0, pos := "l03_normal.go:164", after := #[], guard := none }) (v := ?_) rfl (by kernel_rfl) (by kernel_rfl) (by kernel_rfl) (fun _ _ _ h => h) (Or.inl ⟨by rfl, ?_⟩) (by assumption) ?_
   rotate_left
   ·intro w hSw
    (try dsimp only at hSw)
    go_simp
    try with_reducible rfl
   try simp only [Act.put, List.setIfInBounds_toArray, List.set_cons_zero, List.set_cons_succ]
   refine wpAnyH_take (i := 2) (oi := { dst := some 18, op := Op.load 26 (Operand.tmp 17), type := 26, pos := "l03_normal.go:164", after := #[{ on := 1, ground := Ground.data }], guard := none }) (v := ?_) rfl (by kernel_rfl) (by kernel_rfl) (by kernel_rfl) (fun _ _ _ h => h) (Or.inl ⟨by rfl, ?_⟩) (by assumption) ?_
   rotate_left
   ·intro w hSw
    (try dsimp only at hSw)
    go_simp
    try with_reducible rfl
   try simp only [Act.put, List.setIfInBounds_toArray, List.set_cons_zero, List.set_cons_succ]
   refine wpAnyH_take (i := 3) (oi := { dst := some 19, op := Op.move (Operand.tmp 4), type := 3, pos := "l03_normal.go:164", after := #[], guard := none }) (v := ?_) rfl (by kernel_rfl) (by kernel_rfl) (by kernel_rfl) (fun _ _ _ h => h) (Or.inl ⟨by rfl, ?_⟩) (by assumption) ?_
   rotate_left
   ·intro w hSw
    (try dsimp only at hSw)
    go_simp
    try with_reducible rfl
   try simp only [Act.put, List.setIfInBounds_toArray, List.set_cons_zero, List.set_cons_succ]
   refine wpAnyH_take (i := 4) (oi := { dst := some 20, op := Op.indexAddr 26 (Operand.tmp 18) (Operand.tmp 19), type := 0, pos := "l03_normal.go:164", after := #[{ on := 2, ground := Ground.data }, { on := 3, ground := Ground.data }], guard := none }) (v := ?_) rfl (by kernel_rfl) (by kernel_rfl) (by kernel_rfl) (fun _ _ _ h => h) (Or.inl ⟨by rfl, ?_⟩) (by assumption) ?_
   rotate_left
   ·intro w hSw
    (try dsimp only at hSw)
    go_simp
    try with_reducible rfl
   try simp only [Act.put, List.setIfInBounds_toArray, List.set_cons_zero, List.set_cons_succ]
   refine wpAnyH_take (i := 5) (oi := { dst := some 21, op := Op.load 54 (Operand.tmp 20), type := 54, pos := "l03_normal.go:164", after := #[{ on := 4, ground := Ground.data }], guard := none }) (v := ?_) rfl (by kernel_rfl) (by kernel_rfl) (by kernel_rfl) (fun _ _ _ h => h) (Or.inl ⟨by rfl, ?_⟩) (by assumption) ?_
   rotate_left
   ·intro w hSw
    (try dsimp only at hSw)
    go_simp
    try with_reducible rfl
   try simp only [Act.put, List.setIfInBounds_toArray, List.set_cons_zero, List.set_cons_succ]
   refine wpAnyH_ready (rs := [0]) (by kernel_rfl) (by simp) ?_
   refine AllReadyH.cons (o := { dst := some 16, op := Op.load 28 (Operand.tmp 3), type := 28, pos := "l03_normal.go:164", after := #[], guard := none }) rfl (fun K hK => ?_) ?_
   ·go_simp
    refine hK.out _ _ ?_ (fun hHeld => ?_)
    ·(first | with_reducible exact SH.out _ KB.out | with_reducible exact SZ.out _ KB.out _ _ _)
    clear hK K
    try simp only [Act.put, List.setIfInBounds_toArray, List.set_cons_zero, List.set_cons_succ]
    refine wpAnyH_ready (rs := [6]) (by kernel_rfl) (by simp) ?_
    refine AllReadyH.cons (o := { dst := some 22, op := Op.call { callee := Callee.value (Operand.func 68), args := #[Operand.tmp 16, Operand.tmp 21, Operand.const (Value.bool true)], argTypes := #[28, 54, 4] }, type := 28, pos := "l03_normal.go:164", after := #[{ on := 0, ground := Ground.data }, { on := 5, ground := Ground.data }], guard := none }) rfl (fun K hK => ?_) ?_
    ·go_simp
     refine (l03Times_neg m m1 m8 (-(no : Int)) (by omega) _ no co (invL m (l.drop (k + 1))) row _ (F.out.own.reads.below KB.out) (invL_nl (HL.out.drop (k + 1))).sims SR.out (by omega) (-(no : Int) - 1) (invL m (l.drop k)) HST.out).mono ?_
     rintro e w6 ⟨a6, n6, c6, rfl, ho, gg⟩
     have hn6 : n6 = no + 1 := by have h1 := ho.len; rw [invL_len, List.length_drop, HN.out] at h1; omega
     subst hn6
     have R := Lib.hid (ho.mono KB.out.size)
     replace KB := Lib.hid (below_go KB.out gg KB.out.size)
     clear ho gg x0 x1 x2 x3 y1 y2 y3
     obtain ⟨x0, ⟨x1, x2, x3⟩, y1, y2, y3⟩ := F.out.out.below KB.out
     go_wp2_with fail
     refine hK.out _ _ ?_ (fun hHeld => ?_)
     ·(first | with_reducible exact SH.out _ KB.out | with_reducible exact SZ.out _ KB.out _ _ _)
     clear hK K
     try simp only [Act.put, List.setIfInBounds_toArray, List.set_cons_zero, List.set_cons_succ]
     refine wpAnyH_ready (rs := [7]) (by kernel_rfl) (by simp) ?_
     refine AllReadyH.cons (o := { dst := none, op := Op.store 28 (Operand.tmp 3) (Operand.tmp 22), type := 0, pos := "l03_normal.go:164", after := #[{ on := 6, ground := Ground.data }, { on := 6, ground := Ground.chain }, { on := 0, ground := Ground.phase }, { on := 1, ground := Ground.phase }, { on := 2, ground := Ground.phase }, { on := 3, ground := Ground.phase }, { on := 4, ground := Ground.phase }, { on := 5, ground := Ground.phase }, { on := 6, ground := Ground.phase }], guard := none }) rfl (fun K hK => ?_) ?_
     ·go_simp
      refine hK.out _ _ ?_ (fun hHeld => ?_)
      ·(first | with_reducible exact SH.out _ KB.out | with_reducible exact SZ.out _ KB.out _ _ _)
      clear hK K
      try simp only [Act.put, List.setIfInBounds_toArray, List.set_cons_zero, List.set_cons_succ]
      refine wpAnyH_done (by kernel_rfl) ?_ _
      go_wp2_with fail
      go_roundg k
      case measure => omega
      case rel =>
       have hsz := HSZ.out
       refine ⟨k, a6, no + 1, c6, rfl, by omega, by go_num, by omega, ?_⟩
       rw [show (-(((no + 1 : Nat)) : Int)) = -(no : Int) - 1 by omega]
       exact ⟨(F.out.box.below KB.out).set3 (by omega) _ _ _, (F.out.res.below KB.out).set3 (by omega) _ _ _, (F.out.out.below KB.out).fill _ _ _, (R.out.set3 (by omega) _ _ _).mono (by omega), below_set3 (F.out.bel.trans (KB.out.mono (by omega))) (by omega) _ _ _, by have := KB.out.size; simp [World.setCell]; omega⟩
     exact AllReadyH.nil
    exact AllReadyH.nil
   exact AllReadyH.nil

end Go.Proofs.Ytleoohplnkdbdab

