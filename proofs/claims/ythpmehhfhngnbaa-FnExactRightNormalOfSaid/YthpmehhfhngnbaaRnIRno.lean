/- slices.Reverse over rows. -/
import Derived.Test.YthpmehhfhngnbaaRnIRev
namespace Go.Proofs.Ythpmehhfhngnbaa
open Go.RowKit Go.ChangeShapes

set_option maxRecDepth 100000 in
set_option maxHeartbeats 600000 in
theorem reverse_any (g off n cap : Nat) (rs : List (List Int)) (w : World) (h0 : 0 < n) (hn : n ≤ 1048576) (hr : RowsAt w g off n rs) :
  Calls Try.prog 64 #[.slice (some ⟨g, off, none⟩) n cap] w (fun e w' => e = .returned (.tuple #[]) ∧ RowsAt w' g off n rs.reverse ∧ But g w w') := by
 have HL : Hid (rs.length = n) := Lib.hid hr.2.1
 have R0 := Lib.hid hr; clear hr
 go_enter Try.func64, Try.ntmps64
 go_wp2_with fail
 go_loopw [2, 3] (fun i j wr => ∃ t cur, t + t ≤ n ∧ i = .int .i64 (t : Nat) ∧ j = .int .i64 ((n : Int) - 1 - (t : Nat)) ∧ RowsAt wr g off n cur ∧ (∀ q, q < n → rowAt cur q = if q < t ∨ n - 1 - t < q then rowAt rs (n - 1 - q) else rowAt rs q) ∧ But g w wr) (fun _ j _ => (intOf j + 1).toNat)
 case atStart => exact ⟨0, rs, by omega, by simp, by go_num, R0.out, fun q hq => by rw [if_neg (by omega)], But.refl _ _⟩
 case round =>
  obtain ⟨t, cur, ht, rfl, rfl, hR, hq, hB⟩ := hrel
  have R1 := Lib.hid hR
  have HQ := Lib.hid hq
  have HB := Lib.hid hB
  clear hR hq hB
  by_cases hlt : t + t + 1 < n
  ·obtain ⟨u, hu⟩ : ∃ u, u = n - 1 - t := ⟨_, rfl⟩
   have hju : ((n : Int) - 1 - (t : Int)) = (u : Int) := by omega
   have hun : u < n := by omega
   have htu : t < u := by omega
   have htn : t < n := by omega
   have HU := Lib.hid hu; clear hu
   rw [hju]
   have hmx : Try.prog.follows .mixedOrders = true := by kernel_rfl
   go_upto_region 3 with fail
   have RD : Hid (RowsAt wr g off n cur) := Lib.hid R1.out
   have BD : Hid (But g w wr) := Lib.hid HB.out
   have HTL : Hid ((rowAt cur t).length = 8) := Lib.hid (R1.out.1.at (j := t) (by rw [R1.out.2.1]; omega))
   have HUL : Hid ((rowAt cur u).length = 8) := Lib.hid (R1.out.1.at (j := u) (by rw [R1.out.2.1]; omega))
   refine wp_region_held_drew (S := (fun _ => True)) (by kernel_rfl) ?_ (fun hHeld => ?_)
   ·trivial
   refine wpAnyH_take (i := 0) (oi := { dst := some 14, op := Op.move (Operand.tmp 0), type := 26, pos := "slices.go:485", after := #[], guard := none }) (v := ?_) rfl (by kernel_rfl) (by kernel_rfl) (by kernel_rfl) (fun _ _ _ h => h) (Or.inl ⟨by rfl, ?_⟩) (by assumption) ?_
   rotate_left
   ·intro w hSw
    (try dsimp only at hSw)
    go_simp
    try with_reducible rfl
   try simp only [Act.put, List.setIfInBounds_toArray, List.set_cons_zero, List.set_cons_succ]
   refine wpAnyH_take (i := 1) (oi := { dst := some 15, op := Op.move (Operand.tmp 2), type := 3, pos := "slices.go:485", after := #[], guard := none }) (v := ?_) rfl (by kernel_rfl) (by kernel_rfl) (by kernel_rfl) (fun _ _ _ h => h) (Or.inl ⟨by rfl, ?_⟩) (by assumption) ?_
   rotate_left
   ·intro w hSw
    (try dsimp only at hSw)
    go_simp
    try with_reducible rfl
   try simp only [Act.put, List.setIfInBounds_toArray, List.set_cons_zero, List.set_cons_succ]
   refine wpAnyH_take (i := 2) (oi := { dst := some 16, op := Op.move (Operand.tmp 0), type := 26, pos := "slices.go:485", after := #[{ on := 13, ground := Ground.gcOnly Departure.lateStores }], guard := none }) (v := ?_) rfl (by kernel_rfl) (by kernel_rfl) (by kernel_rfl) (fun _ _ _ h => h) (Or.inl ⟨by rfl, ?_⟩) (by assumption) ?_
   rotate_left
   ·intro w hSw
    (try dsimp only at hSw)
    go_simp
    try with_reducible rfl
   try simp only [Act.put, List.setIfInBounds_toArray, List.set_cons_zero, List.set_cons_succ]
   refine wpAnyH_take (i := 3) (oi := { dst := some 17, op := Op.move (Operand.tmp 3), type := 3, pos := "slices.go:485", after := #[{ on := 13, ground := Ground.gcOnly Departure.lateStores }], guard := none }) (v := ?_) rfl (by kernel_rfl) (by kernel_rfl) (by kernel_rfl) (fun _ _ _ h => h) (Or.inl ⟨by rfl, ?_⟩) (by assumption) ?_
   rotate_left
   ·intro w hSw
    (try dsimp only at hSw)
    go_simp
    try with_reducible rfl
   try simp only [Act.put, List.setIfInBounds_toArray, List.set_cons_zero, List.set_cons_succ]
   refine wpAnyH_take (i := 4) (oi := { dst := some 18, op := Op.move (Operand.tmp 0), type := 26, pos := "slices.go:485", after := #[], guard := none }) (v := ?_) rfl (by kernel_rfl) (by kernel_rfl) (by kernel_rfl) (fun _ _ _ h => h) (Or.inl ⟨by rfl, ?_⟩) (by assumption) ?_
   rotate_left
   ·intro w hSw
    (try dsimp only at hSw)
    go_simp
    try with_reducible rfl
   try simp only [Act.put, List.setIfInBounds_toArray, List.set_cons_zero, List.set_cons_succ]
   refine wpAnyH_take (i := 5) (oi := { dst := some 19, op := Op.move (Operand.tmp 3), type := 3, pos := "slices.go:485", after := #[], guard := none }) (v := ?_) rfl (by kernel_rfl) (by kernel_rfl) (by kernel_rfl) (fun _ _ _ h => h) (Or.inl ⟨by rfl, ?_⟩) (by assumption) ?_
   rotate_left
   ·intro w hSw
    (try dsimp only at hSw)
    go_simp
    try with_reducible rfl
   try simp only [Act.put, List.setIfInBounds_toArray, List.set_cons_zero, List.set_cons_succ]
   refine wpAnyH_take (i := 6) (oi := { dst := some 20, op := Op.indexAddr 26 (Operand.tmp 18) (Operand.tmp 19), type := 0, pos := "slices.go:485", after := #[{ on := 4, ground := Ground.data }, { on := 5, ground := Ground.data }], guard := none }) (v := ?_) rfl (by kernel_rfl) (by kernel_rfl) (by kernel_rfl) (fun _ _ _ h => h) (Or.inl ⟨by rfl, ?_⟩) (by assumption) ?_
   rotate_left
   ·intro w hSw
    (try dsimp only at hSw)
    go_simp
    try with_reducible rfl
   try simp only [Act.put, List.setIfInBounds_toArray, List.set_cons_zero, List.set_cons_succ]
   refine wpAnyH_take (i := 8) (oi := { dst := some 22, op := Op.move (Operand.tmp 0), type := 26, pos := "slices.go:485", after := #[], guard := none }) (v := ?_) rfl (by kernel_rfl) (by kernel_rfl) (by kernel_rfl) (fun _ _ _ h => h) (Or.inl ⟨by rfl, ?_⟩) (by assumption) ?_
   rotate_left
   ·intro w hSw
    (try dsimp only at hSw)
    go_simp
    try with_reducible rfl
   try simp only [Act.put, List.setIfInBounds_toArray, List.set_cons_zero, List.set_cons_succ]
   refine wpAnyH_take (i := 9) (oi := { dst := some 23, op := Op.move (Operand.tmp 2), type := 3, pos := "slices.go:485", after := #[], guard := none }) (v := ?_) rfl (by kernel_rfl) (by kernel_rfl) (by kernel_rfl) (fun _ _ _ h => h) (Or.inl ⟨by rfl, ?_⟩) (by assumption) ?_
   rotate_left
   ·intro w hSw
    (try dsimp only at hSw)
    go_simp
    try with_reducible rfl
   try simp only [Act.put, List.setIfInBounds_toArray, List.set_cons_zero, List.set_cons_succ]
   refine wpAnyH_take (i := 10) (oi := { dst := some 24, op := Op.indexAddr 26 (Operand.tmp 22) (Operand.tmp 23), type := 0, pos := "slices.go:485", after := #[{ on := 8, ground := Ground.data }, { on := 9, ground := Ground.data }], guard := none }) (v := ?_) rfl (by kernel_rfl) (by kernel_rfl) (by kernel_rfl) (fun _ _ _ h => h) (Or.inl ⟨by rfl, ?_⟩) (by assumption) ?_
   rotate_left
   ·intro w hSw
    (try dsimp only at hSw)
    go_simp
    try with_reducible rfl
   try simp only [Act.put, List.setIfInBounds_toArray, List.set_cons_zero, List.set_cons_succ]
   refine wpAnyH_ready (rs := [7, 11]) (by kernel_rfl) (by simp) ?_
   refine AllReadyH.cons (o := { dst := some 21, op := Op.load 78 (Operand.tmp 20), type := 78, pos := "slices.go:485", after := #[{ on := 6, ground := Ground.data }], guard := none }) rfl (fun K hK => ?_) ?_
   ·obtain ⟨z0, z1, z2, z3, z4, z5, z6, z7⟩ := (RD.out.2.2.2.1 u (by omega)).flat
    go_simp
    clear z0 z1 z2 z3 z4 z5 z6 z7
    refine hK.out _ _ ?_ (fun hHeld => ?_)
    ·trivial
    clear hK K
    try simp only [Act.put, List.setIfInBounds_toArray, List.set_cons_zero, List.set_cons_succ]
    refine wpAnyH_ready (rs := [11]) (by kernel_rfl) (by simp) ?_
    refine AllReadyH.cons (o := { dst := some 25, op := Op.load 78 (Operand.tmp 24), type := 78, pos := "slices.go:485", after := #[{ on := 10, ground := Ground.data }], guard := none }) rfl (fun K hK => ?_) ?_
    ·obtain ⟨z0, z1, z2, z3, z4, z5, z6, z7⟩ := (RD.out.2.2.2.1 t (by omega)).flat
     go_simp
     clear z0 z1 z2 z3 z4 z5 z6 z7
     refine hK.out _ _ ?_ (fun hHeld => ?_)
     ·trivial
     clear hK K
     try simp only [Act.put, List.setIfInBounds_toArray, List.set_cons_zero, List.set_cons_succ]
     refine wpAnyH_take (i := 12) (oi := { dst := some 26, op := Op.indexAddr 26 (Operand.tmp 14) (Operand.tmp 15), type := 0, pos := "slices.go:485", after := #[{ on := 0, ground := Ground.data }, { on := 1, ground := Ground.data }, { on := 0, ground := Ground.phase }, { on := 1, ground := Ground.phase }, { on := 2, ground := Ground.textOnly Departure.lateStores }, { on := 3, ground := Ground.textOnly Departure.lateStores }, { on := 4, ground := Ground.phase }, { on := 5, ground := Ground.phase }, { on := 6, ground := Ground.phase }, { on := 7, ground := Ground.phase }, { on := 8, ground := Ground.textOnly Departure.lateStores }, { on := 9, ground := Ground.textOnly Departure.lateStores }, { on := 10, ground := Ground.textOnly Departure.lateStoresUnsure }, { on := 11, ground := Ground.phase }], guard := none }) (v := ?_) rfl (by kernel_rfl) (by kernel_rfl) (by kernel_rfl) (fun _ _ _ h => h) (Or.inl ⟨by rfl, ?_⟩) (by assumption) ?_
     rotate_left
     ·intro w hSw
      (try dsimp only at hSw)
      go_simp
      try with_reducible rfl
     try simp only [Act.put, List.setIfInBounds_toArray, List.set_cons_zero, List.set_cons_succ]
     refine wpAnyH_ready (rs := [13]) (by kernel_rfl) (by simp) ?_
     refine AllReadyH.cons (o := { dst := none, op := Op.store 78 (Operand.tmp 26) (Operand.tmp 21), type := 0, pos := "slices.go:485", after := #[{ on := 12, ground := Ground.data }, { on := 7, ground := Ground.data }, { on := 0, ground := Ground.phase }, { on := 1, ground := Ground.phase }, { on := 2, ground := Ground.textOnly Departure.lateStores }, { on := 3, ground := Ground.textOnly Departure.lateStores }, { on := 4, ground := Ground.phase }, { on := 5, ground := Ground.phase }, { on := 6, ground := Ground.phase }, { on := 7, ground := Ground.phase }, { on := 8, ground := Ground.textOnly Departure.lateStores }, { on := 9, ground := Ground.textOnly Departure.lateStores }, { on := 10, ground := Ground.textOnly Departure.lateStoresUnsure }, { on := 11, ground := Ground.phase }], guard := none }) rfl (fun K hK => ?_) ?_
     ·obtain ⟨z0, z1, z2, z3, z4, z5, z6, z7⟩ := (RD.out.2.2.2.1 t (by omega)).flat
      have fz := RD.out.2.2.2.2
      go_simp
      clear z0 z1 z2 z3 z4 z5 z6 z7 fz
      have R2 : Hid (RowsAt (((((((((wr.setCell ⟨g, off + t * 8, none⟩ (.int .u8 (at8 (rowAt cur u) 0))).setCell ⟨g, off + t * 8 + 1, none⟩ (.int .u8 (at8 (rowAt cur u) 1))).setCell ⟨g, off + t * 8 + 2, none⟩ (.int .u8 (at8 (rowAt cur u) 2))).setCell ⟨g, off + t * 8 + 3, none⟩ (.int .u8 (at8 (rowAt cur u) 3))).setCell ⟨g, off + t * 8 + 4, none⟩ (.int .u8 (at8 (rowAt cur u) 4))).setCell ⟨g, off + t * 8 + 5, none⟩ (.int .u8 (at8 (rowAt cur u) 5))).setCell ⟨g, off + t * 8 + 6, none⟩ (.int .u8 (at8 (rowAt cur u) 6))).setCell ⟨g, off + t * 8 + 7, none⟩ (.int .u8 (at8 (rowAt cur u) 7))).drew) g off n (cur.set t (rowAt cur u))) := Lib.hid (RD.out.store t (by omega) (rowAt cur u) HUL.out).drew
      have B2 : Hid (But g w (((((((((wr.setCell ⟨g, off + t * 8, none⟩ (.int .u8 (at8 (rowAt cur u) 0))).setCell ⟨g, off + t * 8 + 1, none⟩ (.int .u8 (at8 (rowAt cur u) 1))).setCell ⟨g, off + t * 8 + 2, none⟩ (.int .u8 (at8 (rowAt cur u) 2))).setCell ⟨g, off + t * 8 + 3, none⟩ (.int .u8 (at8 (rowAt cur u) 3))).setCell ⟨g, off + t * 8 + 4, none⟩ (.int .u8 (at8 (rowAt cur u) 4))).setCell ⟨g, off + t * 8 + 5, none⟩ (.int .u8 (at8 (rowAt cur u) 5))).setCell ⟨g, off + t * 8 + 6, none⟩ (.int .u8 (at8 (rowAt cur u) 6))).setCell ⟨g, off + t * 8 + 7, none⟩ (.int .u8 (at8 (rowAt cur u) 7))).drew)) := Lib.hid (BD.out.set8 _ _ _ _ _ _ _ _ _).drew
      generalize (((((((((wr.setCell ⟨g, off + t * 8, none⟩ (.int .u8 (at8 (rowAt cur u) 0))).setCell ⟨g, off + t * 8 + 1, none⟩ (.int .u8 (at8 (rowAt cur u) 1))).setCell ⟨g, off + t * 8 + 2, none⟩ (.int .u8 (at8 (rowAt cur u) 2))).setCell ⟨g, off + t * 8 + 3, none⟩ (.int .u8 (at8 (rowAt cur u) 3))).setCell ⟨g, off + t * 8 + 4, none⟩ (.int .u8 (at8 (rowAt cur u) 4))).setCell ⟨g, off + t * 8 + 5, none⟩ (.int .u8 (at8 (rowAt cur u) 5))).setCell ⟨g, off + t * 8 + 6, none⟩ (.int .u8 (at8 (rowAt cur u) 6))).setCell ⟨g, off + t * 8 + 7, none⟩ (.int .u8 (at8 (rowAt cur u) 7))).drew) = V1 at R2 B2 ⊢
      refine hK.out _ _ ?_ (fun hHeld => ?_)
      ·trivial
      clear hK K
      try simp only [Act.put, List.setIfInBounds_toArray, List.set_cons_zero, List.set_cons_succ]
      refine wpAnyH_take (i := 14) (oi := { dst := some 27, op := Op.indexAddr 26 (Operand.tmp 16) (Operand.tmp 17), type := 0, pos := "slices.go:485", after := #[{ on := 2, ground := Ground.data }, { on := 3, ground := Ground.data }, { on := 0, ground := Ground.phase }, { on := 1, ground := Ground.phase }, { on := 2, ground := Ground.phase }, { on := 3, ground := Ground.phase }, { on := 4, ground := Ground.phase }, { on := 5, ground := Ground.phase }, { on := 6, ground := Ground.phase }, { on := 7, ground := Ground.phase }, { on := 8, ground := Ground.phase }, { on := 9, ground := Ground.phase }, { on := 10, ground := Ground.phase }, { on := 11, ground := Ground.phase }, { on := 12, ground := Ground.phase }, { on := 13, ground := Ground.phase }], guard := none }) (v := ?_) rfl (by kernel_rfl) (by kernel_rfl) (by kernel_rfl) (fun _ _ _ h => h) (Or.inl ⟨by rfl, ?_⟩) (by assumption) ?_
      rotate_left
      ·intro w hSw
       (try dsimp only at hSw)
       go_simp
       try with_reducible rfl
      try simp only [Act.put, List.setIfInBounds_toArray, List.set_cons_zero, List.set_cons_succ]
      refine wpAnyH_ready (rs := [15]) (by kernel_rfl) (by simp) ?_
      refine AllReadyH.cons (o := { dst := none, op := Op.store 78 (Operand.tmp 27) (Operand.tmp 25), type := 0, pos := "slices.go:485", after := #[{ on := 14, ground := Ground.data }, { on := 11, ground := Ground.data }, { on := 13, ground := Ground.chain }, { on := 0, ground := Ground.phase }, { on := 1, ground := Ground.phase }, { on := 2, ground := Ground.phase }, { on := 3, ground := Ground.phase }, { on := 4, ground := Ground.phase }, { on := 5, ground := Ground.phase }, { on := 6, ground := Ground.phase }, { on := 7, ground := Ground.phase }, { on := 8, ground := Ground.phase }, { on := 9, ground := Ground.phase }, { on := 10, ground := Ground.phase }, { on := 11, ground := Ground.phase }, { on := 12, ground := Ground.phase }, { on := 13, ground := Ground.phase }], guard := none }) rfl (fun K hK => ?_) ?_
      ·obtain ⟨z0, z1, z2, z3, z4, z5, z6, z7⟩ := (R2.out.2.2.2.1 u (by omega)).flat
       have fz := R2.out.2.2.2.2
       go_simp
       clear z0 z1 z2 z3 z4 z5 z6 z7 fz
       have R3 : Hid (RowsAt ((((((((V1.setCell ⟨g, off + u * 8, none⟩ (.int .u8 (at8 (rowAt cur t) 0))).setCell ⟨g, off + u * 8 + 1, none⟩ (.int .u8 (at8 (rowAt cur t) 1))).setCell ⟨g, off + u * 8 + 2, none⟩ (.int .u8 (at8 (rowAt cur t) 2))).setCell ⟨g, off + u * 8 + 3, none⟩ (.int .u8 (at8 (rowAt cur t) 3))).setCell ⟨g, off + u * 8 + 4, none⟩ (.int .u8 (at8 (rowAt cur t) 4))).setCell ⟨g, off + u * 8 + 5, none⟩ (.int .u8 (at8 (rowAt cur t) 5))).setCell ⟨g, off + u * 8 + 6, none⟩ (.int .u8 (at8 (rowAt cur t) 6))).setCell ⟨g, off + u * 8 + 7, none⟩ (.int .u8 (at8 (rowAt cur t) 7))) g off n ((cur.set t (rowAt cur u)).set u (rowAt cur t))) := Lib.hid (R2.out.store u (by omega) (rowAt cur t) HTL.out)
       have B3 : Hid (But g w ((((((((V1.setCell ⟨g, off + u * 8, none⟩ (.int .u8 (at8 (rowAt cur t) 0))).setCell ⟨g, off + u * 8 + 1, none⟩ (.int .u8 (at8 (rowAt cur t) 1))).setCell ⟨g, off + u * 8 + 2, none⟩ (.int .u8 (at8 (rowAt cur t) 2))).setCell ⟨g, off + u * 8 + 3, none⟩ (.int .u8 (at8 (rowAt cur t) 3))).setCell ⟨g, off + u * 8 + 4, none⟩ (.int .u8 (at8 (rowAt cur t) 4))).setCell ⟨g, off + u * 8 + 5, none⟩ (.int .u8 (at8 (rowAt cur t) 5))).setCell ⟨g, off + u * 8 + 6, none⟩ (.int .u8 (at8 (rowAt cur t) 6))).setCell ⟨g, off + u * 8 + 7, none⟩ (.int .u8 (at8 (rowAt cur t) 7)))) := Lib.hid (B2.out.set8 _ _ _ _ _ _ _ _ _)
       generalize ((((((((V1.setCell ⟨g, off + u * 8, none⟩ (.int .u8 (at8 (rowAt cur t) 0))).setCell ⟨g, off + u * 8 + 1, none⟩ (.int .u8 (at8 (rowAt cur t) 1))).setCell ⟨g, off + u * 8 + 2, none⟩ (.int .u8 (at8 (rowAt cur t) 2))).setCell ⟨g, off + u * 8 + 3, none⟩ (.int .u8 (at8 (rowAt cur t) 3))).setCell ⟨g, off + u * 8 + 4, none⟩ (.int .u8 (at8 (rowAt cur t) 4))).setCell ⟨g, off + u * 8 + 5, none⟩ (.int .u8 (at8 (rowAt cur t) 5))).setCell ⟨g, off + u * 8 + 6, none⟩ (.int .u8 (at8 (rowAt cur t) 6))).setCell ⟨g, off + u * 8 + 7, none⟩ (.int .u8 (at8 (rowAt cur t) 7))) = V2 at R3 B3 ⊢
       refine hK.out _ _ ?_ (fun hHeld => ?_)
       ·trivial
       clear hK K
       try simp only [Act.put, List.setIfInBounds_toArray, List.set_cons_zero, List.set_cons_succ]
       refine wpAnyH_done (by kernel_rfl) ?_ _
       go_wp2
       go_roundw
       case measure => simp [intOf]
       case rel =>
        refine ⟨t + 1, _, by omega, by go_num, by go_num, R3.out, ?_, B3.out⟩
        have h9 := rev_more (rs := rs) (t := t) R1.out.2.1 (by omega) HQ.out
        rw [← HU.out] at h9
        exact h9
      exact AllReadyH.nil
     exact AllReadyH.nil
    exact AllReadyH.nil
   refine AllReadyH.cons (o := { dst := some 25, op := Op.load 78 (Operand.tmp 24), type := 78, pos := "slices.go:485", after := #[{ on := 10, ground := Ground.data }], guard := none }) rfl (fun K hK => ?_) ?_
   ·obtain ⟨z0, z1, z2, z3, z4, z5, z6, z7⟩ := (RD.out.2.2.2.1 t (by omega)).flat
    go_simp
    clear z0 z1 z2 z3 z4 z5 z6 z7
    refine hK.out _ _ ?_ (fun hHeld => ?_)
    ·trivial
    clear hK K
    try simp only [Act.put, List.setIfInBounds_toArray, List.set_cons_zero, List.set_cons_succ]
    refine wpAnyH_ready (rs := [7]) (by kernel_rfl) (by simp) ?_
    refine AllReadyH.cons (o := { dst := some 21, op := Op.load 78 (Operand.tmp 20), type := 78, pos := "slices.go:485", after := #[{ on := 6, ground := Ground.data }], guard := none }) rfl (fun K hK => ?_) ?_
    ·obtain ⟨z0, z1, z2, z3, z4, z5, z6, z7⟩ := (RD.out.2.2.2.1 u (by omega)).flat
     go_simp
     clear z0 z1 z2 z3 z4 z5 z6 z7
     refine hK.out _ _ ?_ (fun hHeld => ?_)
     ·trivial
     clear hK K
     try simp only [Act.put, List.setIfInBounds_toArray, List.set_cons_zero, List.set_cons_succ]
     refine wpAnyH_take (i := 12) (oi := { dst := some 26, op := Op.indexAddr 26 (Operand.tmp 14) (Operand.tmp 15), type := 0, pos := "slices.go:485", after := #[{ on := 0, ground := Ground.data }, { on := 1, ground := Ground.data }, { on := 0, ground := Ground.phase }, { on := 1, ground := Ground.phase }, { on := 2, ground := Ground.textOnly Departure.lateStores }, { on := 3, ground := Ground.textOnly Departure.lateStores }, { on := 4, ground := Ground.phase }, { on := 5, ground := Ground.phase }, { on := 6, ground := Ground.phase }, { on := 7, ground := Ground.phase }, { on := 8, ground := Ground.textOnly Departure.lateStores }, { on := 9, ground := Ground.textOnly Departure.lateStores }, { on := 10, ground := Ground.textOnly Departure.lateStoresUnsure }, { on := 11, ground := Ground.phase }], guard := none }) (v := ?_) rfl (by kernel_rfl) (by kernel_rfl) (by kernel_rfl) (fun _ _ _ h => h) (Or.inl ⟨by rfl, ?_⟩) (by assumption) ?_
     rotate_left
     ·intro w hSw
      (try dsimp only at hSw)
      go_simp
      try with_reducible rfl
     try simp only [Act.put, List.setIfInBounds_toArray, List.set_cons_zero, List.set_cons_succ]
     refine wpAnyH_ready (rs := [13]) (by kernel_rfl) (by simp) ?_
     refine AllReadyH.cons (o := { dst := none, op := Op.store 78 (Operand.tmp 26) (Operand.tmp 21), type := 0, pos := "slices.go:485", after := #[{ on := 12, ground := Ground.data }, { on := 7, ground := Ground.data }, { on := 0, ground := Ground.phase }, { on := 1, ground := Ground.phase }, { on := 2, ground := Ground.textOnly Departure.lateStores }, { on := 3, ground := Ground.textOnly Departure.lateStores }, { on := 4, ground := Ground.phase }, { on := 5, ground := Ground.phase }, { on := 6, ground := Ground.phase }, { on := 7, ground := Ground.phase }, { on := 8, ground := Ground.textOnly Departure.lateStores }, { on := 9, ground := Ground.textOnly Departure.lateStores }, { on := 10, ground := Ground.textOnly Departure.lateStoresUnsure }, { on := 11, ground := Ground.phase }], guard := none }) rfl (fun K hK => ?_) ?_
     ·obtain ⟨z0, z1, z2, z3, z4, z5, z6, z7⟩ := (RD.out.2.2.2.1 t (by omega)).flat
      have fz := RD.out.2.2.2.2
      go_simp
      clear z0 z1 z2 z3 z4 z5 z6 z7 fz
      have R2 : Hid (RowsAt (((((((((wr.setCell ⟨g, off + t * 8, none⟩ (.int .u8 (at8 (rowAt cur u) 0))).setCell ⟨g, off + t * 8 + 1, none⟩ (.int .u8 (at8 (rowAt cur u) 1))).setCell ⟨g, off + t * 8 + 2, none⟩ (.int .u8 (at8 (rowAt cur u) 2))).setCell ⟨g, off + t * 8 + 3, none⟩ (.int .u8 (at8 (rowAt cur u) 3))).setCell ⟨g, off + t * 8 + 4, none⟩ (.int .u8 (at8 (rowAt cur u) 4))).setCell ⟨g, off + t * 8 + 5, none⟩ (.int .u8 (at8 (rowAt cur u) 5))).setCell ⟨g, off + t * 8 + 6, none⟩ (.int .u8 (at8 (rowAt cur u) 6))).setCell ⟨g, off + t * 8 + 7, none⟩ (.int .u8 (at8 (rowAt cur u) 7))).drew) g off n (cur.set t (rowAt cur u))) := Lib.hid (RD.out.store t (by omega) (rowAt cur u) HUL.out).drew
      have B2 : Hid (But g w (((((((((wr.setCell ⟨g, off + t * 8, none⟩ (.int .u8 (at8 (rowAt cur u) 0))).setCell ⟨g, off + t * 8 + 1, none⟩ (.int .u8 (at8 (rowAt cur u) 1))).setCell ⟨g, off + t * 8 + 2, none⟩ (.int .u8 (at8 (rowAt cur u) 2))).setCell ⟨g, off + t * 8 + 3, none⟩ (.int .u8 (at8 (rowAt cur u) 3))).setCell ⟨g, off + t * 8 + 4, none⟩ (.int .u8 (at8 (rowAt cur u) 4))).setCell ⟨g, off + t * 8 + 5, none⟩ (.int .u8 (at8 (rowAt cur u) 5))).setCell ⟨g, off + t * 8 + 6, none⟩ (.int .u8 (at8 (rowAt cur u) 6))).setCell ⟨g, off + t * 8 + 7, none⟩ (.int .u8 (at8 (rowAt cur u) 7))).drew)) := Lib.hid (BD.out.set8 _ _ _ _ _ _ _ _ _).drew
      generalize (((((((((wr.setCell ⟨g, off + t * 8, none⟩ (.int .u8 (at8 (rowAt cur u) 0))).setCell ⟨g, off + t * 8 + 1, none⟩ (.int .u8 (at8 (rowAt cur u) 1))).setCell ⟨g, off + t * 8 + 2, none⟩ (.int .u8 (at8 (rowAt cur u) 2))).setCell ⟨g, off + t * 8 + 3, none⟩ (.int .u8 (at8 (rowAt cur u) 3))).setCell ⟨g, off + t * 8 + 4, none⟩ (.int .u8 (at8 (rowAt cur u) 4))).setCell ⟨g, off + t * 8 + 5, none⟩ (.int .u8 (at8 (rowAt cur u) 5))).setCell ⟨g, off + t * 8 + 6, none⟩ (.int .u8 (at8 (rowAt cur u) 6))).setCell ⟨g, off + t * 8 + 7, none⟩ (.int .u8 (at8 (rowAt cur u) 7))).drew) = V1 at R2 B2 ⊢
      refine hK.out _ _ ?_ (fun hHeld => ?_)
      ·trivial
      clear hK K
      try simp only [Act.put, List.setIfInBounds_toArray, List.set_cons_zero, List.set_cons_succ]
      refine wpAnyH_take (i := 14) (oi := { dst := some 27, op := Op.indexAddr 26 (Operand.tmp 16) (Operand.tmp 17), type := 0, pos := "slices.go:485", after := #[{ on := 2, ground := Ground.data }, { on := 3, ground := Ground.data }, { on := 0, ground := Ground.phase }, { on := 1, ground := Ground.phase }, { on := 2, ground := Ground.phase }, { on := 3, ground := Ground.phase }, { on := 4, ground := Ground.phase }, { on := 5, ground := Ground.phase }, { on := 6, ground := Ground.phase }, { on := 7, ground := Ground.phase }, { on := 8, ground := Ground.phase }, { on := 9, ground := Ground.phase }, { on := 10, ground := Ground.phase }, { on := 11, ground := Ground.phase }, { on := 12, ground := Ground.phase }, { on := 13, ground := Ground.phase }], guard := none }) (v := ?_) rfl (by kernel_rfl) (by kernel_rfl) (by kernel_rfl) (fun _ _ _ h => h) (Or.inl ⟨by rfl, ?_⟩) (by assumption) ?_
      rotate_left
      ·intro w hSw
       (try dsimp only at hSw)
       go_simp
       try with_reducible rfl
      try simp only [Act.put, List.setIfInBounds_toArray, List.set_cons_zero, List.set_cons_succ]
      refine wpAnyH_ready (rs := [15]) (by kernel_rfl) (by simp) ?_
      refine AllReadyH.cons (o := { dst := none, op := Op.store 78 (Operand.tmp 27) (Operand.tmp 25), type := 0, pos := "slices.go:485", after := #[{ on := 14, ground := Ground.data }, { on := 11, ground := Ground.data }, { on := 13, ground := Ground.chain }, { on := 0, ground := Ground.phase }, { on := 1, ground := Ground.phase }, { on := 2, ground := Ground.phase }, { on := 3, ground := Ground.phase }, { on := 4, ground := Ground.phase }, { on := 5, ground := Ground.phase }, { on := 6, ground := Ground.phase }, { on := 7, ground := Ground.phase }, { on := 8, ground := Ground.phase }, { on := 9, ground := Ground.phase }, { on := 10, ground := Ground.phase }, { on := 11, ground := Ground.phase }, { on := 12, ground := Ground.phase }, { on := 13, ground := Ground.phase }], guard := none }) rfl (fun K hK => ?_) ?_
      ·obtain ⟨z0, z1, z2, z3, z4, z5, z6, z7⟩ := (R2.out.2.2.2.1 u (by omega)).flat
       have fz := R2.out.2.2.2.2
       go_simp
       clear z0 z1 z2 z3 z4 z5 z6 z7 fz
       have R3 : Hid (RowsAt ((((((((V1.setCell ⟨g, off + u * 8, none⟩ (.int .u8 (at8 (rowAt cur t) 0))).setCell ⟨g, off + u * 8 + 1, none⟩ (.int .u8 (at8 (rowAt cur t) 1))).setCell ⟨g, off + u * 8 + 2, none⟩ (.int .u8 (at8 (rowAt cur t) 2))).setCell ⟨g, off + u * 8 + 3, none⟩ (.int .u8 (at8 (rowAt cur t) 3))).setCell ⟨g, off + u * 8 + 4, none⟩ (.int .u8 (at8 (rowAt cur t) 4))).setCell ⟨g, off + u * 8 + 5, none⟩ (.int .u8 (at8 (rowAt cur t) 5))).setCell ⟨g, off + u * 8 + 6, none⟩ (.int .u8 (at8 (rowAt cur t) 6))).setCell ⟨g, off + u * 8 + 7, none⟩ (.int .u8 (at8 (rowAt cur t) 7))) g off n ((cur.set t (rowAt cur u)).set u (rowAt cur t))) := Lib.hid (R2.out.store u (by omega) (rowAt cur t) HTL.out)
       have B3 : Hid (But g w ((((((((V1.setCell ⟨g, off + u * 8, none⟩ (.int .u8 (at8 (rowAt cur t) 0))).setCell ⟨g, off + u * 8 + 1, none⟩ (.int .u8 (at8 (rowAt cur t) 1))).setCell ⟨g, off + u * 8 + 2, none⟩ (.int .u8 (at8 (rowAt cur t) 2))).setCell ⟨g, off + u * 8 + 3, none⟩ (.int .u8 (at8 (rowAt cur t) 3))).setCell ⟨g, off + u * 8 + 4, none⟩ (.int .u8 (at8 (rowAt cur t) 4))).setCell ⟨g, off + u * 8 + 5, none⟩ (.int .u8 (at8 (rowAt cur t) 5))).setCell ⟨g, off + u * 8 + 6, none⟩ (.int .u8 (at8 (rowAt cur t) 6))).setCell ⟨g, off + u * 8 + 7, none⟩ (.int .u8 (at8 (rowAt cur t) 7)))) := Lib.hid (B2.out.set8 _ _ _ _ _ _ _ _ _)
       generalize ((((((((V1.setCell ⟨g, off + u * 8, none⟩ (.int .u8 (at8 (rowAt cur t) 0))).setCell ⟨g, off + u * 8 + 1, none⟩ (.int .u8 (at8 (rowAt cur t) 1))).setCell ⟨g, off + u * 8 + 2, none⟩ (.int .u8 (at8 (rowAt cur t) 2))).setCell ⟨g, off + u * 8 + 3, none⟩ (.int .u8 (at8 (rowAt cur t) 3))).setCell ⟨g, off + u * 8 + 4, none⟩ (.int .u8 (at8 (rowAt cur t) 4))).setCell ⟨g, off + u * 8 + 5, none⟩ (.int .u8 (at8 (rowAt cur t) 5))).setCell ⟨g, off + u * 8 + 6, none⟩ (.int .u8 (at8 (rowAt cur t) 6))).setCell ⟨g, off + u * 8 + 7, none⟩ (.int .u8 (at8 (rowAt cur t) 7))) = V2 at R3 B3 ⊢
       refine hK.out _ _ ?_ (fun hHeld => ?_)
       ·trivial
       clear hK K
       try simp only [Act.put, List.setIfInBounds_toArray, List.set_cons_zero, List.set_cons_succ]
       refine wpAnyH_done (by kernel_rfl) ?_ _
       go_wp2
       go_roundw
       case measure => simp [intOf]
       case rel =>
        refine ⟨t + 1, _, by omega, by go_num, by go_num, R3.out, ?_, B3.out⟩
        have h9 := rev_more (rs := rs) (t := t) R1.out.2.1 (by omega) HQ.out
        rw [← HU.out] at h9
        exact h9
      exact AllReadyH.nil
     exact AllReadyH.nil
    exact AllReadyH.nil
   exact AllReadyH.nil
  ·have e9 := rev_of (t := t) HL.out R1.out.2.1 (by omega) HQ.out
   have r9 := R1.out
   rw [e9] at r9
   go_wp2
   go_end0
   exact ⟨rfl, r9, HB.out⟩

end Go.Proofs.Ythpmehhfhngnbaa

