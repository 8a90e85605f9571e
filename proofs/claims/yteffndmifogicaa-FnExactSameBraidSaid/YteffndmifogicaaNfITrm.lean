/- The program: half turns and 'nothing' are taken off. -/
import Derived.Test.YteffndmifogicaaNfMC
import Derived.Test.YteffndmifogicaaNfKit15
import Derived.Test.YteffndmifogicaaNfMB
import Derived.Deep.RegionHeld3
namespace Go.Proofs.Yteffndmifogicaa
open Go.RowKit Go.ChangeShapes

set_option maxRecDepth 100000 in
set_option maxHeartbeats 4000000 in
theorem trimmed_any (m : Nat) (m2 : 1 < m) (m8 : m ≤ 8) (p : Int) (hp : -1000000 ≤ p ∧ p ≤ 1000000) (B gb n cap : Nat) (R : List (List Int)) (w : World) (ho : OwnA B w (some ⟨gb, 0, none⟩) n cap R) (hpos : 0 < n) (hs : Sims m R) (hn : n ≤ 1000000) (q : Int) (kf : List (List Int)) (hq : trimR m p R = (q, kf)) :
  Calls Try.prog 106 #[.int .i64 m, .int .i64 p, .slice (some ⟨gb, 0, none⟩) n cap] w (RetNS B w m q kf) := by
 have HS := Lib.hid hs; clear hs
 have RL := Lib.hid ho.len
 have HCP : Hid (n ≤ cap) := Lib.hid (by
  rcases ho.2.2 with ⟨hv, h0⟩ | ⟨g, c', cur, hv, _, _, h1, _⟩
  ·omega
  ·simp only [Value.slice.injEq] at hv
   omega)
 have HQ := Lib.hid hq; clear hq
 have HGB := Lib.hid (ho.lo _ rfl)
 obtain ⟨k, rfl⟩ : ∃ k, n = k + 1 := ⟨n - 1, by omega⟩
 obtain ⟨ra, hra⟩ : ∃ ra, ra = rowAt R 0 := ⟨_, rfl⟩
 obtain ⟨rb, hrb⟩ : ∃ rb, rb = rowAt R k := ⟨_, rfl⟩
 have SA : Hid (Sim m ra) := Lib.hid (by rw [hra]; exact HS.out _ (rowAt_getElem (by rw [RL.out]; omega)))
 have SB : Hid (Sim m rb) := Lib.hid (by rw [hrb]; exact HS.out _ (rowAt_getElem (by rw [RL.out]; omega)))
 have HQ2 : Hid (q = p + (if ra = halfR m then 1 else 0 : Nat) ∧ kf = (R.take (k + 1 - (if rb = sameR m then 1 else 0))).drop (if ra = halfR m then 1 else 0)) := Lib.hid (by
  have h := HQ.out
  unfold trimR at h
  rw [RL.out, show k + 1 - 1 = k by omega, ← hra, ← hrb] at h
  simp only [Prod.mk.injEq] at h
  exact ⟨h.1.symm, h.2.symm⟩)
 clear HQ
 have HC : Hid (∀ W, Below w.heap.size w W → OwnA B W (some ⟨gb, 0, none⟩) (k + 1) cap R) := Lib.hid fun W h => ho.below h
 have HRA : Hid (∀ W, Below w.heap.size w W → Cells8 W gb 0 ra) := Lib.hid fun W h => by have := (ho.below h).cellAt 0 (by omega); rw [Nat.zero_mul] at this; rw [hra]; exact this
 have HRB : Hid (∀ W, Below w.heap.size w W → Cells8 W gb (k * 8) rb) := Lib.hid fun W h => by rw [hrb]; exact (ho.below h).cellAt k (by omega)
 have HSAME : Hid (k = 0 → ra = rb) := Lib.hid fun h => by rw [hra, hrb, h]
 clear hra hrb ho
 have hw1 : IntKind.i64.wrap ((((k + 1 : Nat) : Int)) - 1) = (k : Int) := by rw [show (((k + 1 : Nat) : Int)) - 1 = (k : Int) by omega]; exact IntWalk.i64_in _ (by omega)
 have hw1' : IntKind.i64.wrap ((k : Int) + 1 - 1) = (k : Int) := by rw [show (k : Int) + 1 - 1 = (k : Int) by omega]; exact IntWalk.i64_in _ (by omega)
 have hw4 : IntKind.i64.wrap (k : Int) = (k : Int) := IntWalk.i64_in _ (by omega)
 have hi4 : (k : Int) < (k : Int) + 1 := by omega
 have hi1 : (k : Int) < (((k + 1 : Nat) : Int)) := by omega
 have hi2 : (0 : Int) ≤ (k : Int) := by omega
 have hi3 : (0 : Int) < (((k + 1 : Nat) : Int)) := by omega
 have hw2 : IntKind.i64.wrap (p + 1) = p + 1 := IntWalk.i64_in _ (by omega)
 have hw3 : IntKind.i64.wrap p = p := IntWalk.i64_in _ (by omega)
 go_enter Try.func106, Try.ntmps106
 have Z := Lib.hid (At3.place w (.int .i64 0) (.int .i64 0) (.slice none 0 0) 28 w.heap.size rfl)
 have KB := Lib.hid (below1 w (.cells #[.int .i64 0, .int .i64 0, .slice none 0 0] 28))
 go_upto_region 2 with fail
 by_cases he1 : ra = halfR m
 ·have heq1 : ∀ W, Sem.run Try.prog (Op.equalIn 10000 77 (arr8 .u8 ra) (arr8 .u8 (halfR m))) W = .ok true W := fun W => by rw [equal8 ra (halfR m) SA.out.len (mapR_len _ _ m8) W, decide_eq_true he1]
  have HE1 := Lib.hid he1; clear he1
  replace KB := Lib.hid KB.out.drew
  replace Z := Lib.hid Z.out.drew
  refine wp_region_held_drew (S := (fun w' => w'.cell? ⟨gb, 0, none⟩ = some (.int .u8 (at8 ra 0)) ∧ w'.cell? ⟨gb, 1, none⟩ = some (.int .u8 (at8 ra 1)) ∧ w'.cell? ⟨gb, 2, none⟩ = some (.int .u8 (at8 ra 2)) ∧ w'.cell? ⟨gb, 3, none⟩ = some (.int .u8 (at8 ra 3)) ∧ w'.cell? ⟨gb, 4, none⟩ = some (.int .u8 (at8 ra 4)) ∧ w'.cell? ⟨gb, 5, none⟩ = some (.int .u8 (at8 ra 5)) ∧ w'.cell? ⟨gb, 6, none⟩ = some (.int .u8 (at8 ra 6)) ∧ w'.cell? ⟨gb, 7, none⟩ = some (.int .u8 (at8 ra 7)))) (by kernel_rfl) ?_ (fun hHeld => ?_)
  ·with_reducible exact (HRA.out _ KB.out).flat
  refine wpAnyH_take (i := 0) (oi := { dst := some 11, op := Op.move (Operand.tmp 2), type := 26, pos := "l03_normal.go:68", after := #[], guard := none }) (v := ?_) rfl (by kernel_rfl) (by kernel_rfl) (by kernel_rfl) (fun _ _ _ h => h) (Or.inl ⟨by rfl, ?_⟩) (by assumption) ?_
  rotate_left
  ·intro w hSw
   (try dsimp only at hSw)
   go_simp
   try with_reducible rfl
  try simp only [Act.put, List.setIfInBounds_toArray, List.set_cons_zero, List.set_cons_succ]
  refine wpAnyH_take (i := 1) (oi := { dst := some 12, op := Op.indexAddr 26 (Operand.tmp 11) (Operand.const (Value.int IntKind.i64 0)), type := 0, pos := "l03_normal.go:68", after := #[{ on := 0, ground := Ground.data }], guard := none }) (v := ?_) rfl (by kernel_rfl) (by kernel_rfl) (by kernel_rfl) (fun _ _ _ h => h) (Or.inl ⟨by rfl, ?_⟩) (by assumption) ?_
  rotate_left
  ·intro w hSw
   (try dsimp only at hSw)
   go_simp
   try with_reducible rfl
  try simp only [Act.put, List.setIfInBounds_toArray, List.set_cons_zero, List.set_cons_succ]
  refine wpAnyH_take (i := 2) (oi := { dst := some 13, op := Op.load 77 (Operand.tmp 12), type := 77, pos := "l03_normal.go:68", after := #[{ on := 1, ground := Ground.data }], guard := none }) (v := ?_) rfl (by kernel_rfl) (by kernel_rfl) (by kernel_rfl) (fun _ _ _ h => h) (Or.inl ⟨by rfl, ?_⟩) (by assumption) ?_
  rotate_left
  ·intro w hSw
   (try dsimp only at hSw)
   go_simp
   try with_reducible rfl
  try simp only [Act.put, List.setIfInBounds_toArray, List.set_cons_zero, List.set_cons_succ]
  refine wpAnyH_take (i := 3) (oi := { dst := some 14, op := Op.move (Operand.tmp 0), type := 2, pos := "l03_normal.go:68", after := #[], guard := none }) (v := ?_) rfl (by kernel_rfl) (by kernel_rfl) (by kernel_rfl) (fun _ _ _ h => h) (Or.inl ⟨by rfl, ?_⟩) (by assumption) ?_
  rotate_left
  ·intro w hSw
   (try dsimp only at hSw)
   go_simp
   try with_reducible rfl
  try simp only [Act.put, List.setIfInBounds_toArray, List.set_cons_zero, List.set_cons_succ]
  refine wpAnyH_ready (rs := [4]) (by kernel_rfl) (by simp) ?_
  refine AllReadyH.cons (o := { dst := some 15, op := Op.call { callee := Callee.value (Operand.func 52), args := #[Operand.tmp 14], argTypes := #[2] }, type := 77, pos := "l03_normal.go:68", after := #[{ on := 3, ground := Ground.data }], guard := none }) rfl (fun K hK => ?_) ?_
  ·go_simp
   refine (halfTurn_any m m8 _).mono ?_
   rintro e w3 ⟨rfl, gg⟩
   replace Z := Lib.hid (Z.out.below gg)
   replace KB := Lib.hid (below_go KB.out gg KB.out.size)
   clear gg
   go_wp2_with fail
   refine hK.out _ _ ?_ (fun hHeld => ?_)
   ·with_reducible exact (HRA.out _ KB.out).flat
   clear hK K
   try simp only [Act.put, List.setIfInBounds_toArray, List.set_cons_zero, List.set_cons_succ]
   refine wpAnyH_ready (rs := [5]) (by kernel_rfl) (by simp) ?_
   refine AllReadyH.cons (o := { dst := some 16, op := Op.binOp BinOp.eql 77 (Operand.tmp 13) (Operand.tmp 15) 77, type := 4, pos := "l03_normal.go:68", after := #[{ on := 2, ground := Ground.data }, { on := 4, ground := Ground.data }], guard := none }) rfl (fun K hK => ?_) ?_
   ·go_simp
    refine hK.out _ _ ?_ (fun hHeld => ?_)
    ·with_reducible exact (HRA.out _ KB.out).flat
    clear hK K
    try simp only [Act.put, List.setIfInBounds_toArray, List.set_cons_zero, List.set_cons_succ]
    refine wpAnyH_done (by kernel_rfl) ?_ _
    go_upto_region 4 with fail
    by_cases he2 : rb = sameR m
    ·have heq2 : ∀ W, Sem.run Try.prog (Op.equalIn 10000 77 (arr8 .u8 rb) (arr8 .u8 (sameR m))) W = .ok true W := fun W => by rw [equal8 rb (sameR m) SB.out.len (mapR_len _ _ m8) W, decide_eq_true he2]
     have HE2 := Lib.hid he2; clear he2
     replace KB := Lib.hid KB.out.drew
     replace Z := Lib.hid Z.out.drew
     refine wp_region_held_drew (S := (fun w' => w'.cell? ⟨gb, k * 8, none⟩ = some (.int .u8 (at8 rb 0)) ∧ w'.cell? ⟨gb, k * 8 + 1, none⟩ = some (.int .u8 (at8 rb 1)) ∧ w'.cell? ⟨gb, k * 8 + 2, none⟩ = some (.int .u8 (at8 rb 2)) ∧ w'.cell? ⟨gb, k * 8 + 3, none⟩ = some (.int .u8 (at8 rb 3)) ∧ w'.cell? ⟨gb, k * 8 + 4, none⟩ = some (.int .u8 (at8 rb 4)) ∧ w'.cell? ⟨gb, k * 8 + 5, none⟩ = some (.int .u8 (at8 rb 5)) ∧ w'.cell? ⟨gb, k * 8 + 6, none⟩ = some (.int .u8 (at8 rb 6)) ∧ w'.cell? ⟨gb, k * 8 + 7, none⟩ = some (.int .u8 (at8 rb 7)))) (by kernel_rfl) ?_ (fun hHeld => ?_)
     ·with_reducible exact (HRB.out _ KB.out).flat
     refine wpAnyH_take (i := 0) (oi := { dst := some 19, op := Op.move (Operand.tmp 2), type := 26, pos := "l03_normal.go:71", after := #[], guard := none }) (v := ?_) rfl (by kernel_rfl) (by kernel_rfl) (by kernel_rfl) (fun _ _ _ h => h) (Or.inl ⟨by rfl, ?_⟩) (by assumption) ?_
     rotate_left
     ·intro w hSw
      (try dsimp only at hSw)
      go_simp
      try with_reducible rfl
     try simp only [Act.put, List.setIfInBounds_toArray, List.set_cons_zero, List.set_cons_succ]
     refine wpAnyH_take (i := 1) (oi := { dst := some 20, op := Op.move (Operand.tmp 8), type := 3, pos := "l03_normal.go:71", after := #[], guard := none }) (v := ?_) rfl (by kernel_rfl) (by kernel_rfl) (by kernel_rfl) (fun _ _ _ h => h) (Or.inl ⟨by rfl, ?_⟩) (by assumption) ?_
     rotate_left
     ·intro w hSw
      (try dsimp only at hSw)
      go_simp
      try with_reducible rfl
     try simp only [Act.put, List.setIfInBounds_toArray, List.set_cons_zero, List.set_cons_succ]
     refine wpAnyH_take (i := 2) (oi := { dst := some 21, op := Op.binOp BinOp.sub 3 (Operand.tmp 20) (Operand.const (Value.int IntKind.i64 1)) 3, type := 3, pos := "l03_normal.go:71", after := #[{ on := 1, ground := Ground.data }], guard := none }) (v := ?_) rfl (by kernel_rfl) (by kernel_rfl) (by kernel_rfl) (fun _ _ _ h => h) (Or.inl ⟨by rfl, ?_⟩) (by assumption) ?_
     rotate_left
     ·intro w hSw
      (try dsimp only at hSw)
      go_simp
      try with_reducible rfl
     try simp only [Act.put, List.setIfInBounds_toArray, List.set_cons_zero, List.set_cons_succ]
     refine wpAnyH_take (i := 3) (oi := { dst := some 22, op := Op.indexAddr 26 (Operand.tmp 19) (Operand.tmp 21), type := 0, pos := "l03_normal.go:71", after := #[{ on := 0, ground := Ground.data }, { on := 2, ground := Ground.data }], guard := none }) (v := ?_) rfl (by kernel_rfl) (by kernel_rfl) (by kernel_rfl) (fun _ _ _ h => h) (Or.inl ⟨by rfl, ?_⟩) (by assumption) ?_
     rotate_left
     ·intro w hSw
      (try dsimp only at hSw)
      go_simp
      try with_reducible rfl
     try simp only [Act.put, List.setIfInBounds_toArray, List.set_cons_zero, List.set_cons_succ]
     refine wpAnyH_take (i := 4) (oi := { dst := some 23, op := Op.load 77 (Operand.tmp 22), type := 77, pos := "l03_normal.go:71", after := #[{ on := 3, ground := Ground.data }], guard := none }) (v := ?_) rfl (by kernel_rfl) (by kernel_rfl) (by kernel_rfl) (fun _ _ _ h => h) (Or.inl ⟨by rfl, ?_⟩) (by assumption) ?_
     rotate_left
     ·intro w hSw
      (try dsimp only at hSw)
      go_simp
      try with_reducible rfl
     try simp only [Act.put, List.setIfInBounds_toArray, List.set_cons_zero, List.set_cons_succ]
     refine wpAnyH_take (i := 5) (oi := { dst := some 24, op := Op.move (Operand.tmp 0), type := 2, pos := "l03_normal.go:71", after := #[], guard := none }) (v := ?_) rfl (by kernel_rfl) (by kernel_rfl) (by kernel_rfl) (fun _ _ _ h => h) (Or.inl ⟨by rfl, ?_⟩) (by assumption) ?_
     rotate_left
     ·intro w hSw
      (try dsimp only at hSw)
      go_simp
      try with_reducible rfl
     try simp only [Act.put, List.setIfInBounds_toArray, List.set_cons_zero, List.set_cons_succ]
     refine wpAnyH_ready (rs := [6]) (by kernel_rfl) (by simp) ?_
     refine AllReadyH.cons (o := { dst := some 25, op := Op.call { callee := Callee.value (Operand.func 84), args := #[Operand.tmp 24], argTypes := #[2] }, type := 77, pos := "l03_normal.go:71", after := #[{ on := 5, ground := Ground.data }], guard := none }) rfl (fun K hK => ?_) ?_
     ·go_simp
      refine (nothing_any m m8 _).mono ?_
      rintro e w4 ⟨rfl, gg⟩
      replace Z := Lib.hid (Z.out.below gg)
      replace KB := Lib.hid (below_go KB.out gg KB.out.size)
      clear gg
      go_wp2_with fail
      refine hK.out _ _ ?_ (fun hHeld => ?_)
      ·with_reducible exact (HRB.out _ KB.out).flat
      clear hK K
      try simp only [Act.put, List.setIfInBounds_toArray, List.set_cons_zero, List.set_cons_succ]
      refine wpAnyH_ready (rs := [7]) (by kernel_rfl) (by simp) ?_
      refine AllReadyH.cons (o := { dst := some 26, op := Op.binOp BinOp.eql 77 (Operand.tmp 23) (Operand.tmp 25) 77, type := 4, pos := "l03_normal.go:71", after := #[{ on := 4, ground := Ground.data }, { on := 6, ground := Ground.data }], guard := none }) rfl (fun K hK => ?_) ?_
      ·go_simp
       refine hK.out _ _ ?_ (fun hHeld => ?_)
       ·with_reducible exact (HRB.out _ KB.out).flat
       clear hK K
       try simp only [Act.put, List.setIfInBounds_toArray, List.set_cons_zero, List.set_cons_succ]
       refine wpAnyH_done (by kernel_rfl) ?_ _
       have HKF : Hid (q = p + 1 ∧ kf = (R.take k).drop 1) := Lib.hid (by have h := HQ2.out; rw [if_pos HE1.out, if_pos HE2.out] at h; simpa using h)
       obtain rfl : p + 1 = q := HKF.out.1.symm
       have hk0 : 0 < k := by
        rcases Nat.eq_zero_or_pos k with h | h
        ·exfalso; exact half_ne m2 (HE1.out.symm.trans ((HSAME.out h).trans HE2.out))
        ·exact h
       have hcap := HCP.out
       obtain ⟨x0, ⟨x1, x2, x3⟩, y1, y2, y3⟩ := Z.out
       have hc1 : ((k : Int) : Int) ≤ (cap : Int) := by omega
       have OS : Hid (∀ u v x, OwnS B (((w4.setCell ⟨w.heap.size, 0, none⟩ u).setCell ⟨w.heap.size, 1, none⟩ v).setCell ⟨w.heap.size, 2, none⟩ x) (some ⟨gb, 8, none⟩) (k - 1) kf) := Lib.hid fun u v x => by
        have h1 := (HC.out _ KB.out).sub 1 k (by omega) (by omega)
        rw [← HKF.out.2] at h1
        have h2 := h1.heap (w' := ((w4.setCell ⟨w.heap.size, 0, none⟩ u).setCell ⟨w.heap.size, 1, none⟩ v).setCell ⟨w.heap.size, 2, none⟩ x) (by simp [World.setCell]) (fun y hy _ _ => by cases hy; rw [Below.heap_setCell _ _ _ _ (by have := HGB.out.2; simp at this ⊢; omega), Below.heap_setCell _ _ _ _ (by have := HGB.out.2; simp at this ⊢; omega), Below.heap_setCell _ _ _ _ (by have := HGB.out.2; simp at this ⊢; omega)])
        exact h2
       go_wp2
       ·try rw [Exit.noGoto_ret]
        (obtain ⟨_, ⟨e1, e2, e3⟩, _⟩ := Z.out.fill (.int .i64 m) (.int .i64 (p + 1)) (.slice (some ⟨gb, 0, none⟩) 0 0); exact bodyPost_ret (v := .agg #[.int .i64 m, .int .i64 (p + 1), .slice (some ⟨gb, 0, none⟩) 0 0]) (by simp [results, Try.results106, go_sem, e1, e2, e3]) rfl ⟨_, 0, 0, rfl, Nat.le_refl _, by have h0 : kf = [] := List.eq_nil_of_length_eq_zero (by rw [HKF.out.2, List.length_drop, List.length_take]; omega); rw [h0]; exact OwnS.nil _ _ _, below_set3 KB.out (Nat.le_refl _) _ _ _⟩)
       ·try rw [Exit.noGoto_ret]
        (obtain ⟨_, ⟨e1, e2, e3⟩, _⟩ := Z.out.fill (.int .i64 m) (.int .i64 (p + 1)) (.slice (some ⟨gb, 8, none⟩) (k - 1) (k - 1)); exact bodyPost_ret (v := .agg #[.int .i64 m, .int .i64 (p + 1), .slice (some ⟨gb, 8, none⟩) (k - 1) (k - 1)]) (by simp [results, Try.results106, go_sem, e1, e2, e3]) rfl ⟨_, (k - 1), (k - 1), rfl, Nat.le_refl _, OS.out _ _ _, below_set3 KB.out (Nat.le_refl _) _ _ _⟩)
      exact AllReadyH.nil
     exact AllReadyH.nil
    ·have heq2 : ∀ W, Sem.run Try.prog (Op.equalIn 10000 77 (arr8 .u8 rb) (arr8 .u8 (sameR m))) W = .ok false W := fun W => by rw [equal8 rb (sameR m) SB.out.len (mapR_len _ _ m8) W, decide_eq_false he2]
     have HE2 := Lib.hid he2; clear he2
     replace KB := Lib.hid KB.out.drew
     replace Z := Lib.hid Z.out.drew
     refine wp_region_held_drew (S := (fun w' => w'.cell? ⟨gb, k * 8, none⟩ = some (.int .u8 (at8 rb 0)) ∧ w'.cell? ⟨gb, k * 8 + 1, none⟩ = some (.int .u8 (at8 rb 1)) ∧ w'.cell? ⟨gb, k * 8 + 2, none⟩ = some (.int .u8 (at8 rb 2)) ∧ w'.cell? ⟨gb, k * 8 + 3, none⟩ = some (.int .u8 (at8 rb 3)) ∧ w'.cell? ⟨gb, k * 8 + 4, none⟩ = some (.int .u8 (at8 rb 4)) ∧ w'.cell? ⟨gb, k * 8 + 5, none⟩ = some (.int .u8 (at8 rb 5)) ∧ w'.cell? ⟨gb, k * 8 + 6, none⟩ = some (.int .u8 (at8 rb 6)) ∧ w'.cell? ⟨gb, k * 8 + 7, none⟩ = some (.int .u8 (at8 rb 7)))) (by kernel_rfl) ?_ (fun hHeld => ?_)
     ·with_reducible exact (HRB.out _ KB.out).flat
     refine wpAnyH_take (i := 0) (oi := { dst := some 19, op := Op.move (Operand.tmp 2), type := 26, pos := "l03_normal.go:71", after := #[], guard := none }) (v := ?_) rfl (by kernel_rfl) (by kernel_rfl) (by kernel_rfl) (fun _ _ _ h => h) (Or.inl ⟨by rfl, ?_⟩) (by assumption) ?_
     rotate_left
     ·intro w hSw
      (try dsimp only at hSw)
      go_simp
      try with_reducible rfl
     try simp only [Act.put, List.setIfInBounds_toArray, List.set_cons_zero, List.set_cons_succ]
     refine wpAnyH_take (i := 1) (oi := { dst := some 20, op := Op.move (Operand.tmp 8), type := 3, pos := "l03_normal.go:71", after := #[], guard := none }) (v := ?_) rfl (by kernel_rfl) (by kernel_rfl) (by kernel_rfl) (fun _ _ _ h => h) (Or.inl ⟨by rfl, ?_⟩) (by assumption) ?_
     rotate_left
     ·intro w hSw
      (try dsimp only at hSw)
      go_simp
      try with_reducible rfl
     try simp only [Act.put, List.setIfInBounds_toArray, List.set_cons_zero, List.set_cons_succ]
     refine wpAnyH_take (i := 2) (oi := { dst := some 21, op := Op.binOp BinOp.sub 3 (Operand.tmp 20) (Operand.const (Value.int IntKind.i64 1)) 3, type := 3, pos := "l03_normal.go:71", after := #[{ on := 1, ground := Ground.data }], guard := none }) (v := ?_) rfl (by kernel_rfl) (by kernel_rfl) (by kernel_rfl) (fun _ _ _ h => h) (Or.inl ⟨by rfl, ?_⟩) (by assumption) ?_
     rotate_left
     ·intro w hSw
      (try dsimp only at hSw)
      go_simp
      try with_reducible rfl
     try simp only [Act.put, List.setIfInBounds_toArray, List.set_cons_zero, List.set_cons_succ]
     refine wpAnyH_take (i := 3) (oi := { dst := some 22, op := Op.indexAddr 26 (Operand.tmp 19) (Operand.tmp 21), type := 0, pos := "l03_normal.go:71", after := #[{ on := 0, ground := Ground.data }, { on := 2, ground := Ground.data }], guard := none }) (v := ?_) rfl (by kernel_rfl) (by kernel_rfl) (by kernel_rfl) (fun _ _ _ h => h) (Or.inl ⟨by rfl, ?_⟩) (by assumption) ?_
     rotate_left
     ·intro w hSw
      (try dsimp only at hSw)
      go_simp
      try with_reducible rfl
     try simp only [Act.put, List.setIfInBounds_toArray, List.set_cons_zero, List.set_cons_succ]
     refine wpAnyH_take (i := 4) (oi := { dst := some 23, op := Op.load 77 (Operand.tmp 22), type := 77, pos := "l03_normal.go:71", after := #[{ on := 3, ground := Ground.data }], guard := none }) (v := ?_) rfl (by kernel_rfl) (by kernel_rfl) (by kernel_rfl) (fun _ _ _ h => h) (Or.inl ⟨by rfl, ?_⟩) (by assumption) ?_
     rotate_left
     ·intro w hSw
      (try dsimp only at hSw)
      go_simp
      try with_reducible rfl
     try simp only [Act.put, List.setIfInBounds_toArray, List.set_cons_zero, List.set_cons_succ]
     refine wpAnyH_take (i := 5) (oi := { dst := some 24, op := Op.move (Operand.tmp 0), type := 2, pos := "l03_normal.go:71", after := #[], guard := none }) (v := ?_) rfl (by kernel_rfl) (by kernel_rfl) (by kernel_rfl) (fun _ _ _ h => h) (Or.inl ⟨by rfl, ?_⟩) (by assumption) ?_
     rotate_left
     ·intro w hSw
      (try dsimp only at hSw)
      go_simp
      try with_reducible rfl
     try simp only [Act.put, List.setIfInBounds_toArray, List.set_cons_zero, List.set_cons_succ]
     refine wpAnyH_ready (rs := [6]) (by kernel_rfl) (by simp) ?_
     refine AllReadyH.cons (o := { dst := some 25, op := Op.call { callee := Callee.value (Operand.func 84), args := #[Operand.tmp 24], argTypes := #[2] }, type := 77, pos := "l03_normal.go:71", after := #[{ on := 5, ground := Ground.data }], guard := none }) rfl (fun K hK => ?_) ?_
     ·go_simp
      refine (nothing_any m m8 _).mono ?_
      rintro e w4 ⟨rfl, gg⟩
      replace Z := Lib.hid (Z.out.below gg)
      replace KB := Lib.hid (below_go KB.out gg KB.out.size)
      clear gg
      go_wp2_with fail
      refine hK.out _ _ ?_ (fun hHeld => ?_)
      ·with_reducible exact (HRB.out _ KB.out).flat
      clear hK K
      try simp only [Act.put, List.setIfInBounds_toArray, List.set_cons_zero, List.set_cons_succ]
      refine wpAnyH_ready (rs := [7]) (by kernel_rfl) (by simp) ?_
      refine AllReadyH.cons (o := { dst := some 26, op := Op.binOp BinOp.eql 77 (Operand.tmp 23) (Operand.tmp 25) 77, type := 4, pos := "l03_normal.go:71", after := #[{ on := 4, ground := Ground.data }, { on := 6, ground := Ground.data }], guard := none }) rfl (fun K hK => ?_) ?_
      ·go_simp
       refine hK.out _ _ ?_ (fun hHeld => ?_)
       ·with_reducible exact (HRB.out _ KB.out).flat
       clear hK K
       try simp only [Act.put, List.setIfInBounds_toArray, List.set_cons_zero, List.set_cons_succ]
       refine wpAnyH_done (by kernel_rfl) ?_ _
       have HKF : Hid (q = p + 1 ∧ kf = (R.take (k + 1)).drop 1) := Lib.hid (by have h := HQ2.out; rw [if_pos HE1.out, if_neg HE2.out] at h; simpa using h)
       obtain rfl : p + 1 = q := HKF.out.1.symm
       have hcap := HCP.out
       obtain ⟨x0, ⟨x1, x2, x3⟩, y1, y2, y3⟩ := Z.out
       have hc1 : (((k + 1 : Nat) : Int) : Int) ≤ (cap : Int) := by omega
       have OS : Hid (∀ u v x, OwnS B (((w4.setCell ⟨w.heap.size, 0, none⟩ u).setCell ⟨w.heap.size, 1, none⟩ v).setCell ⟨w.heap.size, 2, none⟩ x) (some ⟨gb, 8, none⟩) k kf) := Lib.hid fun u v x => by
        have h1 := (HC.out _ KB.out).sub 1 (k + 1) (by omega) (by omega)
        rw [← HKF.out.2] at h1
        have h2 := h1.heap (w' := ((w4.setCell ⟨w.heap.size, 0, none⟩ u).setCell ⟨w.heap.size, 1, none⟩ v).setCell ⟨w.heap.size, 2, none⟩ x) (by simp [World.setCell]) (fun y hy _ _ => by cases hy; rw [Below.heap_setCell _ _ _ _ (by have := HGB.out.2; simp at this ⊢; omega), Below.heap_setCell _ _ _ _ (by have := HGB.out.2; simp at this ⊢; omega), Below.heap_setCell _ _ _ _ (by have := HGB.out.2; simp at this ⊢; omega)])
        exact h2
       go_wp2
       ·try rw [Exit.noGoto_ret]
        (obtain ⟨_, ⟨e1, e2, e3⟩, _⟩ := Z.out.fill (.int .i64 m) (.int .i64 (p + 1)) (.slice (some ⟨gb, 0, none⟩) 0 0); exact bodyPost_ret (v := .agg #[.int .i64 m, .int .i64 (p + 1), .slice (some ⟨gb, 0, none⟩) 0 0]) (by simp [results, Try.results106, go_sem, e1, e2, e3]) rfl ⟨_, 0, 0, rfl, Nat.le_refl _, by have h0 : kf = [] := List.eq_nil_of_length_eq_zero (by rw [HKF.out.2, List.length_drop, List.length_take]; omega); rw [h0]; exact OwnS.nil _ _ _, below_set3 KB.out (Nat.le_refl _) _ _ _⟩)
       ·try rw [Exit.noGoto_ret]
        (obtain ⟨_, ⟨e1, e2, e3⟩, _⟩ := Z.out.fill (.int .i64 m) (.int .i64 (p + 1)) (.slice (some ⟨gb, 8, none⟩) k k); exact bodyPost_ret (v := .agg #[.int .i64 m, .int .i64 (p + 1), .slice (some ⟨gb, 8, none⟩) k k]) (by simp [results, Try.results106, go_sem, e1, e2, e3]) rfl ⟨_, k, k, rfl, Nat.le_refl _, OS.out _ _ _, below_set3 KB.out (Nat.le_refl _) _ _ _⟩)
      exact AllReadyH.nil
     exact AllReadyH.nil
   exact AllReadyH.nil
  exact AllReadyH.nil
 ·have heq1 : ∀ W, Sem.run Try.prog (Op.equalIn 10000 77 (arr8 .u8 ra) (arr8 .u8 (halfR m))) W = .ok false W := fun W => by rw [equal8 ra (halfR m) SA.out.len (mapR_len _ _ m8) W, decide_eq_false he1]
  have HE1 := Lib.hid he1; clear he1
  replace KB := Lib.hid KB.out.drew
  replace Z := Lib.hid Z.out.drew
  refine wp_region_held_drew (S := (fun w' => w'.cell? ⟨gb, 0, none⟩ = some (.int .u8 (at8 ra 0)) ∧ w'.cell? ⟨gb, 1, none⟩ = some (.int .u8 (at8 ra 1)) ∧ w'.cell? ⟨gb, 2, none⟩ = some (.int .u8 (at8 ra 2)) ∧ w'.cell? ⟨gb, 3, none⟩ = some (.int .u8 (at8 ra 3)) ∧ w'.cell? ⟨gb, 4, none⟩ = some (.int .u8 (at8 ra 4)) ∧ w'.cell? ⟨gb, 5, none⟩ = some (.int .u8 (at8 ra 5)) ∧ w'.cell? ⟨gb, 6, none⟩ = some (.int .u8 (at8 ra 6)) ∧ w'.cell? ⟨gb, 7, none⟩ = some (.int .u8 (at8 ra 7)))) (by kernel_rfl) ?_ (fun hHeld => ?_)
  ·with_reducible exact (HRA.out _ KB.out).flat
  refine wpAnyH_take (i := 0) (oi := { dst := some 11, op := Op.move (Operand.tmp 2), type := 26, pos := "l03_normal.go:68", after := #[], guard := none }) (v := ?_) rfl (by kernel_rfl) (by kernel_rfl) (by kernel_rfl) (fun _ _ _ h => h) (Or.inl ⟨by rfl, ?_⟩) (by assumption) ?_
  rotate_left
  ·intro w hSw
   (try dsimp only at hSw)
   go_simp
   try with_reducible rfl
  try simp only [Act.put, List.setIfInBounds_toArray, List.set_cons_zero, List.set_cons_succ]
  refine wpAnyH_take (i := 1) (oi := { dst := some 12, op := Op.indexAddr 26 (Operand.tmp 11) (Operand.const (Value.int IntKind.i64 0)), type := 0, pos := "l03_normal.go:68", after := #[{ on := 0, ground := Ground.data }], guard := none }) (v := ?_) rfl (by kernel_rfl) (by kernel_rfl) (by kernel_rfl) (fun _ _ _ h => h) (Or.inl ⟨by rfl, ?_⟩) (by assumption) ?_
  rotate_left
  ·intro w hSw
   (try dsimp only at hSw)
   go_simp
   try with_reducible rfl
  try simp only [Act.put, List.setIfInBounds_toArray, List.set_cons_zero, List.set_cons_succ]
  refine wpAnyH_take (i := 2) (oi := { dst := some 13, op := Op.load 77 (Operand.tmp 12), type := 77, pos := "l03_normal.go:68", after := #[{ on := 1, ground := Ground.data }], guard := none }) (v := ?_) rfl (by kernel_rfl) (by kernel_rfl) (by kernel_rfl) (fun _ _ _ h => h) (Or.inl ⟨by rfl, ?_⟩) (by assumption) ?_
  rotate_left
  ·intro w hSw
   (try dsimp only at hSw)
   go_simp
   try with_reducible rfl
  try simp only [Act.put, List.setIfInBounds_toArray, List.set_cons_zero, List.set_cons_succ]
  refine wpAnyH_take (i := 3) (oi := { dst := some 14, op := Op.move (Operand.tmp 0), type := 2, pos := "l03_normal.go:68", after := #[], guard := none }) (v := ?_) rfl (by kernel_rfl) (by kernel_rfl) (by kernel_rfl) (fun _ _ _ h => h) (Or.inl ⟨by rfl, ?_⟩) (by assumption) ?_
  rotate_left
  ·intro w hSw
   (try dsimp only at hSw)
   go_simp
   try with_reducible rfl
  try simp only [Act.put, List.setIfInBounds_toArray, List.set_cons_zero, List.set_cons_succ]
  refine wpAnyH_ready (rs := [4]) (by kernel_rfl) (by simp) ?_
  refine AllReadyH.cons (o := { dst := some 15, op := Op.call { callee := Callee.value (Operand.func 52), args := #[Operand.tmp 14], argTypes := #[2] }, type := 77, pos := "l03_normal.go:68", after := #[{ on := 3, ground := Ground.data }], guard := none }) rfl (fun K hK => ?_) ?_
  ·go_simp
   refine (halfTurn_any m m8 _).mono ?_
   rintro e w3 ⟨rfl, gg⟩
   replace Z := Lib.hid (Z.out.below gg)
   replace KB := Lib.hid (below_go KB.out gg KB.out.size)
   clear gg
   go_wp2_with fail
   refine hK.out _ _ ?_ (fun hHeld => ?_)
   ·with_reducible exact (HRA.out _ KB.out).flat
   clear hK K
   try simp only [Act.put, List.setIfInBounds_toArray, List.set_cons_zero, List.set_cons_succ]
   refine wpAnyH_ready (rs := [5]) (by kernel_rfl) (by simp) ?_
   refine AllReadyH.cons (o := { dst := some 16, op := Op.binOp BinOp.eql 77 (Operand.tmp 13) (Operand.tmp 15) 77, type := 4, pos := "l03_normal.go:68", after := #[{ on := 2, ground := Ground.data }, { on := 4, ground := Ground.data }], guard := none }) rfl (fun K hK => ?_) ?_
   ·go_simp
    refine hK.out _ _ ?_ (fun hHeld => ?_)
    ·with_reducible exact (HRA.out _ KB.out).flat
    clear hK K
    try simp only [Act.put, List.setIfInBounds_toArray, List.set_cons_zero, List.set_cons_succ]
    refine wpAnyH_done (by kernel_rfl) ?_ _
    go_upto_region 4 with fail
    by_cases he2 : rb = sameR m
    ·have heq2 : ∀ W, Sem.run Try.prog (Op.equalIn 10000 77 (arr8 .u8 rb) (arr8 .u8 (sameR m))) W = .ok true W := fun W => by rw [equal8 rb (sameR m) SB.out.len (mapR_len _ _ m8) W, decide_eq_true he2]
     have HE2 := Lib.hid he2; clear he2
     replace KB := Lib.hid KB.out.drew
     replace Z := Lib.hid Z.out.drew
     refine wp_region_held_drew (S := (fun w' => w'.cell? ⟨gb, k * 8, none⟩ = some (.int .u8 (at8 rb 0)) ∧ w'.cell? ⟨gb, k * 8 + 1, none⟩ = some (.int .u8 (at8 rb 1)) ∧ w'.cell? ⟨gb, k * 8 + 2, none⟩ = some (.int .u8 (at8 rb 2)) ∧ w'.cell? ⟨gb, k * 8 + 3, none⟩ = some (.int .u8 (at8 rb 3)) ∧ w'.cell? ⟨gb, k * 8 + 4, none⟩ = some (.int .u8 (at8 rb 4)) ∧ w'.cell? ⟨gb, k * 8 + 5, none⟩ = some (.int .u8 (at8 rb 5)) ∧ w'.cell? ⟨gb, k * 8 + 6, none⟩ = some (.int .u8 (at8 rb 6)) ∧ w'.cell? ⟨gb, k * 8 + 7, none⟩ = some (.int .u8 (at8 rb 7)))) (by kernel_rfl) ?_ (fun hHeld => ?_)
     ·with_reducible exact (HRB.out _ KB.out).flat
     refine wpAnyH_take (i := 0) (oi := { dst := some 19, op := Op.move (Operand.tmp 2), type := 26, pos := "l03_normal.go:71", after := #[], guard := none }) (v := ?_) rfl (by kernel_rfl) (by kernel_rfl) (by kernel_rfl) (fun _ _ _ h => h) (Or.inl ⟨by rfl, ?_⟩) (by assumption) ?_
     rotate_left
     ·intro w hSw
      (try dsimp only at hSw)
      go_simp
      try with_reducible rfl
     try simp only [Act.put, List.setIfInBounds_toArray, List.set_cons_zero, List.set_cons_succ]
     refine wpAnyH_take (i := 1) (oi := { dst := some 20, op := Op.move (Operand.tmp 8), type := 3, pos := "l03_normal.go:71", after := #[], guard := none }) (v := ?_) rfl (by kernel_rfl) (by kernel_rfl) (by kernel_rfl) (fun _ _ _ h => h) (Or.inl ⟨by rfl, ?_⟩) (by assumption) ?_
     rotate_left
     ·intro w hSw
      (try dsimp only at hSw)
      go_simp
      try with_reducible rfl
     try simp only [Act.put, List.setIfInBounds_toArray, List.set_cons_zero, List.set_cons_succ]
     refine wpAnyH_take (i := 2) (oi := { dst := some 21, op := Op.binOp BinOp.sub 3 (Operand.tmp 20) (Operand.const (Value.int IntKind.i64 1)) 3, type := 3, pos := "l03_normal.go:71", after := #[{ on := 1, ground := Ground.data }], guard := none }) (v := ?_) rfl (by kernel_rfl) (by kernel_rfl) (by kernel_rfl) (fun _ _ _ h => h) (Or.inl ⟨by rfl, ?_⟩) (by assumption) ?_
     rotate_left
     ·intro w hSw
      (try dsimp only at hSw)
      go_simp
      try with_reducible rfl
     try simp only [Act.put, List.setIfInBounds_toArray, List.set_cons_zero, List.set_cons_succ]
     refine wpAnyH_take (i := 3) (oi := { dst := some 22, op := Op.indexAddr 26 (Operand.tmp 19) (Operand.tmp 21), type := 0, pos := "l03_normal.go:71", after := #[{ on := 0, ground := Ground.data }, { on := 2, ground := Ground.data }], guard := none }) (v := ?_) rfl (by kernel_rfl) (by kernel_rfl) (by kernel_rfl) (fun _ _ _ h => h) (Or.inl ⟨by rfl, ?_⟩) (by assumption) ?_
     rotate_left
     ·intro w hSw
      (try dsimp only at hSw)
      go_simp
      try with_reducible rfl
     try simp only [Act.put, List.setIfInBounds_toArray, List.set_cons_zero, List.set_cons_succ]
     refine wpAnyH_take (i := 4) (oi := { dst := some 23, op := Op.load 77 (Operand.tmp 22), type := 77, pos := "l03_normal.go:71", after := #[{ on := 3, ground := Ground.data }], guard := none }) (v := ?_) rfl (by kernel_rfl) (by kernel_rfl) (by kernel_rfl) (fun _ _ _ h => h) (Or.inl ⟨by rfl, ?_⟩) (by assumption) ?_
     rotate_left
     ·intro w hSw
      (try dsimp only at hSw)
      go_simp
      try with_reducible rfl
     try simp only [Act.put, List.setIfInBounds_toArray, List.set_cons_zero, List.set_cons_succ]
     refine wpAnyH_take (i := 5) (oi := { dst := some 24, op := Op.move (Operand.tmp 0), type := 2, pos := "l03_normal.go:71", after := #[], guard := none }) (v := ?_) rfl (by kernel_rfl) (by kernel_rfl) (by kernel_rfl) (fun _ _ _ h => h) (Or.inl ⟨by rfl, ?_⟩) (by assumption) ?_
     rotate_left
     ·intro w hSw
      (try dsimp only at hSw)
      go_simp
      try with_reducible rfl
     try simp only [Act.put, List.setIfInBounds_toArray, List.set_cons_zero, List.set_cons_succ]
     refine wpAnyH_ready (rs := [6]) (by kernel_rfl) (by simp) ?_
     refine AllReadyH.cons (o := { dst := some 25, op := Op.call { callee := Callee.value (Operand.func 84), args := #[Operand.tmp 24], argTypes := #[2] }, type := 77, pos := "l03_normal.go:71", after := #[{ on := 5, ground := Ground.data }], guard := none }) rfl (fun K hK => ?_) ?_
     ·go_simp
      refine (nothing_any m m8 _).mono ?_
      rintro e w4 ⟨rfl, gg⟩
      replace Z := Lib.hid (Z.out.below gg)
      replace KB := Lib.hid (below_go KB.out gg KB.out.size)
      clear gg
      go_wp2_with fail
      refine hK.out _ _ ?_ (fun hHeld => ?_)
      ·with_reducible exact (HRB.out _ KB.out).flat
      clear hK K
      try simp only [Act.put, List.setIfInBounds_toArray, List.set_cons_zero, List.set_cons_succ]
      refine wpAnyH_ready (rs := [7]) (by kernel_rfl) (by simp) ?_
      refine AllReadyH.cons (o := { dst := some 26, op := Op.binOp BinOp.eql 77 (Operand.tmp 23) (Operand.tmp 25) 77, type := 4, pos := "l03_normal.go:71", after := #[{ on := 4, ground := Ground.data }, { on := 6, ground := Ground.data }], guard := none }) rfl (fun K hK => ?_) ?_
      ·go_simp
       refine hK.out _ _ ?_ (fun hHeld => ?_)
       ·with_reducible exact (HRB.out _ KB.out).flat
       clear hK K
       try simp only [Act.put, List.setIfInBounds_toArray, List.set_cons_zero, List.set_cons_succ]
       refine wpAnyH_done (by kernel_rfl) ?_ _
       have HKF : Hid (q = p ∧ kf = (R.take k).drop 0) := Lib.hid (by have h := HQ2.out; rw [if_neg HE1.out, if_pos HE2.out] at h; simpa using h)
       obtain rfl : p = q := HKF.out.1.symm
       have hcap := HCP.out
       obtain ⟨x0, ⟨x1, x2, x3⟩, y1, y2, y3⟩ := Z.out
       have hc1 : ((k : Int) : Int) ≤ (cap : Int) := by omega
       have OS : Hid (∀ u v x, OwnS B (((w4.setCell ⟨w.heap.size, 0, none⟩ u).setCell ⟨w.heap.size, 1, none⟩ v).setCell ⟨w.heap.size, 2, none⟩ x) (some ⟨gb, 0, none⟩) k kf) := Lib.hid fun u v x => by
        have h1 := (HC.out _ KB.out).sub 0 k (by omega) (by omega)
        rw [← HKF.out.2] at h1
        have h2 := h1.heap (w' := ((w4.setCell ⟨w.heap.size, 0, none⟩ u).setCell ⟨w.heap.size, 1, none⟩ v).setCell ⟨w.heap.size, 2, none⟩ x) (by simp [World.setCell]) (fun y hy _ _ => by cases hy; rw [Below.heap_setCell _ _ _ _ (by have := HGB.out.2; simp at this ⊢; omega), Below.heap_setCell _ _ _ _ (by have := HGB.out.2; simp at this ⊢; omega), Below.heap_setCell _ _ _ _ (by have := HGB.out.2; simp at this ⊢; omega)])
        simpa using h2
       go_wp2
       try rw [Exit.noGoto_ret]
       (obtain ⟨_, ⟨e1, e2, e3⟩, _⟩ := Z.out.fill (.int .i64 m) (.int .i64 (p)) (.slice (some ⟨gb, 0, none⟩) k k); exact bodyPost_ret (v := .agg #[.int .i64 m, .int .i64 (p), .slice (some ⟨gb, 0, none⟩) k k]) (by simp [results, Try.results106, go_sem, e1, e2, e3]) rfl ⟨_, k, k, rfl, Nat.le_refl _, OS.out _ _ _, below_set3 KB.out (Nat.le_refl _) _ _ _⟩)
      exact AllReadyH.nil
     exact AllReadyH.nil
    ·have heq2 : ∀ W, Sem.run Try.prog (Op.equalIn 10000 77 (arr8 .u8 rb) (arr8 .u8 (sameR m))) W = .ok false W := fun W => by rw [equal8 rb (sameR m) SB.out.len (mapR_len _ _ m8) W, decide_eq_false he2]
     have HE2 := Lib.hid he2; clear he2
     replace KB := Lib.hid KB.out.drew
     replace Z := Lib.hid Z.out.drew
     refine wp_region_held_drew (S := (fun w' => w'.cell? ⟨gb, k * 8, none⟩ = some (.int .u8 (at8 rb 0)) ∧ w'.cell? ⟨gb, k * 8 + 1, none⟩ = some (.int .u8 (at8 rb 1)) ∧ w'.cell? ⟨gb, k * 8 + 2, none⟩ = some (.int .u8 (at8 rb 2)) ∧ w'.cell? ⟨gb, k * 8 + 3, none⟩ = some (.int .u8 (at8 rb 3)) ∧ w'.cell? ⟨gb, k * 8 + 4, none⟩ = some (.int .u8 (at8 rb 4)) ∧ w'.cell? ⟨gb, k * 8 + 5, none⟩ = some (.int .u8 (at8 rb 5)) ∧ w'.cell? ⟨gb, k * 8 + 6, none⟩ = some (.int .u8 (at8 rb 6)) ∧ w'.cell? ⟨gb, k * 8 + 7, none⟩ = some (.int .u8 (at8 rb 7)))) (by kernel_rfl) ?_ (fun hHeld => ?_)
     ·with_reducible exact (HRB.out _ KB.out).flat
     refine wpAnyH_take (i := 0) (oi := { dst := some 19, op := Op.move (Operand.tmp 2), type := 26, pos := "l03_normal.go:71", after := #[], guard := none }) (v := ?_) rfl (by kernel_rfl) (by kernel_rfl) (by kernel_rfl) (fun _ _ _ h => h) (Or.inl ⟨by rfl, ?_⟩) (by assumption) ?_
     rotate_left
     ·intro w hSw
      (try dsimp only at hSw)
      go_simp
      try with_reducible rfl
     try simp only [Act.put, List.setIfInBounds_toArray, List.set_cons_zero, List.set_cons_succ]
     refine wpAnyH_take (i := 1) (oi := { dst := some 20, op := Op.move (Operand.tmp 8), type := 3, pos := "l03_normal.go:71", after := #[], guard := none }) (v := ?_) rfl (by kernel_rfl) (by kernel_rfl) (by kernel_rfl) (fun _ _ _ h => h) (Or.inl ⟨by rfl, ?_⟩) (by assumption) ?_
     rotate_left
     ·intro w hSw
      (try dsimp only at hSw)
      go_simp
      try with_reducible rfl
     try simp only [Act.put, List.setIfInBounds_toArray, List.set_cons_zero, List.set_cons_succ]
     refine wpAnyH_take (i := 2) (oi := { dst := some 21, op := Op.binOp BinOp.sub 3 (Operand.tmp 20) (Operand.const (Value.int IntKind.i64 1)) 3, type := 3, pos := "l03_normal.go:71", after := #[{ on := 1, ground := Ground.data }], guard := none }) (v := ?_) rfl (by kernel_rfl) (by kernel_rfl) (by kernel_rfl) (fun _ _ _ h => h) (Or.inl ⟨by rfl, ?_⟩) (by assumption) ?_
     rotate_left
     ·intro w hSw
      (try dsimp only at hSw)
      go_simp
      try with_reducible rfl
     try simp only [Act.put, List.setIfInBounds_toArray, List.set_cons_zero, List.set_cons_succ]
     refine wpAnyH_take (i := 3) (oi := { dst := some 22, op := Op.indexAddr 26 (Operand.tmp 19) (Operand.tmp 21), type := 0, pos := "l03_normal.go:71", after := #[{ on := 0, ground := Ground.data }, { on := 2, ground := Ground.data }], guard := none }) (v := ?_) rfl (by kernel_rfl) (by kernel_rfl) (by kernel_rfl) (fun _ _ _ h => h) (Or.inl ⟨by rfl, ?_⟩) (by assumption) ?_
     rotate_left
     ·intro w hSw
      (try dsimp only at hSw)
      go_simp
      try with_reducible rfl
     try simp only [Act.put, List.setIfInBounds_toArray, List.set_cons_zero, List.set_cons_succ]
     refine wpAnyH_take (i := 4) (oi := { dst := some 23, op := Op.load 77 (Operand.tmp 22), type := 77, pos := "l03_normal.go:71", after := #[{ on := 3, ground := Ground.data }], guard := none }) (v := ?_) rfl (by kernel_rfl) (by kernel_rfl) (by kernel_rfl) (fun _ _ _ h => h) (Or.inl ⟨by rfl, ?_⟩) (by assumption) ?_
     rotate_left
     ·intro w hSw
      (try dsimp only at hSw)
      go_simp
      try with_reducible rfl
     try simp only [Act.put, List.setIfInBounds_toArray, List.set_cons_zero, List.set_cons_succ]
     refine wpAnyH_take (i := 5) (oi := { dst := some 24, op := Op.move (Operand.tmp 0), type := 2, pos := "l03_normal.go:71", after := #[], guard := none }) (v := ?_) rfl (by kernel_rfl) (by kernel_rfl) (by kernel_rfl) (fun _ _ _ h => h) (Or.inl ⟨by rfl, ?_⟩) (by assumption) ?_
     rotate_left
     ·intro w hSw
      (try dsimp only at hSw)
      go_simp
      try with_reducible rfl
     try simp only [Act.put, List.setIfInBounds_toArray, List.set_cons_zero, List.set_cons_succ]
     refine wpAnyH_ready (rs := [6]) (by kernel_rfl) (by simp) ?_
     refine AllReadyH.cons (o := { dst := some 25, op := Op.call { callee := Callee.value (Operand.func 84), args := #[Operand.tmp 24], argTypes := #[2] }, type := 77, pos := "l03_normal.go:71", after := #[{ on := 5, ground := Ground.data }], guard := none }) rfl (fun K hK => ?_) ?_
     ·go_simp
      refine (nothing_any m m8 _).mono ?_
      rintro e w4 ⟨rfl, gg⟩
      replace Z := Lib.hid (Z.out.below gg)
      replace KB := Lib.hid (below_go KB.out gg KB.out.size)
      clear gg
      go_wp2_with fail
      refine hK.out _ _ ?_ (fun hHeld => ?_)
      ·with_reducible exact (HRB.out _ KB.out).flat
      clear hK K
      try simp only [Act.put, List.setIfInBounds_toArray, List.set_cons_zero, List.set_cons_succ]
      refine wpAnyH_ready (rs := [7]) (by kernel_rfl) (by simp) ?_
      refine AllReadyH.cons (o := { dst := some 26, op := Op.binOp BinOp.eql 77 (Operand.tmp 23) (Operand.tmp 25) 77, type := 4, pos := "l03_normal.go:71", after := #[{ on := 4, ground := Ground.data }, { on := 6, ground := Ground.data }], guard := none }) rfl (fun K hK => ?_) ?_
      ·go_simp
       refine hK.out _ _ ?_ (fun hHeld => ?_)
       ·with_reducible exact (HRB.out _ KB.out).flat
       clear hK K
       try simp only [Act.put, List.setIfInBounds_toArray, List.set_cons_zero, List.set_cons_succ]
       refine wpAnyH_done (by kernel_rfl) ?_ _
       have HKF : Hid (q = p ∧ kf = (R.take (k + 1)).drop 0) := Lib.hid (by have h := HQ2.out; rw [if_neg HE1.out, if_neg HE2.out] at h; simpa using h)
       obtain rfl : p = q := HKF.out.1.symm
       have hcap := HCP.out
       obtain ⟨x0, ⟨x1, x2, x3⟩, y1, y2, y3⟩ := Z.out
       have hc1 : (((k + 1 : Nat) : Int) : Int) ≤ (cap : Int) := by omega
       have OS : Hid (∀ u v x, OwnS B (((w4.setCell ⟨w.heap.size, 0, none⟩ u).setCell ⟨w.heap.size, 1, none⟩ v).setCell ⟨w.heap.size, 2, none⟩ x) (some ⟨gb, 0, none⟩) (k + 1) kf) := Lib.hid fun u v x => by
        have h1 := (HC.out _ KB.out).sub 0 (k + 1) (by omega) (by omega)
        rw [← HKF.out.2] at h1
        have h2 := h1.heap (w' := ((w4.setCell ⟨w.heap.size, 0, none⟩ u).setCell ⟨w.heap.size, 1, none⟩ v).setCell ⟨w.heap.size, 2, none⟩ x) (by simp [World.setCell]) (fun y hy _ _ => by cases hy; rw [Below.heap_setCell _ _ _ _ (by have := HGB.out.2; simp at this ⊢; omega), Below.heap_setCell _ _ _ _ (by have := HGB.out.2; simp at this ⊢; omega), Below.heap_setCell _ _ _ _ (by have := HGB.out.2; simp at this ⊢; omega)])
        simpa using h2
       go_wp2
       try rw [Exit.noGoto_ret]
       (obtain ⟨_, ⟨e1, e2, e3⟩, _⟩ := Z.out.fill (.int .i64 m) (.int .i64 (p)) (.slice (some ⟨gb, 0, none⟩) (k + 1) (k + 1)); exact bodyPost_ret (v := .agg #[.int .i64 m, .int .i64 (p), .slice (some ⟨gb, 0, none⟩) (k + 1) (k + 1)]) (by simp [results, Try.results106, go_sem, e1, e2, e3]) rfl ⟨_, (k + 1), (k + 1), rfl, Nat.le_refl _, OS.out _ _ _, below_set3 KB.out (Nat.le_refl _) _ _ _⟩)
      exact AllReadyH.nil
     exact AllReadyH.nil
   exact AllReadyH.nil
  exact AllReadyH.nil

end Go.Proofs.Yteffndmifogicaa

