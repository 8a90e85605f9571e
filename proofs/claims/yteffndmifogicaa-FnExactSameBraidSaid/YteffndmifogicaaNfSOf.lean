/- The model: the normal form of a word. -/
import Derived.Test.YteffndmifogicaaNfSTim
import Derived.Test.YteffndmifogicaaNfSCyc
namespace Go.Proofs.Yteffndmifogicaa
open Go.RowKit Go.ChangeShapes

theorem ofW_len {m : Nat} (xs : List Int) {e : Int} {kf : List (List Int)} (h : ofW m xs = (e, kf)) : kf.length ≤ xs.length ∧ -(xs.length : Int) ≤ e ∧ e + kf.length ≤ xs.length := by
 have h1 := mkN_len m (-(negs xs : Int)) (rawB m xs)
 rw [show mkN m (-(negs xs : Int)) (rawB m xs) = (e, kf) from h, rawB_len] at h1
 have h2 := negs_le xs
 dsimp only at h1
 omega

theorem ofW_nl {m : Nat} (h1 : 1 ≤ m) (h8 : m ≤ 8) {xs : List Int} (hx : Letters m xs) {e : Int} {kf : List (List Int)} (h : ofW m xs = (e, kf)) : Nl m kf := by
 have h2 := mkN_nl (n := m) (p := -(negs xs : Int)) (l := rawB m xs) (rawB_sims h1 h8 hx)
 rw [show mkN m (-(negs xs : Int)) (rawB m xs) = (e, kf) from h] at h2
 exact h2

set_option maxRecDepth 100000 in
set_option maxHeartbeats 4000000 in
theorem l03Of_any (m : Nat) (m1 : 1 ≤ m) (m8 : m ≤ 8) (a : Option Addr) (n cap : Nat) (xs : List Int) (w : World) (hr : Reads w a n xs) (hx : Letters m xs) (hn : n ≤ 1000) (e : Int) (kf : List (List Int)) (hM : ofW m xs = (e, kf)) :
  Calls Try.prog 72 #[.int .i64 m, .slice a n cap] w (RetNS w.heap.size w m e kf) := by
 have HN := Lib.hid hr.len
 have R := Lib.hid hr
 have HX := Lib.hid hx
 have HM := Lib.hid hM
 clear hr hx hM
 go_enter Try.func72, Try.ntmps72
 have Z := Lib.hid (At3.place w (.int .i64 0) (.int .i64 0) (.slice none 0 0) 28 w.heap.size rfl)
 have B := Lib.hid (below1 w (.cells #[.int .i64 0, .int .i64 0, .slice none 0 0] 28))
 go_upto_region 1 with fail
 obtain ⟨W0, hW0⟩ : ∃ W0, W0 = w.alloc (.cells #[.int .i64 0, .int .i64 0, .slice none 0 0] 28) := ⟨_, rfl⟩
 have zz : Hid (W0.heap.size = w.heap.size + 1) := Lib.hid (by rw [hW0]; simp)
 rw [← hW0] at Z B ⊢
 clear hW0
 obtain ⟨gp, hgp⟩ : ∃ gp, gp = W0.heap.size := ⟨_, rfl⟩
 have HG : Hid (gp = w.heap.size + 1) := Lib.hid (by rw [hgp]; exact zz.out)
 have OW := Lib.hid (At3.place W0 (.int .i64 m) (.int .i64 0) (.slice none 0 0) 28 gp hgp.symm)
 replace Z := Lib.hid (Z.out.alloc (.cells #[.int .i64 m, .int .i64 0, .slice none 0 0] 28))
 replace B := Lib.hid (B.out.alloc B.out.size (.cells #[.int .i64 m, .int .i64 0, .slice none 0 0] 28))
 go_wp2
 rw [← hgp]
 clear hgp
 go_loopg [6] n (fun g v wx => ∃ j e2 ak nk ck lk, j ≤ n ∧ g + j = n ∧ v = .int .i64 (j : Nat) ∧ At3 wx gp (.int .i64 m) (.int .i64 e2) (.slice ak nk ck) ∧ OwnS (w.heap.size + 1 + 1) wx ak nk lk ∧ nk ≤ ck ∧ ofW m (xs.take j) = (e2, lk) ∧ At3 wx w.heap.size (.int .i64 0) (.int .i64 0) (.slice none 0 0) ∧ Below w.heap.size w wx)
 case atStart => exact ⟨0, 0, none, 0, 0, [], Nat.zero_le _, by omega, rfl, OW.out, OwnS.nil _ _ _, Nat.le_refl _, by rw [List.take_zero]; exact ofW_nil m, Z.out, B.out⟩
 case round =>
  obtain ⟨j, e2, ak, nk, ck, lk, hj, hgj, rfl, hO, hS, hck, hof, hZ, hB⟩ := hrel
  clear OW Z B
  have OW := Lib.hid hO
  have OS := Lib.hid hS
  have OF := Lib.hid hof
  have Z := Lib.hid hZ
  have B := Lib.hid hB
  clear hO hS hof hZ hB
  have hnk := OS.out.len
  have hbd := ofW_len (m := m) (xs.take j) OF.out
  rw [List.length_take, HN.out] at hbd
  by_cases hlt : j < n
  ·obtain ⟨b, off, rfl, hcl⟩ : ∃ b off, a = some ⟨b, off, none⟩ ∧ ∀ k, k < n → w.cell? ⟨b, off + k, none⟩ = some (.int .i64 (xs.getD k 0)) := by
    rcases R.out.2 with h | ⟨b, off, ha, hc⟩
    ·omega
    ·exact ⟨b, off, ha, hc⟩
   obtain ⟨x, hxx⟩ : ∃ x, x = xs.getD j 0 := ⟨_, rfl⟩
   have hbl : b < w.heap.size := World.block_lt_of_cell? _ _ (hcl j hlt)
   have hcx : wr.cell? ⟨b, off + j, none⟩ = some (.int .i64 x) := by rw [hxx]; exact (B.out.cell hbl).trans (hcl j hlt)
   have hxl : x ≠ 0 ∧ -(m : Int) < x ∧ x < m := by
    rw [hxx]
    refine HX.out _ ?_
    rw [List.getD, List.getElem?_eq_getElem (by rw [HN.out]; exact hlt)]
    exact List.getElem_mem _
   have hm2 : 1 < m := by omega
   have hi1 : (j : Int) < (n : Int) := by omega
   have hi2 : (0 : Int) ≤ (j : Int) := by omega
   have hwj : ((j : Int)).toNat = j := by omega
   have HTK : Hid (xs.take (j + 1) = xs.take j ++ [x]) := Lib.hid (by
    rw [List.take_succ_eq_append_getElem (by rw [HN.out]; exact hlt), hxx, List.getD, List.getElem?_eq_getElem (by rw [HN.out]; exact hlt)]
    rfl)
   have HLT : Hid (Letters m (xs.take j)) := Lib.hid fun y hy => HX.out y (List.mem_of_mem_take hy)
   have HNK := Lib.hid (ofW_nl m1 m8 HLT.out OF.out)
   have HCX : Hid (∀ W, Below w.heap.size w W → W.cell? ⟨b, off + j, none⟩ = some (.int .i64 x)) := Lib.hid fun W h => by rw [hxx]; exact (h.cell hbl).trans (hcl j hlt)
   clear hcl hxx
   by_cases hpos : 0 < x
   ·obtain ⟨k, rfl⟩ : ∃ k : Nat, x = (k : Int) + 1 := ⟨(x - 1).toNat, by omega⟩
    obtain ⟨e3, l3, h3⟩ : ∃ e3 l3, ofW m (xs.take (j + 1)) = (e3, l3) := ⟨_, _, rfl⟩
    have H3 := Lib.hid h3
    have HT : Hid (mkN m e2 (lk ++ [exR m k]) = (e3, l3)) := Lib.hid (by
     have h := ofW_pos hm2 m8 HLT.out hxl hpos
     rw [OF.out, ← HTK.out, h3, show (((k : Int) + 1) - 1).toNat = k by omega] at h
     exact h)
    clear h3
    go_upto_region 6 with fail
    have hsz : w.heap.size + 1 + 1 ≤ wr.heap.size := by have h := OW.out.1; have h2 := HG.out; omega
    have KB : Hid (Below wr.heap.size wr wr.drew) := Lib.hid (Below.refl wr.heap.size wr).drew
    have SH : Hid (∀ W, Below wr.heap.size wr W → W.cell? ⟨b, off + j, none⟩ = some (.int .i64 ((k : Int) + 1))) := Lib.hid fun W h => HCX.out W (below_go B.out h B.out.size)
    have SZ : Hid (∀ W, Below wr.heap.size wr W → ∀ u v y, (((W.setCell ⟨gp, 0, none⟩ u).setCell ⟨gp, 1, none⟩ v).setCell ⟨gp, 2, none⟩ y).cell? ⟨b, off + j, none⟩ = some (.int .i64 ((k : Int) + 1))) := Lib.hid fun W h u v y => HCX.out _ (below_set3 (below_go B.out h B.out.size) (by have h2 := HG.out; omega) u v y)
    have HSZ := Lib.hid hsz
    clear hsz hcx
    obtain ⟨x0, ⟨x1, x2, x3⟩, y1, y2, y3⟩ := OW.out
    refine wp_region_held_drew (S := (fun w' => w'.cell? ⟨b, off + j, none⟩ = some (.int .i64 ((k : Int) + 1)))) (by kernel_rfl) ?_ (fun hHeld => ?_)
    ·(first | with_reducible exact SH.out _ KB.out | with_reducible exact SZ.out _ KB.out _ _ _)
    refine wpAnyH_take (i := 1) (oi := { dst := some 21, op := Op.move (Operand.tmp 0), type := 2, pos := "l03_normal.go:94", after := #[], guard := none }) (v := ?_) rfl (by kernel_rfl) (by kernel_rfl) (by kernel_rfl) (fun _ _ _ h => h) (Or.inl ⟨by rfl, ?_⟩) (by assumption) ?_
    rotate_left
    ·intro w hSw
     (try dsimp only at hSw)
     go_simp
     try with_reducible rfl
    try simp only [Act.put, List.setIfInBounds_toArray, List.set_cons_zero, List.set_cons_succ]
    refine wpAnyH_take (i := 2) (oi := { dst := some 22, op := Op.move (Operand.tmp 1), type := 35, pos := "l03_normal.go:94", after := #[], guard := none }) (v := ?_) rfl (by kernel_rfl) (by kernel_rfl) (by kernel_rfl) (fun _ _ _ h => h) (Or.inl ⟨by rfl, ?_⟩) (by assumption) ?_
    rotate_left
    ·intro w hSw
     (try dsimp only at hSw)
     go_simp
     try with_reducible rfl
    try simp only [Act.put, List.setIfInBounds_toArray, List.set_cons_zero, List.set_cons_succ]
    refine wpAnyH_take (i := 3) (oi := { dst := some 23, op := Op.move (Operand.tmp 6), type := 3, pos := "l03_normal.go:94", after := #[], guard := none }) (v := ?_) rfl (by kernel_rfl) (by kernel_rfl) (by kernel_rfl) (fun _ _ _ h => h) (Or.inl ⟨by rfl, ?_⟩) (by assumption) ?_
    rotate_left
    ·intro w hSw
     (try dsimp only at hSw)
     go_simp
     try with_reducible rfl
    try simp only [Act.put, List.setIfInBounds_toArray, List.set_cons_zero, List.set_cons_succ]
    refine wpAnyH_take (i := 4) (oi := { dst := some 24, op := Op.indexAddr 35 (Operand.tmp 22) (Operand.tmp 23), type := 0, pos := "l03_normal.go:94", after := #[{ on := 2, ground := Ground.data }, { on := 3, ground := Ground.data }], guard := none }) (v := ?_) rfl (by kernel_rfl) (by kernel_rfl) (by kernel_rfl) (fun _ _ _ h => h) (Or.inl ⟨by rfl, ?_⟩) (by assumption) ?_
    rotate_left
    ·intro w hSw
     (try dsimp only at hSw)
     go_simp
     try with_reducible rfl
    try simp only [Act.put, List.setIfInBounds_toArray, List.set_cons_zero, List.set_cons_succ]
    refine wpAnyH_take (i := 5) (oi := { dst := some 25, op := Op.load 2 (Operand.tmp 24), type := 2, pos := "l03_normal.go:94", after := #[{ on := 4, ground := Ground.data }], guard := none }) (v := ?_) rfl (by kernel_rfl) (by kernel_rfl) (by kernel_rfl) (fun _ _ _ h => h) (Or.inl ⟨by rfl, ?_⟩) (by assumption) ?_
    rotate_left
    ·intro w hSw
     (try dsimp only at hSw)
     go_simp
     try with_reducible rfl
    try simp only [Act.put, List.setIfInBounds_toArray, List.set_cons_zero, List.set_cons_succ]
    refine wpAnyH_ready (rs := [0, 6]) (by kernel_rfl) (by simp) ?_
    refine AllReadyH.cons (o := { dst := some 20, op := Op.load 28 (Operand.tmp 5), type := 28, pos := "l03_normal.go:94", after := #[], guard := none }) rfl (fun K hK => ?_) ?_
    ·go_simp
     refine hK.out _ _ ?_ (fun hHeld => ?_)
     ·(first | with_reducible exact SH.out _ KB.out | with_reducible exact SZ.out _ KB.out _ _ _)
     clear hK K
     try simp only [Act.put, List.setIfInBounds_toArray, List.set_cons_zero, List.set_cons_succ]
     refine wpAnyH_ready (rs := [6]) (by kernel_rfl) (by simp) ?_
     refine AllReadyH.cons (o := { dst := some 26, op := Op.call { callee := Callee.value (Operand.func 96), args := #[Operand.tmp 21, Operand.tmp 25], argTypes := #[2, 2] }, type := 77, pos := "l03_normal.go:94", after := #[{ on := 1, ground := Ground.data }, { on := 5, ground := Ground.data }], guard := none }) rfl (fun K hK => ?_) ?_
     ·go_simp
      refine (l02Exchange_any m k m8 (by omega) _).mono ?_
      rintro e5 w5 ⟨rfl, gg⟩
      replace KB := Lib.hid (below_go KB.out gg KB.out.size)
      clear gg x0 x1 x2 x3 y1 y2 y3
      obtain ⟨x0, ⟨x1, x2, x3⟩, y1, y2, y3⟩ := OW.out.below KB.out
      go_wp2_with fail
      refine hK.out _ _ ?_ (fun hHeld => ?_)
      ·(first | with_reducible exact SH.out _ KB.out | with_reducible exact SZ.out _ KB.out _ _ _)
      clear hK K
      try simp only [Act.put, List.setIfInBounds_toArray, List.set_cons_zero, List.set_cons_succ]
      refine wpAnyH_ready (rs := [7]) (by kernel_rfl) (by simp) ?_
      refine AllReadyH.cons (o := { dst := some 27, op := Op.call { callee := Callee.value (Operand.func 61), args := #[Operand.tmp 20, Operand.tmp 26, Operand.const (Value.bool false)], argTypes := #[28, 77, 4] }, type := 28, pos := "l03_normal.go:94", after := #[{ on := 0, ground := Ground.data }, { on := 6, ground := Ground.data }, { on := 6, ground := Ground.chain }], guard := none }) rfl (fun K hK => ?_) ?_
      ·go_simp
       refine (l03Times_pos m m1 m8 e2 (by omega) ak nk ck lk (exR m k) _ (OS.out.reads.below KB.out) HNK.out.sims (exR_sim m k m8 (by omega)) (by omega) e3 l3 HT.out).mono ?_
       rintro e6 w6 ⟨a6, n6, c6, rfl, ho, gg⟩
       have HO := Lib.hid (ho.mono (Nat.le_trans HSZ.out KB.out.size)).toS
       have HCP := Lib.hid ho.cap_le
       replace KB := Lib.hid (below_go KB.out gg KB.out.size)
       clear ho gg x0 x1 x2 x3 y1 y2 y3
       obtain ⟨x0, ⟨x1, x2, x3⟩, y1, y2, y3⟩ := OW.out.below KB.out
       go_wp2_with fail
       refine hK.out _ _ ?_ (fun hHeld => ?_)
       ·(first | with_reducible exact SH.out _ KB.out | with_reducible exact SZ.out _ KB.out _ _ _)
       clear hK K
       try simp only [Act.put, List.setIfInBounds_toArray, List.set_cons_zero, List.set_cons_succ]
       refine wpAnyH_ready (rs := [8]) (by kernel_rfl) (by simp) ?_
       refine AllReadyH.cons (o := { dst := none, op := Op.store 28 (Operand.tmp 5) (Operand.tmp 27), type := 0, pos := "l03_normal.go:94", after := #[{ on := 7, ground := Ground.data }, { on := 7, ground := Ground.chain }, { on := 0, ground := Ground.phase }, { on := 1, ground := Ground.phase }, { on := 2, ground := Ground.phase }, { on := 3, ground := Ground.phase }, { on := 4, ground := Ground.phase }, { on := 5, ground := Ground.phase }, { on := 6, ground := Ground.phase }, { on := 7, ground := Ground.phase }], guard := none }) rfl (fun K hK => ?_) ?_
       ·go_simp
        refine hK.out _ _ ?_ (fun hHeld => ?_)
        ·(first | with_reducible exact SH.out _ KB.out | with_reducible exact SZ.out _ KB.out _ _ _)
        clear hK K
        try simp only [Act.put, List.setIfInBounds_toArray, List.set_cons_zero, List.set_cons_succ]
        refine wpAnyH_done (by kernel_rfl) ?_ _
        go_wp2_with fail
        go_roundg (gk - 1)
        case measure => omega
        case rel =>
         have hg := HG.out
         have HG2 := Lib.hid hg
         clear hg
         exact ⟨j + 1, e3, a6, n6, c6, l3, by omega, by omega, by go_num, (OW.out.below KB.out).fill _ _ _, HO.out.set3 (by have h := HG2.out; omega) _ _ _, HCP.out, H3.out, (Z.out.below KB.out).set3 (by have h := HG2.out; omega) _ _ _, below_set3 (below_go B.out KB.out B.out.size) (by have h := HG2.out; omega) _ _ _⟩
       exact AllReadyH.nil
      exact AllReadyH.nil
     exact AllReadyH.nil
    refine AllReadyH.cons (o := { dst := some 26, op := Op.call { callee := Callee.value (Operand.func 96), args := #[Operand.tmp 21, Operand.tmp 25], argTypes := #[2, 2] }, type := 77, pos := "l03_normal.go:94", after := #[{ on := 1, ground := Ground.data }, { on := 5, ground := Ground.data }], guard := none }) rfl (fun K hK => ?_) ?_
    ·go_simp
     refine (l02Exchange_any m k m8 (by omega) _).mono ?_
     rintro e5 w5 ⟨rfl, gg⟩
     replace KB := Lib.hid (below_go KB.out gg KB.out.size)
     clear gg x0 x1 x2 x3 y1 y2 y3
     obtain ⟨x0, ⟨x1, x2, x3⟩, y1, y2, y3⟩ := OW.out.below KB.out
     go_wp2_with fail
     refine hK.out _ _ ?_ (fun hHeld => ?_)
     ·(first | with_reducible exact SH.out _ KB.out | with_reducible exact SZ.out _ KB.out _ _ _)
     clear hK K
     try simp only [Act.put, List.setIfInBounds_toArray, List.set_cons_zero, List.set_cons_succ]
     refine wpAnyH_ready (rs := [0]) (by kernel_rfl) (by simp) ?_
     refine AllReadyH.cons (o := { dst := some 20, op := Op.load 28 (Operand.tmp 5), type := 28, pos := "l03_normal.go:94", after := #[], guard := none }) rfl (fun K hK => ?_) ?_
     ·go_simp
      refine hK.out _ _ ?_ (fun hHeld => ?_)
      ·(first | with_reducible exact SH.out _ KB.out | with_reducible exact SZ.out _ KB.out _ _ _)
      clear hK K
      try simp only [Act.put, List.setIfInBounds_toArray, List.set_cons_zero, List.set_cons_succ]
      refine wpAnyH_ready (rs := [7]) (by kernel_rfl) (by simp) ?_
      refine AllReadyH.cons (o := { dst := some 27, op := Op.call { callee := Callee.value (Operand.func 61), args := #[Operand.tmp 20, Operand.tmp 26, Operand.const (Value.bool false)], argTypes := #[28, 77, 4] }, type := 28, pos := "l03_normal.go:94", after := #[{ on := 0, ground := Ground.data }, { on := 6, ground := Ground.data }, { on := 6, ground := Ground.chain }], guard := none }) rfl (fun K hK => ?_) ?_
      ·go_simp
       refine (l03Times_pos m m1 m8 e2 (by omega) ak nk ck lk (exR m k) _ (OS.out.reads.below KB.out) HNK.out.sims (exR_sim m k m8 (by omega)) (by omega) e3 l3 HT.out).mono ?_
       rintro e6 w6 ⟨a6, n6, c6, rfl, ho, gg⟩
       have HO := Lib.hid (ho.mono (Nat.le_trans HSZ.out KB.out.size)).toS
       have HCP := Lib.hid ho.cap_le
       replace KB := Lib.hid (below_go KB.out gg KB.out.size)
       clear ho gg x0 x1 x2 x3 y1 y2 y3
       obtain ⟨x0, ⟨x1, x2, x3⟩, y1, y2, y3⟩ := OW.out.below KB.out
       go_wp2_with fail
       refine hK.out _ _ ?_ (fun hHeld => ?_)
       ·(first | with_reducible exact SH.out _ KB.out | with_reducible exact SZ.out _ KB.out _ _ _)
       clear hK K
       try simp only [Act.put, List.setIfInBounds_toArray, List.set_cons_zero, List.set_cons_succ]
       refine wpAnyH_ready (rs := [8]) (by kernel_rfl) (by simp) ?_
       refine AllReadyH.cons (o := { dst := none, op := Op.store 28 (Operand.tmp 5) (Operand.tmp 27), type := 0, pos := "l03_normal.go:94", after := #[{ on := 7, ground := Ground.data }, { on := 7, ground := Ground.chain }, { on := 0, ground := Ground.phase }, { on := 1, ground := Ground.phase }, { on := 2, ground := Ground.phase }, { on := 3, ground := Ground.phase }, { on := 4, ground := Ground.phase }, { on := 5, ground := Ground.phase }, { on := 6, ground := Ground.phase }, { on := 7, ground := Ground.phase }], guard := none }) rfl (fun K hK => ?_) ?_
       ·go_simp
        refine hK.out _ _ ?_ (fun hHeld => ?_)
        ·(first | with_reducible exact SH.out _ KB.out | with_reducible exact SZ.out _ KB.out _ _ _)
        clear hK K
        try simp only [Act.put, List.setIfInBounds_toArray, List.set_cons_zero, List.set_cons_succ]
        refine wpAnyH_done (by kernel_rfl) ?_ _
        go_wp2_with fail
        go_roundg (gk - 1)
        case measure => omega
        case rel =>
         have hg := HG.out
         have HG2 := Lib.hid hg
         clear hg
         exact ⟨j + 1, e3, a6, n6, c6, l3, by omega, by omega, by go_num, (OW.out.below KB.out).fill _ _ _, HO.out.set3 (by have h := HG2.out; omega) _ _ _, HCP.out, H3.out, (Z.out.below KB.out).set3 (by have h := HG2.out; omega) _ _ _, below_set3 (below_go B.out KB.out B.out.size) (by have h := HG2.out; omega) _ _ _⟩
       exact AllReadyH.nil
      exact AllReadyH.nil
     exact AllReadyH.nil
    exact AllReadyH.nil
   ·obtain ⟨k, rfl⟩ : ∃ k : Nat, x = -((k : Int) + 1) := ⟨(-x - 1).toNat, by omega⟩
    obtain ⟨e3, l3, h3⟩ : ∃ e3 l3, ofW m (xs.take (j + 1)) = (e3, l3) := ⟨_, _, rfl⟩
    have H3 := Lib.hid h3
    have HT : Hid (mkN m (e2 - 1) (turns m 1 lk ++ [leftR m (exR m k)]) = (e3, l3)) := Lib.hid (by
     have h := ofW_neg hm2 m8 HLT.out hxl (by omega)
     rw [OF.out, ← HTK.out, h3, show (-(-((k : Int) + 1)) - 1).toNat = k by omega] at h
     exact h)
    clear h3
    go_upto_region 7 with fail
    have hng : IntKind.i64.wrap ((k : Int) + 1) = (k : Int) + 1 := IntWalk.i64_in _ (by omega)
    have hsz : w.heap.size + 1 + 1 ≤ wr.heap.size := by have h := OW.out.1; have h2 := HG.out; omega
    have KB : Hid (Below wr.heap.size wr wr.drew) := Lib.hid (Below.refl wr.heap.size wr).drew
    have SH : Hid (∀ W, Below wr.heap.size wr W → W.cell? ⟨b, off + j, none⟩ = some (.int .i64 (-((k : Int) + 1)))) := Lib.hid fun W h => HCX.out W (below_go B.out h B.out.size)
    have SZ : Hid (∀ W, Below wr.heap.size wr W → ∀ u v y, (((W.setCell ⟨gp, 0, none⟩ u).setCell ⟨gp, 1, none⟩ v).setCell ⟨gp, 2, none⟩ y).cell? ⟨b, off + j, none⟩ = some (.int .i64 (-((k : Int) + 1)))) := Lib.hid fun W h u v y => HCX.out _ (below_set3 (below_go B.out h B.out.size) (by have h2 := HG.out; omega) u v y)
    have HSZ := Lib.hid hsz
    clear hsz hcx
    obtain ⟨x0, ⟨x1, x2, x3⟩, y1, y2, y3⟩ := OW.out
    refine wp_region_held_drew (S := (fun w' => w'.cell? ⟨b, off + j, none⟩ = some (.int .i64 (-((k : Int) + 1))))) (by kernel_rfl) ?_ (fun hHeld => ?_)
    ·(first | with_reducible exact SH.out _ KB.out | with_reducible exact SZ.out _ KB.out _ _ _)
    refine wpAnyH_take (i := 1) (oi := { dst := some 29, op := Op.move (Operand.tmp 0), type := 2, pos := "l03_normal.go:96", after := #[], guard := none }) (v := ?_) rfl (by kernel_rfl) (by kernel_rfl) (by kernel_rfl) (fun _ _ _ h => h) (Or.inl ⟨by rfl, ?_⟩) (by assumption) ?_
    rotate_left
    ·intro w hSw
     (try dsimp only at hSw)
     go_simp
     try with_reducible rfl
    try simp only [Act.put, List.setIfInBounds_toArray, List.set_cons_zero, List.set_cons_succ]
    refine wpAnyH_take (i := 2) (oi := { dst := some 30, op := Op.move (Operand.tmp 1), type := 35, pos := "l03_normal.go:96", after := #[], guard := none }) (v := ?_) rfl (by kernel_rfl) (by kernel_rfl) (by kernel_rfl) (fun _ _ _ h => h) (Or.inl ⟨by rfl, ?_⟩) (by assumption) ?_
    rotate_left
    ·intro w hSw
     (try dsimp only at hSw)
     go_simp
     try with_reducible rfl
    try simp only [Act.put, List.setIfInBounds_toArray, List.set_cons_zero, List.set_cons_succ]
    refine wpAnyH_take (i := 3) (oi := { dst := some 31, op := Op.move (Operand.tmp 6), type := 3, pos := "l03_normal.go:96", after := #[], guard := none }) (v := ?_) rfl (by kernel_rfl) (by kernel_rfl) (by kernel_rfl) (fun _ _ _ h => h) (Or.inl ⟨by rfl, ?_⟩) (by assumption) ?_
    rotate_left
    ·intro w hSw
     (try dsimp only at hSw)
     go_simp
     try with_reducible rfl
    try simp only [Act.put, List.setIfInBounds_toArray, List.set_cons_zero, List.set_cons_succ]
    refine wpAnyH_take (i := 4) (oi := { dst := some 32, op := Op.indexAddr 35 (Operand.tmp 30) (Operand.tmp 31), type := 0, pos := "l03_normal.go:96", after := #[{ on := 2, ground := Ground.data }, { on := 3, ground := Ground.data }], guard := none }) (v := ?_) rfl (by kernel_rfl) (by kernel_rfl) (by kernel_rfl) (fun _ _ _ h => h) (Or.inl ⟨by rfl, ?_⟩) (by assumption) ?_
    rotate_left
    ·intro w hSw
     (try dsimp only at hSw)
     go_simp
     try with_reducible rfl
    try simp only [Act.put, List.setIfInBounds_toArray, List.set_cons_zero, List.set_cons_succ]
    refine wpAnyH_take (i := 5) (oi := { dst := some 33, op := Op.load 2 (Operand.tmp 32), type := 2, pos := "l03_normal.go:96", after := #[{ on := 4, ground := Ground.data }], guard := none }) (v := ?_) rfl (by kernel_rfl) (by kernel_rfl) (by kernel_rfl) (fun _ _ _ h => h) (Or.inl ⟨by rfl, ?_⟩) (by assumption) ?_
    rotate_left
    ·intro w hSw
     (try dsimp only at hSw)
     go_simp
     try with_reducible rfl
    try simp only [Act.put, List.setIfInBounds_toArray, List.set_cons_zero, List.set_cons_succ]
    refine wpAnyH_take (i := 6) (oi := { dst := some 34, op := Op.unOp UnOp.neg 2 (Operand.tmp 33), type := 2, pos := "l03_normal.go:96", after := #[{ on := 5, ground := Ground.data }], guard := none }) (v := ?_) rfl (by kernel_rfl) (by kernel_rfl) (by kernel_rfl) (fun _ _ _ h => h) (Or.inl ⟨by rfl, ?_⟩) (by assumption) ?_
    rotate_left
    ·intro w hSw
     (try dsimp only at hSw)
     go_simp
     try with_reducible rfl
    try simp only [Act.put, List.setIfInBounds_toArray, List.set_cons_zero, List.set_cons_succ]
    refine wpAnyH_ready (rs := [0, 7]) (by kernel_rfl) (by simp) ?_
    refine AllReadyH.cons (o := { dst := some 28, op := Op.load 28 (Operand.tmp 5), type := 28, pos := "l03_normal.go:96", after := #[], guard := none }) rfl (fun K hK => ?_) ?_
    ·go_simp
     refine hK.out _ _ ?_ (fun hHeld => ?_)
     ·(first | with_reducible exact SH.out _ KB.out | with_reducible exact SZ.out _ KB.out _ _ _)
     clear hK K
     try simp only [Act.put, List.setIfInBounds_toArray, List.set_cons_zero, List.set_cons_succ]
     refine wpAnyH_ready (rs := [7]) (by kernel_rfl) (by simp) ?_
     refine AllReadyH.cons (o := { dst := some 35, op := Op.call { callee := Callee.value (Operand.func 96), args := #[Operand.tmp 29, Operand.tmp 34], argTypes := #[2, 2] }, type := 77, pos := "l03_normal.go:96", after := #[{ on := 1, ground := Ground.data }, { on := 6, ground := Ground.data }], guard := none }) rfl (fun K hK => ?_) ?_
     ·go_simp
      try rw [hng]
      refine (l02Exchange_any m k m8 (by omega) _).mono ?_
      rintro e5 w5 ⟨rfl, gg⟩
      replace KB := Lib.hid (below_go KB.out gg KB.out.size)
      clear gg x0 x1 x2 x3 y1 y2 y3
      obtain ⟨x0, ⟨x1, x2, x3⟩, y1, y2, y3⟩ := OW.out.below KB.out
      go_wp2_with fail
      refine hK.out _ _ ?_ (fun hHeld => ?_)
      ·(first | with_reducible exact SH.out _ KB.out | with_reducible exact SZ.out _ KB.out _ _ _)
      clear hK K
      try simp only [Act.put, List.setIfInBounds_toArray, List.set_cons_zero, List.set_cons_succ]
      refine wpAnyH_ready (rs := [8]) (by kernel_rfl) (by simp) ?_
      refine AllReadyH.cons (o := { dst := some 36, op := Op.call { callee := Callee.value (Operand.func 61), args := #[Operand.tmp 28, Operand.tmp 35, Operand.const (Value.bool true)], argTypes := #[28, 77, 4] }, type := 28, pos := "l03_normal.go:96", after := #[{ on := 0, ground := Ground.data }, { on := 7, ground := Ground.data }, { on := 7, ground := Ground.chain }], guard := none }) rfl (fun K hK => ?_) ?_
      ·go_simp
       refine (l03Times_neg m m1 m8 e2 (by omega) ak nk ck lk (exR m k) _ (OS.out.reads.below KB.out) HNK.out.sims (exR_sim m k m8 (by omega)) (by omega) e3 l3 HT.out).mono ?_
       rintro e6 w6 ⟨a6, n6, c6, rfl, ho, gg⟩
       have HO := Lib.hid (ho.mono (Nat.le_trans HSZ.out KB.out.size)).toS
       have HCP := Lib.hid ho.cap_le
       replace KB := Lib.hid (below_go KB.out gg KB.out.size)
       clear ho gg x0 x1 x2 x3 y1 y2 y3
       obtain ⟨x0, ⟨x1, x2, x3⟩, y1, y2, y3⟩ := OW.out.below KB.out
       go_wp2_with fail
       refine hK.out _ _ ?_ (fun hHeld => ?_)
       ·(first | with_reducible exact SH.out _ KB.out | with_reducible exact SZ.out _ KB.out _ _ _)
       clear hK K
       try simp only [Act.put, List.setIfInBounds_toArray, List.set_cons_zero, List.set_cons_succ]
       refine wpAnyH_ready (rs := [9]) (by kernel_rfl) (by simp) ?_
       refine AllReadyH.cons (o := { dst := none, op := Op.store 28 (Operand.tmp 5) (Operand.tmp 36), type := 0, pos := "l03_normal.go:96", after := #[{ on := 8, ground := Ground.data }, { on := 8, ground := Ground.chain }, { on := 0, ground := Ground.phase }, { on := 1, ground := Ground.phase }, { on := 2, ground := Ground.phase }, { on := 3, ground := Ground.phase }, { on := 4, ground := Ground.phase }, { on := 5, ground := Ground.phase }, { on := 6, ground := Ground.phase }, { on := 7, ground := Ground.phase }, { on := 8, ground := Ground.phase }], guard := none }) rfl (fun K hK => ?_) ?_
       ·go_simp
        refine hK.out _ _ ?_ (fun hHeld => ?_)
        ·(first | with_reducible exact SH.out _ KB.out | with_reducible exact SZ.out _ KB.out _ _ _)
        clear hK K
        try simp only [Act.put, List.setIfInBounds_toArray, List.set_cons_zero, List.set_cons_succ]
        refine wpAnyH_done (by kernel_rfl) ?_ _
        go_wp2_with fail
        go_roundg (gk - 1)
        case measure => omega
        case rel =>
         have hg := HG.out
         have HG2 := Lib.hid hg
         clear hg
         exact ⟨j + 1, e3, a6, n6, c6, l3, by omega, by omega, by go_num, (OW.out.below KB.out).fill _ _ _, HO.out.set3 (by have h := HG2.out; omega) _ _ _, HCP.out, H3.out, (Z.out.below KB.out).set3 (by have h := HG2.out; omega) _ _ _, below_set3 (below_go B.out KB.out B.out.size) (by have h := HG2.out; omega) _ _ _⟩
       exact AllReadyH.nil
      exact AllReadyH.nil
     exact AllReadyH.nil
    refine AllReadyH.cons (o := { dst := some 35, op := Op.call { callee := Callee.value (Operand.func 96), args := #[Operand.tmp 29, Operand.tmp 34], argTypes := #[2, 2] }, type := 77, pos := "l03_normal.go:96", after := #[{ on := 1, ground := Ground.data }, { on := 6, ground := Ground.data }], guard := none }) rfl (fun K hK => ?_) ?_
    ·go_simp
     try rw [hng]
     refine (l02Exchange_any m k m8 (by omega) _).mono ?_
     rintro e5 w5 ⟨rfl, gg⟩
     replace KB := Lib.hid (below_go KB.out gg KB.out.size)
     clear gg x0 x1 x2 x3 y1 y2 y3
     obtain ⟨x0, ⟨x1, x2, x3⟩, y1, y2, y3⟩ := OW.out.below KB.out
     go_wp2_with fail
     refine hK.out _ _ ?_ (fun hHeld => ?_)
     ·(first | with_reducible exact SH.out _ KB.out | with_reducible exact SZ.out _ KB.out _ _ _)
     clear hK K
     try simp only [Act.put, List.setIfInBounds_toArray, List.set_cons_zero, List.set_cons_succ]
     refine wpAnyH_ready (rs := [0]) (by kernel_rfl) (by simp) ?_
     refine AllReadyH.cons (o := { dst := some 28, op := Op.load 28 (Operand.tmp 5), type := 28, pos := "l03_normal.go:96", after := #[], guard := none }) rfl (fun K hK => ?_) ?_
     ·go_simp
      refine hK.out _ _ ?_ (fun hHeld => ?_)
      ·(first | with_reducible exact SH.out _ KB.out | with_reducible exact SZ.out _ KB.out _ _ _)
      clear hK K
      try simp only [Act.put, List.setIfInBounds_toArray, List.set_cons_zero, List.set_cons_succ]
      refine wpAnyH_ready (rs := [8]) (by kernel_rfl) (by simp) ?_
      refine AllReadyH.cons (o := { dst := some 36, op := Op.call { callee := Callee.value (Operand.func 61), args := #[Operand.tmp 28, Operand.tmp 35, Operand.const (Value.bool true)], argTypes := #[28, 77, 4] }, type := 28, pos := "l03_normal.go:96", after := #[{ on := 0, ground := Ground.data }, { on := 7, ground := Ground.data }, { on := 7, ground := Ground.chain }], guard := none }) rfl (fun K hK => ?_) ?_
      ·go_simp
       refine (l03Times_neg m m1 m8 e2 (by omega) ak nk ck lk (exR m k) _ (OS.out.reads.below KB.out) HNK.out.sims (exR_sim m k m8 (by omega)) (by omega) e3 l3 HT.out).mono ?_
       rintro e6 w6 ⟨a6, n6, c6, rfl, ho, gg⟩
       have HO := Lib.hid (ho.mono (Nat.le_trans HSZ.out KB.out.size)).toS
       have HCP := Lib.hid ho.cap_le
       replace KB := Lib.hid (below_go KB.out gg KB.out.size)
       clear ho gg x0 x1 x2 x3 y1 y2 y3
       obtain ⟨x0, ⟨x1, x2, x3⟩, y1, y2, y3⟩ := OW.out.below KB.out
       go_wp2_with fail
       refine hK.out _ _ ?_ (fun hHeld => ?_)
       ·(first | with_reducible exact SH.out _ KB.out | with_reducible exact SZ.out _ KB.out _ _ _)
       clear hK K
       try simp only [Act.put, List.setIfInBounds_toArray, List.set_cons_zero, List.set_cons_succ]
       refine wpAnyH_ready (rs := [9]) (by kernel_rfl) (by simp) ?_
       refine AllReadyH.cons (o := { dst := none, op := Op.store 28 (Operand.tmp 5) (Operand.tmp 36), type := 0, pos := "l03_normal.go:96", after := #[{ on := 8, ground := Ground.data }, { on := 8, ground := Ground.chain }, { on := 0, ground := Ground.phase }, { on := 1, ground := Ground.phase }, { on := 2, ground := Ground.phase }, { on := 3, ground := Ground.phase }, { on := 4, ground := Ground.phase }, { on := 5, ground := Ground.phase }, { on := 6, ground := Ground.phase }, { on := 7, ground := Ground.phase }, { on := 8, ground := Ground.phase }], guard := none }) rfl (fun K hK => ?_) ?_
       ·go_simp
        refine hK.out _ _ ?_ (fun hHeld => ?_)
        ·(first | with_reducible exact SH.out _ KB.out | with_reducible exact SZ.out _ KB.out _ _ _)
        clear hK K
        try simp only [Act.put, List.setIfInBounds_toArray, List.set_cons_zero, List.set_cons_succ]
        refine wpAnyH_done (by kernel_rfl) ?_ _
        go_wp2_with fail
        go_roundg (gk - 1)
        case measure => omega
        case rel =>
         have hg := HG.out
         have HG2 := Lib.hid hg
         clear hg
         exact ⟨j + 1, e3, a6, n6, c6, l3, by omega, by omega, by go_num, (OW.out.below KB.out).fill _ _ _, HO.out.set3 (by have h := HG2.out; omega) _ _ _, HCP.out, H3.out, (Z.out.below KB.out).set3 (by have h := HG2.out; omega) _ _ _, below_set3 (below_go B.out KB.out B.out.size) (by have h := HG2.out; omega) _ _ _⟩
       exact AllReadyH.nil
      exact AllReadyH.nil
     exact AllReadyH.nil
    exact AllReadyH.nil
  ·have hjn : j = n := by omega
   have h4 := OF.out
   rw [hjn, List.take_of_length_le (by rw [HN.out]; exact Nat.le_refl _), HM.out] at h4
   simp only [Prod.mk.injEq] at h4
   obtain ⟨rfl, rfl⟩ := h4
   have hg1 : ¬ (j : Int) < (n : Int) := by omega
   have HJ := Lib.hid hjn
   clear hjn
   have hgz := HG.out
   have HGZ := Lib.hid hgz
   clear hgz
   obtain ⟨q1, q2, q3⟩ := OW.out.all
   obtain ⟨x0, ⟨x1, x2, x3⟩, y1, y2, y3⟩ := Z.out
   obtain ⟨_, ⟨z1, z2, z3⟩, _⟩ := Z.out.fill (.int .i64 m) (.int .i64 e) (.slice ak nk ck)
   go_wp2
   try rw [Exit.noGoto_ret]
   exact bodyPost_ret (v := .agg #[.int .i64 m, .int .i64 e, .slice ak nk ck]) (by simp [results, Try.results72, go_sem, z1, z2, z3]) rfl ⟨ak, nk, ck, rfl, hck, (OS.out.set3 (by omega) _ _ _).mono (by omega), below_set3 B.out (Nat.le_refl _) _ _ _⟩

end Go.Proofs.Yteffndmifogicaa

