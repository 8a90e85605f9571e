/- Cycling: the model and the program. -/
import Derived.Test.YtleoohplnkdbdabCySCyc
namespace Go.Proofs.Ytleoohplnkdbdab
open Go.RowKit Go.ChangeShapes

/-- What cycling makes, or the code. -/
def mCyc (s p : Int) (rs : List (List Int)) : Int × Int × List (List Int) × Int := if normB s p rs = true then fitN s (cycN s.toNat p rs).1 (cycN s.toNat p rs).2 else (0, 0, [], 1)

set_option maxRecDepth 100000 in
set_option maxHeartbeats 2000000 in
theorem specCycling_any (s p : Int) (a : Option Addr) (n cap : Nat) (rs : List (List Int)) (w : World) (hr : ReadsA w a n rs) (hy : BytesA rs) (hn : n ≤ 1048576) (hcap : n ≤ cap) (fs fp : Int) (frs : List (List Int)) (fc : Int) (hM : mCyc s p rs = (fs, fp, frs, fc)) :
  Calls Try.prog 24 #[.agg #[.int .i64 s, .int .i64 p, .slice a n cap]] w (RetNCS w fs fp frs fc) := by
 have HL := Lib.hid hr.len
 have HR := Lib.hid hr; clear hr
 have HY := Lib.hid hy; clear hy
 have HCP := Lib.hid hcap; clear hcap
 unfold mCyc at hM
 cases hB : normB s p rs with
 | true =>
  rw [hB, if_pos rfl] at hM
  obtain ⟨m, rfl, m1, m8, hnl, hp, hlen⟩ := norm_nl HR.out.rows hB
  have HN := Lib.hid hnl; clear hnl
  rw [Int.toNat_natCast] at hM
  rw [HL.out] at hlen
  obtain ⟨e0, kf, hk⟩ : ∃ e0 kf, cycN m p rs = (e0, kf) := ⟨_, _, rfl⟩
  rw [hk] at hM
  have HK := Lib.hid hk; clear hk
  have HM := Lib.hid hM; clear hM
  go_enter Try.func24, Try.ntmps24
  have A := Lib.hid ((At3.place w (.int .i64 m) (.int .i64 p) (.slice a n cap) 28 w.heap.size rfl).alloc (.cells #[.int .i64 0, .int .i64 0, .slice none 0 0] 28))
  have Z := Lib.hid (At3.place (w.alloc (.cells #[.int .i64 m, .int .i64 p, .slice a n cap] 28)) (.int .i64 0) (.int .i64 0) (.slice none 0 0) 28 (w.heap.size + 1) (by simp))
  have B := Lib.hid ((below1 w (.cells #[.int .i64 m, .int .i64 p, .slice a n cap] 28)).alloc (by simp) (.cells #[.int .i64 0, .int .i64 0, .slice none 0 0] 28))
  go_wp2_with fail
  refine (l03Is_any m p a n cap rs _ ((HR.out.alloc _).alloc _) HY.out hn).mono ?_
  rw [hB]
  rintro e w1 ⟨rfl, hb⟩
  have hz1 : w.heap.size + 1 + 1 ≤ w1.heap.size := by have := hb.size; simp at this; omega
  replace A := Lib.hid (A.out.below hb)
  replace Z := Lib.hid (Z.out.below hb)
  replace B := Lib.hid (below_go B.out hb (by simp; omega))
  clear hb
  have HKN := Lib.hid (cycN_nl HN.out HK.out)
  have HKB : Hid (kf.length ≤ 200 ∧ -200 ≤ e0 ∧ e0 ≤ 400) := Lib.hid (by have h := cycN_len HK.out; rw [HL.out] at h; omega)
  go_upto_region 3 with fail
  go_cut [4, 5] from 10 to 22 (fun x6 x7 wx => ∃ g b2 m2 d2, x6 = .pointer (some ⟨g, 0, none⟩) ∧ x7 = .int .i64 fc ∧ m2 ≤ 200 ∧ w1.heap.size ≤ g ∧ At3 wx g (.int .i64 fs) (.int .i64 fp) (.slice b2 m2 d2) ∧ OwnS w1.heap.size wx b2 m2 frs ∧ Below w1.heap.size w1 wx)
  case first =>
   have KB : Hid (Below w1.heap.size w1 w1.drew) := Lib.hid (Below.refl w1.heap.size w1).drew
   have SH : Hid (∀ W, Below w1.heap.size w1 W → W.cell? ⟨w.heap.size, 0, none⟩ = some (.int .i64 m) ∧ W.cell? ⟨w.heap.size, 1, none⟩ = some (.int .i64 p) ∧ W.cell? ⟨w.heap.size, 2, none⟩ = some (.slice a n cap)) := Lib.hid fun W h => (A.out.below h).all
   have SZ : Hid (∀ W, Below w1.heap.size w1 W → ∀ g, w1.heap.size ≤ g → ∀ u v x, (((W.setCell ⟨g, 0, none⟩ u).setCell ⟨g, 1, none⟩ v).setCell ⟨g, 2, none⟩ x).cell? ⟨w.heap.size, 0, none⟩ = some (.int .i64 m) ∧ (((W.setCell ⟨g, 0, none⟩ u).setCell ⟨g, 1, none⟩ v).setCell ⟨g, 2, none⟩ x).cell? ⟨w.heap.size, 1, none⟩ = some (.int .i64 p) ∧ (((W.setCell ⟨g, 0, none⟩ u).setCell ⟨g, 1, none⟩ v).setCell ⟨g, 2, none⟩ x).cell? ⟨w.heap.size, 2, none⟩ = some (.slice a n cap)) := Lib.hid fun W h g hg u v x => ((A.out.below h).set3 (g2 := g) (by omega) u v x).all
   have RW := Lib.hid (HR.out.below B.out)
   refine wp_region_held_drew (S := (fun w' => w'.cell? ⟨w.heap.size, 0, none⟩ = some (.int .i64 m) ∧ w'.cell? ⟨w.heap.size, 1, none⟩ = some (.int .i64 p) ∧ w'.cell? ⟨w.heap.size, 2, none⟩ = some (.slice a n cap))) (by kernel_rfl) ?_ (fun hHeld => ?_)
   ·first | with_reducible exact SH.out _ KB.out | with_reducible exact SZ.out _ KB.out _ zG.out _ _ _
   refine wpAnyH_take (i := 0) (oi := { dst := some 11, op := Op.fieldAddr 28 (Operand.tmp 1) 0, type := 0, pos := "l04_conjugacy.go:62", after := #[], guard := none }) (v := ?_) rfl (by kernel_rfl) (by kernel_rfl) (by kernel_rfl) (fun _ _ _ h => h) (Or.inl ⟨by rfl, ?_⟩) (by assumption) ?_
   rotate_left
   ·intro w hSw
    (try dsimp only at hSw)
    go_simp
    try with_reducible rfl
   try simp only [Act.put, List.setIfInBounds_toArray, List.set_cons_zero, List.set_cons_succ]
   refine wpAnyH_take (i := 1) (oi := { dst := some 12, op := Op.load 2 (Operand.tmp 11), type := 2, pos := "l04_conjugacy.go:62", after := #[{ on := 0, ground := Ground.data }], guard := none }) (v := ?_) rfl (by kernel_rfl) (by kernel_rfl) (by kernel_rfl) (fun _ _ _ h => h) (Or.inl ⟨by rfl, ?_⟩) (by assumption) ?_
   rotate_left
   ·intro w hSw
    (try dsimp only at hSw)
    go_simp
    try with_reducible rfl
   try simp only [Act.put, List.setIfInBounds_toArray, List.set_cons_zero, List.set_cons_succ]
   refine wpAnyH_take (i := 2) (oi := { dst := some 13, op := Op.load 28 (Operand.tmp 1), type := 28, pos := "l04_conjugacy.go:62", after := #[], guard := none }) (v := ?_) rfl (by kernel_rfl) (by kernel_rfl) (by kernel_rfl) (fun _ _ _ h => h) (Or.inl ⟨by rfl, ?_⟩) (by assumption) ?_
   rotate_left
   ·intro w hSw
    (try dsimp only at hSw)
    go_simp
    try with_reducible rfl
   try simp only [Act.put, List.setIfInBounds_toArray, List.set_cons_zero, List.set_cons_succ]
   refine wpAnyH_take (i := 5) (oi := { dst := some 16, op := Op.load 28 (Operand.tmp 1), type := 28, pos := "l04_conjugacy.go:62", after := #[], guard := none }) (v := ?_) rfl (by kernel_rfl) (by kernel_rfl) (by kernel_rfl) (fun _ _ _ h => h) (Or.inl ⟨by rfl, ?_⟩) (by assumption) ?_
   rotate_left
   ·intro w hSw
    (try dsimp only at hSw)
    go_simp
    try with_reducible rfl
   try simp only [Act.put, List.setIfInBounds_toArray, List.set_cons_zero, List.set_cons_succ]
   refine wpAnyH_ready (rs := [3, 13]) (by kernel_rfl) (by simp) ?_
   refine AllReadyH.cons (o := { dst := some 14, op := Op.call { callee := Callee.value (Operand.func 60), args := #[Operand.tmp 13], argTypes := #[28] }, type := 28, pos := "l04_conjugacy.go:62", after := #[{ on := 2, ground := Ground.data }], guard := none }) rfl (fun K hK => ?_) ?_
   ·go_simp
    refine (l04Cycle_any m m1 m8 p (by omega) a n cap HCP.out rs _ (RW.out.below KB.out) HN.out.sims (by omega) e0 kf HK.out).mono ?_
    rintro e u1 ⟨x2, y2, z2, rfl, hc2, ho, gg⟩
    replace KB := Lib.hid (below_go KB.out gg KB.out.size)
    clear ho gg
    have hf1 : ∀ v : World, (Instr.field 28 (.agg #[.int .i64 m, .int .i64 e0, .slice x2 y2 z2]) 1).run Try.prog v = .ok (.int .i64 e0) v := fun _ => by kernel_rfl
    go_wp2_with fail
    refine hK.out _ _ ?_ (fun hHeld => ?_)
    ·first | with_reducible exact SH.out _ KB.out | with_reducible exact SZ.out _ KB.out _ zG.out _ _ _
    clear hK K
    try simp only [Act.put, List.setIfInBounds_toArray, List.set_cons_zero, List.set_cons_succ]
    refine wpAnyH_take (i := 4) (oi := { dst := some 15, op := Op.field 28 (Operand.tmp 14) 1, type := 2, pos := "l04_conjugacy.go:62", after := #[{ on := 3, ground := Ground.data }], guard := none }) (v := ?_) rfl (by kernel_rfl) (by kernel_rfl) (by kernel_rfl) (fun _ _ _ h => h) (Or.inl ⟨by rfl, ?_⟩) (by assumption) ?_
    rotate_left
    ·intro w hSw
     (try dsimp only at hSw)
     go_simp
     try with_reducible rfl
    try simp only [Act.put, List.setIfInBounds_toArray, List.set_cons_zero, List.set_cons_succ]
    refine wpAnyH_ready (rs := [6, 13]) (by kernel_rfl) (by simp) ?_
    refine AllReadyH.cons (o := { dst := some 17, op := Op.call { callee := Callee.value (Operand.func 60), args := #[Operand.tmp 16], argTypes := #[28] }, type := 28, pos := "l04_conjugacy.go:62", after := #[{ on := 5, ground := Ground.data }, { on := 3, ground := Ground.chain }], guard := none }) rfl (fun K hK => ?_) ?_
    ·go_simp
     refine (l04Cycle_any m m1 m8 p (by omega) a n cap HCP.out rs _ (RW.out.below KB.out) HN.out.sims (by omega) e0 kf HK.out).mono ?_
     rintro e u3 ⟨x3, y3, z3, rfl, hc3, ho, gg⟩
     have I := Lib.hid ho
     have hy3 : y3 = kf.length := ho.len.symm
     have HY3 := Lib.hid hy3; clear hy3
     replace KB := Lib.hid (below_go KB.out gg KB.out.size)
     clear ho gg
     have hf2 : ∀ v : World, (Instr.field 28 (.agg #[.int .i64 m, .int .i64 e0, .slice x3 y3 z3]) 2).run Try.prog v = .ok (.slice x3 y3 z3) v := fun _ => by kernel_rfl
     go_wp2_with fail
     refine hK.out _ _ ?_ (fun hHeld => ?_)
     ·first | with_reducible exact SH.out _ KB.out | with_reducible exact SZ.out _ KB.out _ zG.out _ _ _
     clear hK K
     try simp only [Act.put, List.setIfInBounds_toArray, List.set_cons_zero, List.set_cons_succ]
     refine wpAnyH_take (i := 7) (oi := { dst := some 18, op := Op.field 28 (Operand.tmp 17) 2, type := 26, pos := "l04_conjugacy.go:62", after := #[{ on := 6, ground := Ground.data }], guard := none }) (v := ?_) rfl (by kernel_rfl) (by kernel_rfl) (by kernel_rfl) (fun _ _ _ h => h) (Or.inl ⟨by rfl, ?_⟩) (by assumption) ?_
     rotate_left
     ·intro w hSw
      (try dsimp only at hSw)
      go_simp
      try with_reducible rfl
     try simp only [Act.put, List.setIfInBounds_toArray, List.set_cons_zero, List.set_cons_succ]
     refine wpAnyH_ready (rs := [8, 13]) (by kernel_rfl) (by simp) ?_
     refine AllReadyH.cons (o := { dst := some 19, op := Op.call { callee := Callee.value (Operand.func 59), args := #[Operand.tmp 12, Operand.tmp 15, Operand.tmp 18], argTypes := #[2, 2, 26] }, type := 28, pos := "l04_conjugacy.go:62", after := #[{ on := 1, ground := Ground.data }, { on := 4, ground := Ground.data }, { on := 7, ground := Ground.data }, { on := 6, ground := Ground.chain }], guard := none }) rfl (fun K hK => ?_) ?_
     ·go_simp
      refine (l03Make_any m m1 m8 e0 (by have := HKB.out; omega) x3 y3 z3 kf _ I.out HKN.out.sims (by have := HKB.out; have := HY3.out; omega) e0 kf (mkN_id _ HKN.out)).mono ?_
      rintro e u4 ⟨x4, y4, z4, rfl, ho, gg⟩
      replace I := Lib.hid (I.out.below gg)
      have P : Hid (OwnS w1.heap.size u4 x4 y4 kf) := Lib.hid (ho.toS.mono KB.out.size)
      replace KB := Lib.hid (below_go KB.out gg KB.out.size)
      clear ho gg
      go_wp2_with fail
      refine hK.out _ _ ?_ (fun hHeld => ?_)
      ·first | with_reducible exact SH.out _ KB.out | with_reducible exact SZ.out _ KB.out _ zG.out _ _ _
      clear hK K
      try simp only [Act.put, List.setIfInBounds_toArray, List.set_cons_zero, List.set_cons_succ]
      refine wpAnyH_ready (rs := [9, 13]) (by kernel_rfl) (by simp) ?_
      refine AllReadyH.cons (o := { dst := some 20, op := Op.call { callee := Callee.value (Operand.func 34), args := #[Operand.tmp 19], argTypes := #[28] }, type := 29, pos := "l04_conjugacy.go:62", after := #[{ on := 8, ground := Ground.data }, { on := 8, ground := Ground.chain }], guard := none }) rfl (fun K hK => ?_) ?_
      ·go_simp
       refine (l03Fit_own m e0 x4 y4 z4 kf _ P.out _ _ _ _ HM.out).mono ?_
       rintro e u5 ⟨x5, y5, z5, rfl, ho, h200, hre, gg⟩
       replace I := Lib.hid (I.out.below gg)
       replace P := Lib.hid (P.out.below gg)
       have Q : Hid (OwnS w1.heap.size u5 x5 y5 frs) := Lib.hid ho
       replace KB := Lib.hid (below_go KB.out gg KB.out.size)
       clear ho gg
       go_wp2_with fail
       refine hK.out _ _ ?_ (fun hHeld => ?_)
       ·first | with_reducible exact SH.out _ KB.out | with_reducible exact SZ.out _ KB.out _ zG.out _ _ _
       clear hK K
       try simp only [Act.put, List.setIfInBounds_toArray, List.set_cons_zero, List.set_cons_succ]
       refine wpAnyH_take (i := 10) (oi := { dst := some 10, op := Op.move (Operand.tmp 20), type := 29, pos := "l04_conjugacy.go:62", after := #[{ on := 9, ground := Ground.data }], guard := none }) (v := ?_) rfl (by kernel_rfl) (by kernel_rfl) (by kernel_rfl) (fun _ _ _ h => h) (Or.inl ⟨by rfl, ?_⟩) (by assumption) ?_
       rotate_left
       ·intro w hSw
        (try dsimp only at hSw)
        go_simp
        try with_reducible rfl
       try simp only [Act.put, List.setIfInBounds_toArray, List.set_cons_zero, List.set_cons_succ]
       refine wpAnyH_take (i := 11) (oi := { dst := some 21, op := Op.extract (Operand.tmp 10) 0, type := 28, pos := "l04_conjugacy.go:62", after := #[{ on := 10, ground := Ground.data }], guard := none }) (v := ?_) rfl (by kernel_rfl) (by kernel_rfl) (by kernel_rfl) (fun _ _ _ h => h) (Or.inl ⟨by rfl, ?_⟩) (by assumption) ?_
       rotate_left
       ·intro w hSw
        (try dsimp only at hSw)
        go_simp
        try with_reducible rfl
       try simp only [Act.put, List.setIfInBounds_toArray, List.set_cons_zero, List.set_cons_succ]
       refine wpAnyH_take (i := 12) (oi := { dst := some 22, op := Op.extract (Operand.tmp 10) 1, type := 2, pos := "l04_conjugacy.go:62", after := #[{ on := 10, ground := Ground.data }, { on := 14, ground := Ground.gcOnly Departure.lateStores }], guard := none }) (v := ?_) rfl (by kernel_rfl) (by kernel_rfl) (by kernel_rfl) (fun _ _ _ h => h) (Or.inl ⟨by rfl, ?_⟩) (by assumption) ?_
       rotate_left
       ·intro w hSw
        (try dsimp only at hSw)
        go_simp
        try with_reducible rfl
       try simp only [Act.put, List.setIfInBounds_toArray, List.set_cons_zero, List.set_cons_succ]
       refine wpAnyH_ready (rs := [13]) (by kernel_rfl) (by simp) ?_
       refine AllReadyH.cons (o := { dst := some 4, op := Op.alloc 28, type := 0, pos := "l04_conjugacy.go:62", after := #[], guard := none }) rfl (fun K hK => ?_) ?_
       ·go_simp
        have QA := Lib.hid (Q.out.apartHi (g := u5.heap.size) (Nat.le_refl _))
        replace I : Hid (ReadsA (u5.alloc (.cells #[.int .i64 0, .int .i64 0, .slice none 0 0] 28)) x3 y3 kf) := Lib.hid (I.out.alloc (.cells #[.int .i64 0, .int .i64 0, .slice none 0 0] 28))
        replace P : Hid (OwnS w1.heap.size (u5.alloc (.cells #[.int .i64 0, .int .i64 0, .slice none 0 0] 28)) x4 y4 kf) := Lib.hid (P.out.alloc (.cells #[.int .i64 0, .int .i64 0, .slice none 0 0] 28))
        replace Q : Hid (OwnS w1.heap.size (u5.alloc (.cells #[.int .i64 0, .int .i64 0, .slice none 0 0] 28)) x5 y5 frs) := Lib.hid (Q.out.alloc (.cells #[.int .i64 0, .int .i64 0, .slice none 0 0] 28))
        have Z0 : Hid (At3 (u5.alloc (.cells #[.int .i64 0, .int .i64 0, .slice none 0 0] 28)) (u5.heap.size) (.int .i64 0) (.int .i64 0) (.slice none 0 0)) := Lib.hid ((At3.place u5 (.int .i64 0) (.int .i64 0) (.slice none 0 0) 28 (u5.heap.size) (by simp)))
        have zG : Hid (w1.heap.size ≤ u5.heap.size) := Lib.hid (by first | exact Nat.le_refl _ | exact KB.out.size)
        replace KB : Hid (Below w1.heap.size w1 (u5.alloc (.cells #[.int .i64 0, .int .i64 0, .slice none 0 0] 28))) := Lib.hid (KB.out.alloc KB.out.size (.cells #[.int .i64 0, .int .i64 0, .slice none 0 0] 28))
        obtain ⟨V8, hV8⟩ : ∃ V, V = (u5.alloc (.cells #[.int .i64 0, .int .i64 0, .slice none 0 0] 28)) := ⟨_, rfl⟩
        rw [← hV8] at KB I P Q Z0 ⊢
        clear hV8
        refine hK.out _ _ ?_ (fun hHeld => ?_)
        ·first | with_reducible exact SH.out _ KB.out | with_reducible exact SZ.out _ KB.out _ zG.out _ _ _
        clear hK K
        try simp only [Act.put, List.setIfInBounds_toArray, List.set_cons_zero, List.set_cons_succ]
        refine wpAnyH_ready (rs := [14]) (by kernel_rfl) (by simp) ?_
        refine AllReadyH.cons (o := { dst := none, op := Op.store 28 (Operand.tmp 4) (Operand.tmp 21), type := 0, pos := "l04_conjugacy.go:62", after := #[{ on := 13, ground := Ground.data }, { on := 11, ground := Ground.data }, { on := 9, ground := Ground.chain }, { on := 0, ground := Ground.phase }, { on := 1, ground := Ground.phase }, { on := 2, ground := Ground.phase }, { on := 3, ground := Ground.phase }, { on := 4, ground := Ground.phase }, { on := 5, ground := Ground.phase }, { on := 6, ground := Ground.phase }, { on := 7, ground := Ground.phase }, { on := 8, ground := Ground.phase }, { on := 9, ground := Ground.phase }, { on := 10, ground := Ground.phase }, { on := 11, ground := Ground.phase }, { on := 12, ground := Ground.textOnly Departure.lateStores }, { on := 13, ground := Ground.phase }], guard := none }) rfl (fun K hK => ?_) ?_
        ·obtain ⟨w0, ⟨w1', w2', w3'⟩, w4', w5', w6'⟩ := Z0.out
         go_simp
         clear w0 w1' w2' w3' w4' w5' w6'
         replace Z0 := Lib.hid (Z0.out.fill (.int .i64 fs) (.int .i64 fp) (.slice x5 y5 z5))
         replace Q := Lib.hid (Q.out.past3 QA.out (.int .i64 fs) (.int .i64 fp) (.slice x5 y5 z5))
         replace KB := Lib.hid (below_set3 KB.out zG.out (.int .i64 fs) (.int .i64 fp) (.slice x5 y5 z5))
         obtain ⟨V9, hV9⟩ : ∃ V, V = (((V8.setCell ⟨u5.heap.size, 0, none⟩ (.int .i64 fs)).setCell ⟨u5.heap.size, 1, none⟩ (.int .i64 fp)).setCell ⟨u5.heap.size, 2, none⟩ (.slice x5 y5 z5)) := ⟨_, rfl⟩
         rw [← hV9] at Z0 Q KB ⊢
         clear hV9
         refine hK.out _ _ ?_ (fun hHeld => ?_)
         ·first | with_reducible exact SH.out _ KB.out | with_reducible exact SZ.out _ KB.out _ zG.out _ _ _
         clear hK K
         try simp only [Act.put, List.setIfInBounds_toArray, List.set_cons_zero, List.set_cons_succ]
         refine wpAnyH_ready (rs := [15]) (by kernel_rfl) (by simp) ?_
         refine AllReadyH.cons (o := { dst := some 5, op := Op.assign (Operand.tmp 22), type := 2, pos := "l04_conjugacy.go:62", after := #[{ on := 12, ground := Ground.data }, { on := 14, ground := Ground.chain }, { on := 0, ground := Ground.phase }, { on := 1, ground := Ground.phase }, { on := 2, ground := Ground.phase }, { on := 3, ground := Ground.phase }, { on := 4, ground := Ground.phase }, { on := 5, ground := Ground.phase }, { on := 6, ground := Ground.phase }, { on := 7, ground := Ground.phase }, { on := 8, ground := Ground.phase }, { on := 9, ground := Ground.phase }, { on := 10, ground := Ground.phase }, { on := 11, ground := Ground.phase }, { on := 12, ground := Ground.phase }, { on := 13, ground := Ground.phase }, { on := 14, ground := Ground.phase }], guard := none }) rfl (fun K hK => ?_) ?_
         ·go_simp
          refine hK.out _ _ ?_ (fun hHeld => ?_)
          ·first | with_reducible exact SH.out _ KB.out | with_reducible exact SZ.out _ KB.out _ zG.out _ _ _
          clear hK K
          try simp only [Act.put, List.setIfInBounds_toArray, List.set_cons_zero, List.set_cons_succ]
          refine wpAnyH_done (by kernel_rfl) ?_ _
          go_wp2_with fail
          go_meet
          exact ⟨_, _, _, _, rfl, rfl, h200, zG.out, Z0.out, Q.out, KB.out⟩
         exact AllReadyH.nil
        exact AllReadyH.nil
       exact AllReadyH.nil
      refine AllReadyH.cons (o := { dst := some 4, op := Op.alloc 28, type := 0, pos := "l04_conjugacy.go:62", after := #[], guard := none }) rfl (fun K hK => ?_) ?_
      ·go_simp
       have PA := Lib.hid (P.out.apartHi (g := u4.heap.size) (Nat.le_refl _))
       replace I : Hid (ReadsA (u4.alloc (.cells #[.int .i64 0, .int .i64 0, .slice none 0 0] 28)) x3 y3 kf) := Lib.hid (I.out.alloc (.cells #[.int .i64 0, .int .i64 0, .slice none 0 0] 28))
       replace P : Hid (OwnS w1.heap.size (u4.alloc (.cells #[.int .i64 0, .int .i64 0, .slice none 0 0] 28)) x4 y4 kf) := Lib.hid (P.out.alloc (.cells #[.int .i64 0, .int .i64 0, .slice none 0 0] 28))
       have Z0 : Hid (At3 (u4.alloc (.cells #[.int .i64 0, .int .i64 0, .slice none 0 0] 28)) (u4.heap.size) (.int .i64 0) (.int .i64 0) (.slice none 0 0)) := Lib.hid ((At3.place u4 (.int .i64 0) (.int .i64 0) (.slice none 0 0) 28 (u4.heap.size) (by simp)))
       have zG : Hid (w1.heap.size ≤ u4.heap.size) := Lib.hid (by first | exact Nat.le_refl _ | exact KB.out.size)
       replace KB : Hid (Below w1.heap.size w1 (u4.alloc (.cells #[.int .i64 0, .int .i64 0, .slice none 0 0] 28))) := Lib.hid (KB.out.alloc KB.out.size (.cells #[.int .i64 0, .int .i64 0, .slice none 0 0] 28))
       obtain ⟨V8, hV8⟩ : ∃ V, V = (u4.alloc (.cells #[.int .i64 0, .int .i64 0, .slice none 0 0] 28)) := ⟨_, rfl⟩
       rw [← hV8] at KB I P Z0 ⊢
       clear hV8
       refine hK.out _ _ ?_ (fun hHeld => ?_)
       ·first | with_reducible exact SH.out _ KB.out | with_reducible exact SZ.out _ KB.out _ zG.out _ _ _
       clear hK K
       try simp only [Act.put, List.setIfInBounds_toArray, List.set_cons_zero, List.set_cons_succ]
       refine wpAnyH_ready (rs := [9]) (by kernel_rfl) (by simp) ?_
       refine AllReadyH.cons (o := { dst := some 20, op := Op.call { callee := Callee.value (Operand.func 34), args := #[Operand.tmp 19], argTypes := #[28] }, type := 29, pos := "l04_conjugacy.go:62", after := #[{ on := 8, ground := Ground.data }, { on := 8, ground := Ground.chain }], guard := none }) rfl (fun K hK => ?_) ?_
       ·go_simp
        refine (l03Fit_own m e0 x4 y4 z4 kf _ P.out _ _ _ _ HM.out).mono ?_
        rintro e u5 ⟨x5, y5, z5, rfl, ho, h200, hre, gg⟩
        replace I := Lib.hid (I.out.below gg)
        replace P := Lib.hid (P.out.below gg)
        replace Z0 := Lib.hid (Z0.out.below gg)
        have Q : Hid (OwnS w1.heap.size u5 x5 y5 frs) := Lib.hid ho
        have QA : Hid (y5 = 0 ∨ ∀ x, x5 = some x → x.block ≠ u4.heap.size) := Lib.hid (by rcases hre with h | ⟨h, h'⟩; exact .inl h; (rw [h, h']; exact PA.out))
        replace KB := Lib.hid (below_go KB.out gg KB.out.size)
        clear ho gg
        go_wp2_with fail
        refine hK.out _ _ ?_ (fun hHeld => ?_)
        ·first | with_reducible exact SH.out _ KB.out | with_reducible exact SZ.out _ KB.out _ zG.out _ _ _
        clear hK K
        try simp only [Act.put, List.setIfInBounds_toArray, List.set_cons_zero, List.set_cons_succ]
        refine wpAnyH_take (i := 10) (oi := { dst := some 10, op := Op.move (Operand.tmp 20), type := 29, pos := "l04_conjugacy.go:62", after := #[{ on := 9, ground := Ground.data }], guard := none }) (v := ?_) rfl (by kernel_rfl) (by kernel_rfl) (by kernel_rfl) (fun _ _ _ h => h) (Or.inl ⟨by rfl, ?_⟩) (by assumption) ?_
        rotate_left
        ·intro w hSw
         (try dsimp only at hSw)
         go_simp
         try with_reducible rfl
        try simp only [Act.put, List.setIfInBounds_toArray, List.set_cons_zero, List.set_cons_succ]
        refine wpAnyH_take (i := 11) (oi := { dst := some 21, op := Op.extract (Operand.tmp 10) 0, type := 28, pos := "l04_conjugacy.go:62", after := #[{ on := 10, ground := Ground.data }], guard := none }) (v := ?_) rfl (by kernel_rfl) (by kernel_rfl) (by kernel_rfl) (fun _ _ _ h => h) (Or.inl ⟨by rfl, ?_⟩) (by assumption) ?_
        rotate_left
        ·intro w hSw
         (try dsimp only at hSw)
         go_simp
         try with_reducible rfl
        try simp only [Act.put, List.setIfInBounds_toArray, List.set_cons_zero, List.set_cons_succ]
        refine wpAnyH_take (i := 12) (oi := { dst := some 22, op := Op.extract (Operand.tmp 10) 1, type := 2, pos := "l04_conjugacy.go:62", after := #[{ on := 10, ground := Ground.data }, { on := 14, ground := Ground.gcOnly Departure.lateStores }], guard := none }) (v := ?_) rfl (by kernel_rfl) (by kernel_rfl) (by kernel_rfl) (fun _ _ _ h => h) (Or.inl ⟨by rfl, ?_⟩) (by assumption) ?_
        rotate_left
        ·intro w hSw
         (try dsimp only at hSw)
         go_simp
         try with_reducible rfl
        try simp only [Act.put, List.setIfInBounds_toArray, List.set_cons_zero, List.set_cons_succ]
        refine wpAnyH_ready (rs := [14]) (by kernel_rfl) (by simp) ?_
        refine AllReadyH.cons (o := { dst := none, op := Op.store 28 (Operand.tmp 4) (Operand.tmp 21), type := 0, pos := "l04_conjugacy.go:62", after := #[{ on := 13, ground := Ground.data }, { on := 11, ground := Ground.data }, { on := 9, ground := Ground.chain }, { on := 0, ground := Ground.phase }, { on := 1, ground := Ground.phase }, { on := 2, ground := Ground.phase }, { on := 3, ground := Ground.phase }, { on := 4, ground := Ground.phase }, { on := 5, ground := Ground.phase }, { on := 6, ground := Ground.phase }, { on := 7, ground := Ground.phase }, { on := 8, ground := Ground.phase }, { on := 9, ground := Ground.phase }, { on := 10, ground := Ground.phase }, { on := 11, ground := Ground.phase }, { on := 12, ground := Ground.textOnly Departure.lateStores }, { on := 13, ground := Ground.phase }], guard := none }) rfl (fun K hK => ?_) ?_
        ·obtain ⟨w0, ⟨w1', w2', w3'⟩, w4', w5', w6'⟩ := Z0.out
         go_simp
         clear w0 w1' w2' w3' w4' w5' w6'
         replace Z0 := Lib.hid (Z0.out.fill (.int .i64 fs) (.int .i64 fp) (.slice x5 y5 z5))
         replace Q := Lib.hid (Q.out.past3 QA.out (.int .i64 fs) (.int .i64 fp) (.slice x5 y5 z5))
         replace KB := Lib.hid (below_set3 KB.out zG.out (.int .i64 fs) (.int .i64 fp) (.slice x5 y5 z5))
         obtain ⟨V9, hV9⟩ : ∃ V, V = (((u5.setCell ⟨u4.heap.size, 0, none⟩ (.int .i64 fs)).setCell ⟨u4.heap.size, 1, none⟩ (.int .i64 fp)).setCell ⟨u4.heap.size, 2, none⟩ (.slice x5 y5 z5)) := ⟨_, rfl⟩
         rw [← hV9] at Z0 Q KB ⊢
         clear hV9
         refine hK.out _ _ ?_ (fun hHeld => ?_)
         ·first | with_reducible exact SH.out _ KB.out | with_reducible exact SZ.out _ KB.out _ zG.out _ _ _
         clear hK K
         try simp only [Act.put, List.setIfInBounds_toArray, List.set_cons_zero, List.set_cons_succ]
         refine wpAnyH_ready (rs := [15]) (by kernel_rfl) (by simp) ?_
         refine AllReadyH.cons (o := { dst := some 5, op := Op.assign (Operand.tmp 22), type := 2, pos := "l04_conjugacy.go:62", after := #[{ on := 12, ground := Ground.data }, { on := 14, ground := Ground.chain }, { on := 0, ground := Ground.phase }, { on := 1, ground := Ground.phase }, { on := 2, ground := Ground.phase }, { on := 3, ground := Ground.phase }, { on := 4, ground := Ground.phase }, { on := 5, ground := Ground.phase }, { on := 6, ground := Ground.phase }, { on := 7, ground := Ground.phase }, { on := 8, ground := Ground.phase }, { on := 9, ground := Ground.phase }, { on := 10, ground := Ground.phase }, { on := 11, ground := Ground.phase }, { on := 12, ground := Ground.phase }, { on := 13, ground := Ground.phase }, { on := 14, ground := Ground.phase }], guard := none }) rfl (fun K hK => ?_) ?_
         ·go_simp
          refine hK.out _ _ ?_ (fun hHeld => ?_)
          ·first | with_reducible exact SH.out _ KB.out | with_reducible exact SZ.out _ KB.out _ zG.out _ _ _
          clear hK K
          try simp only [Act.put, List.setIfInBounds_toArray, List.set_cons_zero, List.set_cons_succ]
          refine wpAnyH_done (by kernel_rfl) ?_ _
          go_wp2_with fail
          go_meet
          exact ⟨_, _, _, _, rfl, rfl, h200, zG.out, Z0.out, Q.out, KB.out⟩
         exact AllReadyH.nil
        exact AllReadyH.nil
       exact AllReadyH.nil
      exact AllReadyH.nil
     refine AllReadyH.cons (o := { dst := some 4, op := Op.alloc 28, type := 0, pos := "l04_conjugacy.go:62", after := #[], guard := none }) rfl (fun K hK => ?_) ?_
     ·go_simp
      replace I : Hid (ReadsA (u3.alloc (.cells #[.int .i64 0, .int .i64 0, .slice none 0 0] 28)) x3 y3 kf) := Lib.hid (I.out.alloc (.cells #[.int .i64 0, .int .i64 0, .slice none 0 0] 28))
      have Z0 : Hid (At3 (u3.alloc (.cells #[.int .i64 0, .int .i64 0, .slice none 0 0] 28)) (u3.heap.size) (.int .i64 0) (.int .i64 0) (.slice none 0 0)) := Lib.hid ((At3.place u3 (.int .i64 0) (.int .i64 0) (.slice none 0 0) 28 (u3.heap.size) (by simp)))
      have zG : Hid (w1.heap.size ≤ u3.heap.size) := Lib.hid (by first | exact Nat.le_refl _ | exact KB.out.size)
      replace KB : Hid (Below w1.heap.size w1 (u3.alloc (.cells #[.int .i64 0, .int .i64 0, .slice none 0 0] 28))) := Lib.hid (KB.out.alloc KB.out.size (.cells #[.int .i64 0, .int .i64 0, .slice none 0 0] 28))
      obtain ⟨V8, hV8⟩ : ∃ V, V = (u3.alloc (.cells #[.int .i64 0, .int .i64 0, .slice none 0 0] 28)) := ⟨_, rfl⟩
      rw [← hV8] at KB I Z0 ⊢
      clear hV8
      refine hK.out _ _ ?_ (fun hHeld => ?_)
      ·first | with_reducible exact SH.out _ KB.out | with_reducible exact SZ.out _ KB.out _ zG.out _ _ _
      clear hK K
      try simp only [Act.put, List.setIfInBounds_toArray, List.set_cons_zero, List.set_cons_succ]
      refine wpAnyH_ready (rs := [8]) (by kernel_rfl) (by simp) ?_
      refine AllReadyH.cons (o := { dst := some 19, op := Op.call { callee := Callee.value (Operand.func 59), args := #[Operand.tmp 12, Operand.tmp 15, Operand.tmp 18], argTypes := #[2, 2, 26] }, type := 28, pos := "l04_conjugacy.go:62", after := #[{ on := 1, ground := Ground.data }, { on := 4, ground := Ground.data }, { on := 7, ground := Ground.data }, { on := 6, ground := Ground.chain }], guard := none }) rfl (fun K hK => ?_) ?_
      ·go_simp
       refine (l03Make_any m m1 m8 e0 (by have := HKB.out; omega) x3 y3 z3 kf _ I.out HKN.out.sims (by have := HKB.out; have := HY3.out; omega) e0 kf (mkN_id _ HKN.out)).mono ?_
       rintro e u4 ⟨x4, y4, z4, rfl, ho, gg⟩
       have PA := Lib.hid (OwnS.apart (g := u3.heap.size) (ho.toS) Z0.out.1)
       replace I := Lib.hid (I.out.below gg)
       replace Z0 := Lib.hid (Z0.out.below gg)
       have P : Hid (OwnS w1.heap.size u4 x4 y4 kf) := Lib.hid (ho.toS.mono KB.out.size)
       replace KB := Lib.hid (below_go KB.out gg KB.out.size)
       clear ho gg
       go_wp2_with fail
       refine hK.out _ _ ?_ (fun hHeld => ?_)
       ·first | with_reducible exact SH.out _ KB.out | with_reducible exact SZ.out _ KB.out _ zG.out _ _ _
       clear hK K
       try simp only [Act.put, List.setIfInBounds_toArray, List.set_cons_zero, List.set_cons_succ]
       refine wpAnyH_ready (rs := [9]) (by kernel_rfl) (by simp) ?_
       refine AllReadyH.cons (o := { dst := some 20, op := Op.call { callee := Callee.value (Operand.func 34), args := #[Operand.tmp 19], argTypes := #[28] }, type := 29, pos := "l04_conjugacy.go:62", after := #[{ on := 8, ground := Ground.data }, { on := 8, ground := Ground.chain }], guard := none }) rfl (fun K hK => ?_) ?_
       ·go_simp
        refine (l03Fit_own m e0 x4 y4 z4 kf _ P.out _ _ _ _ HM.out).mono ?_
        rintro e u5 ⟨x5, y5, z5, rfl, ho, h200, hre, gg⟩
        replace I := Lib.hid (I.out.below gg)
        replace P := Lib.hid (P.out.below gg)
        replace Z0 := Lib.hid (Z0.out.below gg)
        have Q : Hid (OwnS w1.heap.size u5 x5 y5 frs) := Lib.hid ho
        have QA : Hid (y5 = 0 ∨ ∀ x, x5 = some x → x.block ≠ u3.heap.size) := Lib.hid (by rcases hre with h | ⟨h, h'⟩; exact .inl h; (rw [h, h']; exact PA.out))
        replace KB := Lib.hid (below_go KB.out gg KB.out.size)
        clear ho gg
        go_wp2_with fail
        refine hK.out _ _ ?_ (fun hHeld => ?_)
        ·first | with_reducible exact SH.out _ KB.out | with_reducible exact SZ.out _ KB.out _ zG.out _ _ _
        clear hK K
        try simp only [Act.put, List.setIfInBounds_toArray, List.set_cons_zero, List.set_cons_succ]
        refine wpAnyH_take (i := 10) (oi := { dst := some 10, op := Op.move (Operand.tmp 20), type := 29, pos := "l04_conjugacy.go:62", after := #[{ on := 9, ground := Ground.data }], guard := none }) (v := ?_) rfl (by kernel_rfl) (by kernel_rfl) (by kernel_rfl) (fun _ _ _ h => h) (Or.inl ⟨by rfl, ?_⟩) (by assumption) ?_
        rotate_left
        ·intro w hSw
         (try dsimp only at hSw)
         go_simp
         try with_reducible rfl
        try simp only [Act.put, List.setIfInBounds_toArray, List.set_cons_zero, List.set_cons_succ]
        refine wpAnyH_take (i := 11) (oi := { dst := some 21, op := Op.extract (Operand.tmp 10) 0, type := 28, pos := "l04_conjugacy.go:62", after := #[{ on := 10, ground := Ground.data }], guard := none }) (v := ?_) rfl (by kernel_rfl) (by kernel_rfl) (by kernel_rfl) (fun _ _ _ h => h) (Or.inl ⟨by rfl, ?_⟩) (by assumption) ?_
        rotate_left
        ·intro w hSw
         (try dsimp only at hSw)
         go_simp
         try with_reducible rfl
        try simp only [Act.put, List.setIfInBounds_toArray, List.set_cons_zero, List.set_cons_succ]
        refine wpAnyH_take (i := 12) (oi := { dst := some 22, op := Op.extract (Operand.tmp 10) 1, type := 2, pos := "l04_conjugacy.go:62", after := #[{ on := 10, ground := Ground.data }, { on := 14, ground := Ground.gcOnly Departure.lateStores }], guard := none }) (v := ?_) rfl (by kernel_rfl) (by kernel_rfl) (by kernel_rfl) (fun _ _ _ h => h) (Or.inl ⟨by rfl, ?_⟩) (by assumption) ?_
        rotate_left
        ·intro w hSw
         (try dsimp only at hSw)
         go_simp
         try with_reducible rfl
        try simp only [Act.put, List.setIfInBounds_toArray, List.set_cons_zero, List.set_cons_succ]
        refine wpAnyH_ready (rs := [14]) (by kernel_rfl) (by simp) ?_
        refine AllReadyH.cons (o := { dst := none, op := Op.store 28 (Operand.tmp 4) (Operand.tmp 21), type := 0, pos := "l04_conjugacy.go:62", after := #[{ on := 13, ground := Ground.data }, { on := 11, ground := Ground.data }, { on := 9, ground := Ground.chain }, { on := 0, ground := Ground.phase }, { on := 1, ground := Ground.phase }, { on := 2, ground := Ground.phase }, { on := 3, ground := Ground.phase }, { on := 4, ground := Ground.phase }, { on := 5, ground := Ground.phase }, { on := 6, ground := Ground.phase }, { on := 7, ground := Ground.phase }, { on := 8, ground := Ground.phase }, { on := 9, ground := Ground.phase }, { on := 10, ground := Ground.phase }, { on := 11, ground := Ground.phase }, { on := 12, ground := Ground.textOnly Departure.lateStores }, { on := 13, ground := Ground.phase }], guard := none }) rfl (fun K hK => ?_) ?_
        ·obtain ⟨w0, ⟨w1', w2', w3'⟩, w4', w5', w6'⟩ := Z0.out
         go_simp
         clear w0 w1' w2' w3' w4' w5' w6'
         replace Z0 := Lib.hid (Z0.out.fill (.int .i64 fs) (.int .i64 fp) (.slice x5 y5 z5))
         replace Q := Lib.hid (Q.out.past3 QA.out (.int .i64 fs) (.int .i64 fp) (.slice x5 y5 z5))
         replace KB := Lib.hid (below_set3 KB.out zG.out (.int .i64 fs) (.int .i64 fp) (.slice x5 y5 z5))
         obtain ⟨V9, hV9⟩ : ∃ V, V = (((u5.setCell ⟨u3.heap.size, 0, none⟩ (.int .i64 fs)).setCell ⟨u3.heap.size, 1, none⟩ (.int .i64 fp)).setCell ⟨u3.heap.size, 2, none⟩ (.slice x5 y5 z5)) := ⟨_, rfl⟩
         rw [← hV9] at Z0 Q KB ⊢
         clear hV9
         refine hK.out _ _ ?_ (fun hHeld => ?_)
         ·first | with_reducible exact SH.out _ KB.out | with_reducible exact SZ.out _ KB.out _ zG.out _ _ _
         clear hK K
         try simp only [Act.put, List.setIfInBounds_toArray, List.set_cons_zero, List.set_cons_succ]
         refine wpAnyH_ready (rs := [15]) (by kernel_rfl) (by simp) ?_
         refine AllReadyH.cons (o := { dst := some 5, op := Op.assign (Operand.tmp 22), type := 2, pos := "l04_conjugacy.go:62", after := #[{ on := 12, ground := Ground.data }, { on := 14, ground := Ground.chain }, { on := 0, ground := Ground.phase }, { on := 1, ground := Ground.phase }, { on := 2, ground := Ground.phase }, { on := 3, ground := Ground.phase }, { on := 4, ground := Ground.phase }, { on := 5, ground := Ground.phase }, { on := 6, ground := Ground.phase }, { on := 7, ground := Ground.phase }, { on := 8, ground := Ground.phase }, { on := 9, ground := Ground.phase }, { on := 10, ground := Ground.phase }, { on := 11, ground := Ground.phase }, { on := 12, ground := Ground.phase }, { on := 13, ground := Ground.phase }, { on := 14, ground := Ground.phase }], guard := none }) rfl (fun K hK => ?_) ?_
         ·go_simp
          refine hK.out _ _ ?_ (fun hHeld => ?_)
          ·first | with_reducible exact SH.out _ KB.out | with_reducible exact SZ.out _ KB.out _ zG.out _ _ _
          clear hK K
          try simp only [Act.put, List.setIfInBounds_toArray, List.set_cons_zero, List.set_cons_succ]
          refine wpAnyH_done (by kernel_rfl) ?_ _
          go_wp2_with fail
          go_meet
          exact ⟨_, _, _, _, rfl, rfl, h200, zG.out, Z0.out, Q.out, KB.out⟩
         exact AllReadyH.nil
        exact AllReadyH.nil
       exact AllReadyH.nil
      exact AllReadyH.nil
     exact AllReadyH.nil
    refine AllReadyH.cons (o := { dst := some 4, op := Op.alloc 28, type := 0, pos := "l04_conjugacy.go:62", after := #[], guard := none }) rfl (fun K hK => ?_) ?_
    ·go_simp
     have Z0 : Hid (At3 (u1.alloc (.cells #[.int .i64 0, .int .i64 0, .slice none 0 0] 28)) (u1.heap.size) (.int .i64 0) (.int .i64 0) (.slice none 0 0)) := Lib.hid ((At3.place u1 (.int .i64 0) (.int .i64 0) (.slice none 0 0) 28 (u1.heap.size) (by simp)))
     have zG : Hid (w1.heap.size ≤ u1.heap.size) := Lib.hid (by first | exact Nat.le_refl _ | exact KB.out.size)
     replace KB : Hid (Below w1.heap.size w1 (u1.alloc (.cells #[.int .i64 0, .int .i64 0, .slice none 0 0] 28))) := Lib.hid (KB.out.alloc KB.out.size (.cells #[.int .i64 0, .int .i64 0, .slice none 0 0] 28))
     obtain ⟨V8, hV8⟩ : ∃ V, V = (u1.alloc (.cells #[.int .i64 0, .int .i64 0, .slice none 0 0] 28)) := ⟨_, rfl⟩
     rw [← hV8] at KB Z0 ⊢
     clear hV8
     refine hK.out _ _ ?_ (fun hHeld => ?_)
     ·first | with_reducible exact SH.out _ KB.out | with_reducible exact SZ.out _ KB.out _ zG.out _ _ _
     clear hK K
     try simp only [Act.put, List.setIfInBounds_toArray, List.set_cons_zero, List.set_cons_succ]
     refine wpAnyH_ready (rs := [6]) (by kernel_rfl) (by simp) ?_
     refine AllReadyH.cons (o := { dst := some 17, op := Op.call { callee := Callee.value (Operand.func 60), args := #[Operand.tmp 16], argTypes := #[28] }, type := 28, pos := "l04_conjugacy.go:62", after := #[{ on := 5, ground := Ground.data }, { on := 3, ground := Ground.chain }], guard := none }) rfl (fun K hK => ?_) ?_
     ·go_simp
      refine (l04Cycle_any m m1 m8 p (by omega) a n cap HCP.out rs _ (RW.out.below KB.out) HN.out.sims (by omega) e0 kf HK.out).mono ?_
      rintro e u3 ⟨x3, y3, z3, rfl, hc3, ho, gg⟩
      replace Z0 := Lib.hid (Z0.out.below gg)
      have I := Lib.hid ho
      have hy3 : y3 = kf.length := ho.len.symm
      have HY3 := Lib.hid hy3; clear hy3
      replace KB := Lib.hid (below_go KB.out gg KB.out.size)
      clear ho gg
      have hf2 : ∀ v : World, (Instr.field 28 (.agg #[.int .i64 m, .int .i64 e0, .slice x3 y3 z3]) 2).run Try.prog v = .ok (.slice x3 y3 z3) v := fun _ => by kernel_rfl
      go_wp2_with fail
      refine hK.out _ _ ?_ (fun hHeld => ?_)
      ·first | with_reducible exact SH.out _ KB.out | with_reducible exact SZ.out _ KB.out _ zG.out _ _ _
      clear hK K
      try simp only [Act.put, List.setIfInBounds_toArray, List.set_cons_zero, List.set_cons_succ]
      refine wpAnyH_take (i := 7) (oi := { dst := some 18, op := Op.field 28 (Operand.tmp 17) 2, type := 26, pos := "l04_conjugacy.go:62", after := #[{ on := 6, ground := Ground.data }], guard := none }) (v := ?_) rfl (by kernel_rfl) (by kernel_rfl) (by kernel_rfl) (fun _ _ _ h => h) (Or.inl ⟨by rfl, ?_⟩) (by assumption) ?_
      rotate_left
      ·intro w hSw
       (try dsimp only at hSw)
       go_simp
       try with_reducible rfl
      try simp only [Act.put, List.setIfInBounds_toArray, List.set_cons_zero, List.set_cons_succ]
      refine wpAnyH_ready (rs := [8]) (by kernel_rfl) (by simp) ?_
      refine AllReadyH.cons (o := { dst := some 19, op := Op.call { callee := Callee.value (Operand.func 59), args := #[Operand.tmp 12, Operand.tmp 15, Operand.tmp 18], argTypes := #[2, 2, 26] }, type := 28, pos := "l04_conjugacy.go:62", after := #[{ on := 1, ground := Ground.data }, { on := 4, ground := Ground.data }, { on := 7, ground := Ground.data }, { on := 6, ground := Ground.chain }], guard := none }) rfl (fun K hK => ?_) ?_
      ·go_simp
       refine (l03Make_any m m1 m8 e0 (by have := HKB.out; omega) x3 y3 z3 kf _ I.out HKN.out.sims (by have := HKB.out; have := HY3.out; omega) e0 kf (mkN_id _ HKN.out)).mono ?_
       rintro e u4 ⟨x4, y4, z4, rfl, ho, gg⟩
       have PA := Lib.hid (OwnS.apart (g := u1.heap.size) (ho.toS) Z0.out.1)
       replace I := Lib.hid (I.out.below gg)
       replace Z0 := Lib.hid (Z0.out.below gg)
       have P : Hid (OwnS w1.heap.size u4 x4 y4 kf) := Lib.hid (ho.toS.mono KB.out.size)
       replace KB := Lib.hid (below_go KB.out gg KB.out.size)
       clear ho gg
       go_wp2_with fail
       refine hK.out _ _ ?_ (fun hHeld => ?_)
       ·first | with_reducible exact SH.out _ KB.out | with_reducible exact SZ.out _ KB.out _ zG.out _ _ _
       clear hK K
       try simp only [Act.put, List.setIfInBounds_toArray, List.set_cons_zero, List.set_cons_succ]
       refine wpAnyH_ready (rs := [9]) (by kernel_rfl) (by simp) ?_
       refine AllReadyH.cons (o := { dst := some 20, op := Op.call { callee := Callee.value (Operand.func 34), args := #[Operand.tmp 19], argTypes := #[28] }, type := 29, pos := "l04_conjugacy.go:62", after := #[{ on := 8, ground := Ground.data }, { on := 8, ground := Ground.chain }], guard := none }) rfl (fun K hK => ?_) ?_
       ·go_simp
        refine (l03Fit_own m e0 x4 y4 z4 kf _ P.out _ _ _ _ HM.out).mono ?_
        rintro e u5 ⟨x5, y5, z5, rfl, ho, h200, hre, gg⟩
        replace I := Lib.hid (I.out.below gg)
        replace P := Lib.hid (P.out.below gg)
        replace Z0 := Lib.hid (Z0.out.below gg)
        have Q : Hid (OwnS w1.heap.size u5 x5 y5 frs) := Lib.hid ho
        have QA : Hid (y5 = 0 ∨ ∀ x, x5 = some x → x.block ≠ u1.heap.size) := Lib.hid (by rcases hre with h | ⟨h, h'⟩; exact .inl h; (rw [h, h']; exact PA.out))
        replace KB := Lib.hid (below_go KB.out gg KB.out.size)
        clear ho gg
        go_wp2_with fail
        refine hK.out _ _ ?_ (fun hHeld => ?_)
        ·first | with_reducible exact SH.out _ KB.out | with_reducible exact SZ.out _ KB.out _ zG.out _ _ _
        clear hK K
        try simp only [Act.put, List.setIfInBounds_toArray, List.set_cons_zero, List.set_cons_succ]
        refine wpAnyH_take (i := 10) (oi := { dst := some 10, op := Op.move (Operand.tmp 20), type := 29, pos := "l04_conjugacy.go:62", after := #[{ on := 9, ground := Ground.data }], guard := none }) (v := ?_) rfl (by kernel_rfl) (by kernel_rfl) (by kernel_rfl) (fun _ _ _ h => h) (Or.inl ⟨by rfl, ?_⟩) (by assumption) ?_
        rotate_left
        ·intro w hSw
         (try dsimp only at hSw)
         go_simp
         try with_reducible rfl
        try simp only [Act.put, List.setIfInBounds_toArray, List.set_cons_zero, List.set_cons_succ]
        refine wpAnyH_take (i := 11) (oi := { dst := some 21, op := Op.extract (Operand.tmp 10) 0, type := 28, pos := "l04_conjugacy.go:62", after := #[{ on := 10, ground := Ground.data }], guard := none }) (v := ?_) rfl (by kernel_rfl) (by kernel_rfl) (by kernel_rfl) (fun _ _ _ h => h) (Or.inl ⟨by rfl, ?_⟩) (by assumption) ?_
        rotate_left
        ·intro w hSw
         (try dsimp only at hSw)
         go_simp
         try with_reducible rfl
        try simp only [Act.put, List.setIfInBounds_toArray, List.set_cons_zero, List.set_cons_succ]
        refine wpAnyH_take (i := 12) (oi := { dst := some 22, op := Op.extract (Operand.tmp 10) 1, type := 2, pos := "l04_conjugacy.go:62", after := #[{ on := 10, ground := Ground.data }, { on := 14, ground := Ground.gcOnly Departure.lateStores }], guard := none }) (v := ?_) rfl (by kernel_rfl) (by kernel_rfl) (by kernel_rfl) (fun _ _ _ h => h) (Or.inl ⟨by rfl, ?_⟩) (by assumption) ?_
        rotate_left
        ·intro w hSw
         (try dsimp only at hSw)
         go_simp
         try with_reducible rfl
        try simp only [Act.put, List.setIfInBounds_toArray, List.set_cons_zero, List.set_cons_succ]
        refine wpAnyH_ready (rs := [14]) (by kernel_rfl) (by simp) ?_
        refine AllReadyH.cons (o := { dst := none, op := Op.store 28 (Operand.tmp 4) (Operand.tmp 21), type := 0, pos := "l04_conjugacy.go:62", after := #[{ on := 13, ground := Ground.data }, { on := 11, ground := Ground.data }, { on := 9, ground := Ground.chain }, { on := 0, ground := Ground.phase }, { on := 1, ground := Ground.phase }, { on := 2, ground := Ground.phase }, { on := 3, ground := Ground.phase }, { on := 4, ground := Ground.phase }, { on := 5, ground := Ground.phase }, { on := 6, ground := Ground.phase }, { on := 7, ground := Ground.phase }, { on := 8, ground := Ground.phase }, { on := 9, ground := Ground.phase }, { on := 10, ground := Ground.phase }, { on := 11, ground := Ground.phase }, { on := 12, ground := Ground.textOnly Departure.lateStores }, { on := 13, ground := Ground.phase }], guard := none }) rfl (fun K hK => ?_) ?_
        ·obtain ⟨w0, ⟨w1', w2', w3'⟩, w4', w5', w6'⟩ := Z0.out
         go_simp
         clear w0 w1' w2' w3' w4' w5' w6'
         replace Z0 := Lib.hid (Z0.out.fill (.int .i64 fs) (.int .i64 fp) (.slice x5 y5 z5))
         replace Q := Lib.hid (Q.out.past3 QA.out (.int .i64 fs) (.int .i64 fp) (.slice x5 y5 z5))
         replace KB := Lib.hid (below_set3 KB.out zG.out (.int .i64 fs) (.int .i64 fp) (.slice x5 y5 z5))
         obtain ⟨V9, hV9⟩ : ∃ V, V = (((u5.setCell ⟨u1.heap.size, 0, none⟩ (.int .i64 fs)).setCell ⟨u1.heap.size, 1, none⟩ (.int .i64 fp)).setCell ⟨u1.heap.size, 2, none⟩ (.slice x5 y5 z5)) := ⟨_, rfl⟩
         rw [← hV9] at Z0 Q KB ⊢
         clear hV9
         refine hK.out _ _ ?_ (fun hHeld => ?_)
         ·first | with_reducible exact SH.out _ KB.out | with_reducible exact SZ.out _ KB.out _ zG.out _ _ _
         clear hK K
         try simp only [Act.put, List.setIfInBounds_toArray, List.set_cons_zero, List.set_cons_succ]
         refine wpAnyH_ready (rs := [15]) (by kernel_rfl) (by simp) ?_
         refine AllReadyH.cons (o := { dst := some 5, op := Op.assign (Operand.tmp 22), type := 2, pos := "l04_conjugacy.go:62", after := #[{ on := 12, ground := Ground.data }, { on := 14, ground := Ground.chain }, { on := 0, ground := Ground.phase }, { on := 1, ground := Ground.phase }, { on := 2, ground := Ground.phase }, { on := 3, ground := Ground.phase }, { on := 4, ground := Ground.phase }, { on := 5, ground := Ground.phase }, { on := 6, ground := Ground.phase }, { on := 7, ground := Ground.phase }, { on := 8, ground := Ground.phase }, { on := 9, ground := Ground.phase }, { on := 10, ground := Ground.phase }, { on := 11, ground := Ground.phase }, { on := 12, ground := Ground.phase }, { on := 13, ground := Ground.phase }, { on := 14, ground := Ground.phase }], guard := none }) rfl (fun K hK => ?_) ?_
         ·go_simp
          refine hK.out _ _ ?_ (fun hHeld => ?_)
          ·first | with_reducible exact SH.out _ KB.out | with_reducible exact SZ.out _ KB.out _ zG.out _ _ _
          clear hK K
          try simp only [Act.put, List.setIfInBounds_toArray, List.set_cons_zero, List.set_cons_succ]
          refine wpAnyH_done (by kernel_rfl) ?_ _
          go_wp2_with fail
          go_meet
          exact ⟨_, _, _, _, rfl, rfl, h200, zG.out, Z0.out, Q.out, KB.out⟩
         exact AllReadyH.nil
        exact AllReadyH.nil
       exact AllReadyH.nil
      exact AllReadyH.nil
     exact AllReadyH.nil
    exact AllReadyH.nil
   refine AllReadyH.cons (o := { dst := some 4, op := Op.alloc 28, type := 0, pos := "l04_conjugacy.go:62", after := #[], guard := none }) rfl (fun K hK => ?_) ?_
   ·go_simp
    have Z0 : Hid (At3 (w1.alloc (.cells #[.int .i64 0, .int .i64 0, .slice none 0 0] 28)).drew (w1.heap.size) (.int .i64 0) (.int .i64 0) (.slice none 0 0)) := Lib.hid ((At3.place w1 (.int .i64 0) (.int .i64 0) (.slice none 0 0) 28 (w1.heap.size) (by simp)).drew)
    have zG : Hid (w1.heap.size ≤ w1.heap.size) := Lib.hid (by first | exact Nat.le_refl _ | exact KB.out.size)
    replace KB : Hid (Below w1.heap.size w1 (w1.alloc (.cells #[.int .i64 0, .int .i64 0, .slice none 0 0] 28)).drew) := Lib.hid (KB.out.alloc KB.out.size (.cells #[.int .i64 0, .int .i64 0, .slice none 0 0] 28))
    refine hK.out _ _ ?_ (fun hHeld => ?_)
    ·first | with_reducible exact SH.out _ KB.out | with_reducible exact SZ.out _ KB.out _ zG.out _ _ _
    clear hK K
    try simp only [Act.put, List.setIfInBounds_toArray, List.set_cons_zero, List.set_cons_succ]
    refine wpAnyH_ready (rs := [3]) (by kernel_rfl) (by simp) ?_
    refine AllReadyH.cons (o := { dst := some 14, op := Op.call { callee := Callee.value (Operand.func 60), args := #[Operand.tmp 13], argTypes := #[28] }, type := 28, pos := "l04_conjugacy.go:62", after := #[{ on := 2, ground := Ground.data }], guard := none }) rfl (fun K hK => ?_) ?_
    ·go_simp
     refine (l04Cycle_any m m1 m8 p (by omega) a n cap HCP.out rs _ (RW.out.below KB.out) HN.out.sims (by omega) e0 kf HK.out).mono ?_
     rintro e u1 ⟨x2, y2, z2, rfl, hc2, ho, gg⟩
     replace Z0 := Lib.hid (Z0.out.below gg)
     replace KB := Lib.hid (below_go KB.out gg KB.out.size)
     clear ho gg
     have hf1 : ∀ v : World, (Instr.field 28 (.agg #[.int .i64 m, .int .i64 e0, .slice x2 y2 z2]) 1).run Try.prog v = .ok (.int .i64 e0) v := fun _ => by kernel_rfl
     go_wp2_with fail
     refine hK.out _ _ ?_ (fun hHeld => ?_)
     ·first | with_reducible exact SH.out _ KB.out | with_reducible exact SZ.out _ KB.out _ zG.out _ _ _
     clear hK K
     try simp only [Act.put, List.setIfInBounds_toArray, List.set_cons_zero, List.set_cons_succ]
     refine wpAnyH_take (i := 4) (oi := { dst := some 15, op := Op.field 28 (Operand.tmp 14) 1, type := 2, pos := "l04_conjugacy.go:62", after := #[{ on := 3, ground := Ground.data }], guard := none }) (v := ?_) rfl (by kernel_rfl) (by kernel_rfl) (by kernel_rfl) (fun _ _ _ h => h) (Or.inl ⟨by rfl, ?_⟩) (by assumption) ?_
     rotate_left
     ·intro w hSw
      (try dsimp only at hSw)
      go_simp
      try with_reducible rfl
     try simp only [Act.put, List.setIfInBounds_toArray, List.set_cons_zero, List.set_cons_succ]
     refine wpAnyH_ready (rs := [6]) (by kernel_rfl) (by simp) ?_
     refine AllReadyH.cons (o := { dst := some 17, op := Op.call { callee := Callee.value (Operand.func 60), args := #[Operand.tmp 16], argTypes := #[28] }, type := 28, pos := "l04_conjugacy.go:62", after := #[{ on := 5, ground := Ground.data }, { on := 3, ground := Ground.chain }], guard := none }) rfl (fun K hK => ?_) ?_
     ·go_simp
      refine (l04Cycle_any m m1 m8 p (by omega) a n cap HCP.out rs _ (RW.out.below KB.out) HN.out.sims (by omega) e0 kf HK.out).mono ?_
      rintro e u3 ⟨x3, y3, z3, rfl, hc3, ho, gg⟩
      replace Z0 := Lib.hid (Z0.out.below gg)
      have I := Lib.hid ho
      have hy3 : y3 = kf.length := ho.len.symm
      have HY3 := Lib.hid hy3; clear hy3
      replace KB := Lib.hid (below_go KB.out gg KB.out.size)
      clear ho gg
      have hf2 : ∀ v : World, (Instr.field 28 (.agg #[.int .i64 m, .int .i64 e0, .slice x3 y3 z3]) 2).run Try.prog v = .ok (.slice x3 y3 z3) v := fun _ => by kernel_rfl
      go_wp2_with fail
      refine hK.out _ _ ?_ (fun hHeld => ?_)
      ·first | with_reducible exact SH.out _ KB.out | with_reducible exact SZ.out _ KB.out _ zG.out _ _ _
      clear hK K
      try simp only [Act.put, List.setIfInBounds_toArray, List.set_cons_zero, List.set_cons_succ]
      refine wpAnyH_take (i := 7) (oi := { dst := some 18, op := Op.field 28 (Operand.tmp 17) 2, type := 26, pos := "l04_conjugacy.go:62", after := #[{ on := 6, ground := Ground.data }], guard := none }) (v := ?_) rfl (by kernel_rfl) (by kernel_rfl) (by kernel_rfl) (fun _ _ _ h => h) (Or.inl ⟨by rfl, ?_⟩) (by assumption) ?_
      rotate_left
      ·intro w hSw
       (try dsimp only at hSw)
       go_simp
       try with_reducible rfl
      try simp only [Act.put, List.setIfInBounds_toArray, List.set_cons_zero, List.set_cons_succ]
      refine wpAnyH_ready (rs := [8]) (by kernel_rfl) (by simp) ?_
      refine AllReadyH.cons (o := { dst := some 19, op := Op.call { callee := Callee.value (Operand.func 59), args := #[Operand.tmp 12, Operand.tmp 15, Operand.tmp 18], argTypes := #[2, 2, 26] }, type := 28, pos := "l04_conjugacy.go:62", after := #[{ on := 1, ground := Ground.data }, { on := 4, ground := Ground.data }, { on := 7, ground := Ground.data }, { on := 6, ground := Ground.chain }], guard := none }) rfl (fun K hK => ?_) ?_
      ·go_simp
       refine (l03Make_any m m1 m8 e0 (by have := HKB.out; omega) x3 y3 z3 kf _ I.out HKN.out.sims (by have := HKB.out; have := HY3.out; omega) e0 kf (mkN_id _ HKN.out)).mono ?_
       rintro e u4 ⟨x4, y4, z4, rfl, ho, gg⟩
       have PA := Lib.hid (OwnS.apart (g := w1.heap.size) (ho.toS) Z0.out.1)
       replace I := Lib.hid (I.out.below gg)
       replace Z0 := Lib.hid (Z0.out.below gg)
       have P : Hid (OwnS w1.heap.size u4 x4 y4 kf) := Lib.hid (ho.toS.mono KB.out.size)
       replace KB := Lib.hid (below_go KB.out gg KB.out.size)
       clear ho gg
       go_wp2_with fail
       refine hK.out _ _ ?_ (fun hHeld => ?_)
       ·first | with_reducible exact SH.out _ KB.out | with_reducible exact SZ.out _ KB.out _ zG.out _ _ _
       clear hK K
       try simp only [Act.put, List.setIfInBounds_toArray, List.set_cons_zero, List.set_cons_succ]
       refine wpAnyH_ready (rs := [9]) (by kernel_rfl) (by simp) ?_
       refine AllReadyH.cons (o := { dst := some 20, op := Op.call { callee := Callee.value (Operand.func 34), args := #[Operand.tmp 19], argTypes := #[28] }, type := 29, pos := "l04_conjugacy.go:62", after := #[{ on := 8, ground := Ground.data }, { on := 8, ground := Ground.chain }], guard := none }) rfl (fun K hK => ?_) ?_
       ·go_simp
        refine (l03Fit_own m e0 x4 y4 z4 kf _ P.out _ _ _ _ HM.out).mono ?_
        rintro e u5 ⟨x5, y5, z5, rfl, ho, h200, hre, gg⟩
        replace I := Lib.hid (I.out.below gg)
        replace P := Lib.hid (P.out.below gg)
        replace Z0 := Lib.hid (Z0.out.below gg)
        have Q : Hid (OwnS w1.heap.size u5 x5 y5 frs) := Lib.hid ho
        have QA : Hid (y5 = 0 ∨ ∀ x, x5 = some x → x.block ≠ w1.heap.size) := Lib.hid (by rcases hre with h | ⟨h, h'⟩; exact .inl h; (rw [h, h']; exact PA.out))
        replace KB := Lib.hid (below_go KB.out gg KB.out.size)
        clear ho gg
        go_wp2_with fail
        refine hK.out _ _ ?_ (fun hHeld => ?_)
        ·first | with_reducible exact SH.out _ KB.out | with_reducible exact SZ.out _ KB.out _ zG.out _ _ _
        clear hK K
        try simp only [Act.put, List.setIfInBounds_toArray, List.set_cons_zero, List.set_cons_succ]
        refine wpAnyH_take (i := 10) (oi := { dst := some 10, op := Op.move (Operand.tmp 20), type := 29, pos := "l04_conjugacy.go:62", after := #[{ on := 9, ground := Ground.data }], guard := none }) (v := ?_) rfl (by kernel_rfl) (by kernel_rfl) (by kernel_rfl) (fun _ _ _ h => h) (Or.inl ⟨by rfl, ?_⟩) (by assumption) ?_
        rotate_left
        ·intro w hSw
         (try dsimp only at hSw)
         go_simp
         try with_reducible rfl
        try simp only [Act.put, List.setIfInBounds_toArray, List.set_cons_zero, List.set_cons_succ]
        refine wpAnyH_take (i := 11) (oi := { dst := some 21, op := Op.extract (Operand.tmp 10) 0, type := 28, pos := "l04_conjugacy.go:62", after := #[{ on := 10, ground := Ground.data }], guard := none }) (v := ?_) rfl (by kernel_rfl) (by kernel_rfl) (by kernel_rfl) (fun _ _ _ h => h) (Or.inl ⟨by rfl, ?_⟩) (by assumption) ?_
        rotate_left
        ·intro w hSw
         (try dsimp only at hSw)
         go_simp
         try with_reducible rfl
        try simp only [Act.put, List.setIfInBounds_toArray, List.set_cons_zero, List.set_cons_succ]
        refine wpAnyH_take (i := 12) (oi := { dst := some 22, op := Op.extract (Operand.tmp 10) 1, type := 2, pos := "l04_conjugacy.go:62", after := #[{ on := 10, ground := Ground.data }, { on := 14, ground := Ground.gcOnly Departure.lateStores }], guard := none }) (v := ?_) rfl (by kernel_rfl) (by kernel_rfl) (by kernel_rfl) (fun _ _ _ h => h) (Or.inl ⟨by rfl, ?_⟩) (by assumption) ?_
        rotate_left
        ·intro w hSw
         (try dsimp only at hSw)
         go_simp
         try with_reducible rfl
        try simp only [Act.put, List.setIfInBounds_toArray, List.set_cons_zero, List.set_cons_succ]
        refine wpAnyH_ready (rs := [14]) (by kernel_rfl) (by simp) ?_
        refine AllReadyH.cons (o := { dst := none, op := Op.store 28 (Operand.tmp 4) (Operand.tmp 21), type := 0, pos := "l04_conjugacy.go:62", after := #[{ on := 13, ground := Ground.data }, { on := 11, ground := Ground.data }, { on := 9, ground := Ground.chain }, { on := 0, ground := Ground.phase }, { on := 1, ground := Ground.phase }, { on := 2, ground := Ground.phase }, { on := 3, ground := Ground.phase }, { on := 4, ground := Ground.phase }, { on := 5, ground := Ground.phase }, { on := 6, ground := Ground.phase }, { on := 7, ground := Ground.phase }, { on := 8, ground := Ground.phase }, { on := 9, ground := Ground.phase }, { on := 10, ground := Ground.phase }, { on := 11, ground := Ground.phase }, { on := 12, ground := Ground.textOnly Departure.lateStores }, { on := 13, ground := Ground.phase }], guard := none }) rfl (fun K hK => ?_) ?_
        ·obtain ⟨w0, ⟨w1', w2', w3'⟩, w4', w5', w6'⟩ := Z0.out
         go_simp
         clear w0 w1' w2' w3' w4' w5' w6'
         replace Z0 := Lib.hid (Z0.out.fill (.int .i64 fs) (.int .i64 fp) (.slice x5 y5 z5))
         replace Q := Lib.hid (Q.out.past3 QA.out (.int .i64 fs) (.int .i64 fp) (.slice x5 y5 z5))
         replace KB := Lib.hid (below_set3 KB.out zG.out (.int .i64 fs) (.int .i64 fp) (.slice x5 y5 z5))
         obtain ⟨V9, hV9⟩ : ∃ V, V = (((u5.setCell ⟨w1.heap.size, 0, none⟩ (.int .i64 fs)).setCell ⟨w1.heap.size, 1, none⟩ (.int .i64 fp)).setCell ⟨w1.heap.size, 2, none⟩ (.slice x5 y5 z5)) := ⟨_, rfl⟩
         rw [← hV9] at Z0 Q KB ⊢
         clear hV9
         refine hK.out _ _ ?_ (fun hHeld => ?_)
         ·first | with_reducible exact SH.out _ KB.out | with_reducible exact SZ.out _ KB.out _ zG.out _ _ _
         clear hK K
         try simp only [Act.put, List.setIfInBounds_toArray, List.set_cons_zero, List.set_cons_succ]
         refine wpAnyH_ready (rs := [15]) (by kernel_rfl) (by simp) ?_
         refine AllReadyH.cons (o := { dst := some 5, op := Op.assign (Operand.tmp 22), type := 2, pos := "l04_conjugacy.go:62", after := #[{ on := 12, ground := Ground.data }, { on := 14, ground := Ground.chain }, { on := 0, ground := Ground.phase }, { on := 1, ground := Ground.phase }, { on := 2, ground := Ground.phase }, { on := 3, ground := Ground.phase }, { on := 4, ground := Ground.phase }, { on := 5, ground := Ground.phase }, { on := 6, ground := Ground.phase }, { on := 7, ground := Ground.phase }, { on := 8, ground := Ground.phase }, { on := 9, ground := Ground.phase }, { on := 10, ground := Ground.phase }, { on := 11, ground := Ground.phase }, { on := 12, ground := Ground.phase }, { on := 13, ground := Ground.phase }, { on := 14, ground := Ground.phase }], guard := none }) rfl (fun K hK => ?_) ?_
         ·go_simp
          refine hK.out _ _ ?_ (fun hHeld => ?_)
          ·first | with_reducible exact SH.out _ KB.out | with_reducible exact SZ.out _ KB.out _ zG.out _ _ _
          clear hK K
          try simp only [Act.put, List.setIfInBounds_toArray, List.set_cons_zero, List.set_cons_succ]
          refine wpAnyH_done (by kernel_rfl) ?_ _
          go_wp2_with fail
          go_meet
          exact ⟨_, _, _, _, rfl, rfl, h200, zG.out, Z0.out, Q.out, KB.out⟩
         exact AllReadyH.nil
        exact AllReadyH.nil
       exact AllReadyH.nil
      exact AllReadyH.nil
     exact AllReadyH.nil
    exact AllReadyH.nil
   exact AllReadyH.nil
  case rest =>
   obtain ⟨w2, hwc⟩ : ∃ x, x = wc := ⟨_, rfl⟩; subst hwc
   obtain ⟨g, b2, m2, d2, rfl, rfl, h200, hgl, hW, hQ, hb⟩ := hcut
   replace Z := Lib.hid (Z.out.below hb)
   replace B := Lib.hid (below_go B.out hb (by omega))
   have hz2 : w1.heap.size ≤ w2.heap.size := hb.size
   have FB := Lib.hid hW
   have Q := Lib.hid hQ
   clear hW hQ hb
   obtain ⟨r1, r2, r3⟩ := FB.out.all
   obtain ⟨x0, ⟨x1, x2, x3⟩, y1, y2, y3⟩ := Z.out
   go_wp2
   try rw [Exit.noGoto_ret]
   obtain ⟨_, ⟨e1', e2', e3'⟩, _⟩ := (Z.out.fill (.int .i64 fs) (.int .i64 fp) (.slice b2 m2 d2))
   exact bodyPost_ret (v := .tuple #[.agg #[.int .i64 fs, .int .i64 fp, .slice b2 m2 d2], .int .i64 fc]) (by simp [results, Try.results24, go_sem, e1', e2', e3']) rfl ⟨_, _, _, rfl, by omega, ((Q.out.set3 (by omega) _ _ _).mono (by omega)), below_set3 B.out (by omega) _ _ _⟩
 | false =>
  rw [hB, if_neg (by simp)] at hM
  simp only [Prod.mk.injEq] at hM
  obtain ⟨rfl, rfl, rfl, rfl⟩ := hM
  go_enter Try.func24, Try.ntmps24
  have A := Lib.hid ((At3.place w (.int .i64 s) (.int .i64 p) (.slice a n cap) 28 w.heap.size rfl).alloc (.cells #[.int .i64 0, .int .i64 0, .slice none 0 0] 28))
  have Z := Lib.hid (At3.place (w.alloc (.cells #[.int .i64 s, .int .i64 p, .slice a n cap] 28)) (.int .i64 0) (.int .i64 0) (.slice none 0 0) 28 (w.heap.size + 1) (by simp))
  have B := Lib.hid ((below1 w (.cells #[.int .i64 s, .int .i64 p, .slice a n cap] 28)).alloc (by simp) (.cells #[.int .i64 0, .int .i64 0, .slice none 0 0] 28))
  go_wp2_with fail
  refine (l03Is_any s p a n cap rs _ ((HR.out.alloc _).alloc _) HY.out hn).mono ?_
  rw [hB]
  rintro e w1 ⟨rfl, hb⟩
  have hz1 : w.heap.size + 1 + 1 ≤ w1.heap.size := by have := hb.size; simp at this; omega
  replace A := Lib.hid (A.out.below hb)
  replace Z := Lib.hid (Z.out.below hb)
  replace B := Lib.hid (below_go B.out hb (by simp; omega))
  clear hb
  obtain ⟨x0, ⟨x1, x2, x3⟩, y1, y2, y3⟩ := Z.out
  go_wp2
  try rw [Exit.noGoto_ret]
  obtain ⟨_, ⟨e1, e2, e3⟩, _⟩ := Z.out.fill (.int .i64 0) (.int .i64 0) (.slice none 0 0)
  exact bodyPost_ret (v := .tuple #[.agg #[.int .i64 0, .int .i64 0, .slice none 0 0], .int .i64 1]) (by simp [results, Try.results24, go_sem, e1, e2, e3]) rfl ⟨none, 0, 0, rfl, by omega, OwnS.nil _ _ _, below_set3 B.out (by omega) _ _ _⟩

set_option maxRecDepth 100000 in
set_option maxHeartbeats 2000000 in
theorem implCycling_any (s p : Int) (a : Option Addr) (n cap : Nat) (rs : List (List Int)) (w : World) (hr : ReadsA w a n rs) (_hy : BytesA rs) (hn : n ≤ 1048576) (hcap : n ≤ cap) (fs fp : Int) (frs : List (List Int)) (fc : Int) (hM : mCyc s p rs = (fs, fp, frs, fc)) :
  Calls Try.prog 25 #[.agg #[.int .i64 s, .int .i64 p, .slice a n cap]] w (RetNCS w fs fp frs fc) := by
 have HL := Lib.hid hr.len
 have HR := Lib.hid hr; clear hr
 have HCP := Lib.hid hcap; clear hcap
 unfold mCyc at hM
 cases hB : normB s p rs with
 | true =>
  rw [hB, if_pos rfl] at hM
  obtain ⟨m, rfl, m1, m8, hnl, hp, hlen⟩ := norm_nl HR.out.rows hB
  have HN := Lib.hid hnl; clear hnl
  rw [Int.toNat_natCast] at hM
  rw [HL.out] at hlen
  obtain ⟨e0, kf, hk⟩ : ∃ e0 kf, cycN m p rs = (e0, kf) := ⟨_, _, rfl⟩
  rw [hk] at hM
  have HK := Lib.hid hk; clear hk
  have HM := Lib.hid hM; clear hM
  go_enter Try.func25, Try.ntmps25
  have A := Lib.hid ((At3.place w (.int .i64 m) (.int .i64 p) (.slice a n cap) 28 w.heap.size rfl).alloc (.cells #[.int .i64 0, .int .i64 0, .slice none 0 0] 28))
  have Z := Lib.hid (At3.place (w.alloc (.cells #[.int .i64 m, .int .i64 p, .slice a n cap] 28)) (.int .i64 0) (.int .i64 0) (.slice none 0 0) 28 (w.heap.size + 1) (by simp))
  have B := Lib.hid ((below1 w (.cells #[.int .i64 m, .int .i64 p, .slice a n cap] 28)).alloc (by simp) (.cells #[.int .i64 0, .int .i64 0, .slice none 0 0] 28))
  go_wp2_with fail
  refine (implIsNormal_any m p a n cap rs _ ((HR.out.alloc _).alloc _) hn).mono ?_
  rw [hB]
  rintro e w1 ⟨rfl, hb⟩
  have hz1 : w.heap.size + 1 + 1 ≤ w1.heap.size := by have := hb.size; simp at this; omega
  replace A := Lib.hid (A.out.below hb)
  replace Z := Lib.hid (Z.out.below hb)
  replace B := Lib.hid (below_go B.out hb (by simp; omega))
  clear hb
  obtain ⟨q1, q2, q3⟩ := A.out.all
  go_wp2_with fail
  refine (cycled_any m m1 m8 p (by omega) a n cap HCP.out rs _ (HR.out.below B.out) HN.out (by omega) e0 kf HK.out).mono ?_
  rintro e w2 ⟨a2, n2, c2, rfl, hc2, ho, gg⟩
  have hz2 : w1.heap.size ≤ w2.heap.size := gg.size
  replace Z := Lib.hid (Z.out.below gg)
  replace B := Lib.hid (below_go B.out gg (by omega))
  have O2 : Hid (OwnS w1.heap.size w2 a2 n2 kf) := Lib.hid (ho)
  clear ho gg q1 q2 q3
  go_wp2_with fail
  refine (limited_own m e0 a2 n2 c2 kf _ O2.out _ _ _ _ HM.out).mono ?_
  rintro e w3 ⟨a3, n3, c3, rfl, ho, h3, _, gg⟩
  have hz3 : w2.heap.size ≤ w3.heap.size := gg.size
  replace Z := Lib.hid (Z.out.below gg)
  replace B := Lib.hid (below_go B.out gg (by omega))
  have O3 := Lib.hid ho
  clear ho gg
  obtain ⟨x0, ⟨x1, x2, x3⟩, y1, y2, y3⟩ := Z.out
  go_wp2
  try rw [Exit.noGoto_ret]
  obtain ⟨_, ⟨e1', e2', e3'⟩, _⟩ := ((Z.out.fill (.int .i64 fs) (.int .i64 fp) (.slice a3 n3 c3)))
  exact bodyPost_ret (v := .tuple #[.agg #[.int .i64 fs, .int .i64 fp, .slice a3 n3 c3], .int .i64 fc]) (by simp [results, Try.results25, go_sem, e1', e2', e3']) rfl ⟨_, _, _, rfl, by omega, ((((O3.out).set3 (by omega) _ _ _)).mono (by omega)), (below_set3 B.out (by omega) _ _ _)⟩
 | false =>
  rw [hB, if_neg (by simp)] at hM
  simp only [Prod.mk.injEq] at hM
  obtain ⟨rfl, rfl, rfl, rfl⟩ := hM
  go_enter Try.func25, Try.ntmps25
  have A := Lib.hid ((At3.place w (.int .i64 s) (.int .i64 p) (.slice a n cap) 28 w.heap.size rfl).alloc (.cells #[.int .i64 0, .int .i64 0, .slice none 0 0] 28))
  have Z := Lib.hid (At3.place (w.alloc (.cells #[.int .i64 s, .int .i64 p, .slice a n cap] 28)) (.int .i64 0) (.int .i64 0) (.slice none 0 0) 28 (w.heap.size + 1) (by simp))
  have B := Lib.hid ((below1 w (.cells #[.int .i64 s, .int .i64 p, .slice a n cap] 28)).alloc (by simp) (.cells #[.int .i64 0, .int .i64 0, .slice none 0 0] 28))
  go_wp2_with fail
  refine (implIsNormal_any s p a n cap rs _ ((HR.out.alloc _).alloc _) hn).mono ?_
  rw [hB]
  rintro e w1 ⟨rfl, hb⟩
  have hz1 : w.heap.size + 1 + 1 ≤ w1.heap.size := by have := hb.size; simp at this; omega
  replace A := Lib.hid (A.out.below hb)
  replace Z := Lib.hid (Z.out.below hb)
  replace B := Lib.hid (below_go B.out hb (by simp; omega))
  clear hb
  obtain ⟨x0, ⟨x1, x2, x3⟩, y1, y2, y3⟩ := Z.out
  go_wp2
  try rw [Exit.noGoto_ret]
  obtain ⟨_, ⟨e1, e2, e3⟩, _⟩ := Z.out.fill (.int .i64 0) (.int .i64 0) (.slice none 0 0)
  exact bodyPost_ret (v := .tuple #[.agg #[.int .i64 0, .int .i64 0, .slice none 0 0], .int .i64 1]) (by simp [results, Try.results25, go_sem, e1, e2, e3]) rfl ⟨none, 0, 0, rfl, by omega, OwnS.nil _ _ _, below_set3 B.out (by omega) _ _ _⟩

end Go.Proofs.Ytleoohplnkdbdab

