/- The fraction of a normal form: the model. -/
import Derived.Test.YthpmehhfhngnbaaFrTraP
import Derived.Test.YthpmehhfhngnbaaFrNMul
namespace Go.Proofs.Ythpmehhfhngnbaa
open Go.RowKit Go.ChangeShapes

/-- What FractionOf hands back. -/
def RetFra (w : World) (f : (Int × Int × List (List Int)) × (Int × Int × List (List Int)) × Int) (e : Ending) (w' : World) : Prop :=
 ∃ a1 n1 c1 a2 n2 c2, e = .returned (.tuple #[.agg #[.int .i64 f.1.1, .int .i64 f.1.2.1, .slice a1 n1 c1], .agg #[.int .i64 f.2.1.1, .int .i64 f.2.1.2.1, .slice a2 n2 c2], .int .i64 f.2.2]) ∧ n1 ≤ 1048576 ∧ n2 ≤ 1048576 ∧
  OwnS w.heap.size w' a1 n1 f.1.2.2 ∧ OwnS w.heap.size w' a2 n2 f.2.1.2.2 ∧ Below w.heap.size w w'

theorem OwnS.same {B : Nat} {w : World} {a : Option Addr} {n : Nat} {l l' : List (List Int)} (h : OwnS B w a n l) (k : ReadsA w a n l') : OwnS B w a n l' := by
 refine ⟨k.rows, k.len, ?_⟩
 rcases h.2.2 with h0 | ⟨g, off, rfl, hB, hg, _, hf⟩
 ·exact .inl h0
 ·rcases k.2.2 with h0 | ⟨g2, off2, e, hc⟩
  ·exact .inl h0
  ·cases e
   exact .inr ⟨g, off, rfl, hB, hg, hc, hf⟩

set_option maxRecDepth 100000 in
set_option maxHeartbeats 20000000 in
theorem specFraction_any (s p : Int) (a : Option Addr) (n cap : Nat) (rs : List (List Int)) (w : World) (hr : ReadsA w a n rs) (hy : BytesA rs) (hn : n ≤ 1048576) :
  Calls Try.prog 33 #[.agg #[.int .i64 s, .int .i64 p, .slice a n cap]] w (RetFra w (mFra s p rs)) := by
 obtain ⟨i0, hi, hi0, hi1, hi2⟩ := info_parts infoSimple
 have HL := Lib.hid hr.len
 have HR := Lib.hid hr; clear hr
 have HY := Lib.hid hy; clear hy
 have A := Lib.hid (((At3.place w (.int .i64 s) (.int .i64 p) (.slice a n cap) 28 w.heap.size rfl).alloc (.cells #[.int .i64 0, .int .i64 0, .slice none 0 0] 28)).alloc (.cells #[.int .i64 0, .int .i64 0, .slice none 0 0] 28))
 have Z1 := Lib.hid ((At3.place (w.alloc (.cells #[.int .i64 s, .int .i64 p, .slice a n cap] 28)) (.int .i64 0) (.int .i64 0) (.slice none 0 0) 28 (w.heap.size + 1) (by simp)).alloc (.cells #[.int .i64 0, .int .i64 0, .slice none 0 0] 28))
 have Z2 := Lib.hid (At3.place ((w.alloc (.cells #[.int .i64 s, .int .i64 p, .slice a n cap] 28)).alloc (.cells #[.int .i64 0, .int .i64 0, .slice none 0 0] 28)) (.int .i64 0) (.int .i64 0) (.slice none 0 0) 28 (w.heap.size + 1 + 1) (by simp))
 have B := Lib.hid ((below2 w (.cells #[.int .i64 s, .int .i64 p, .slice a n cap] 28) (.cells #[.int .i64 0, .int .i64 0, .slice none 0 0] 28)).alloc (by simp; omega) (.cells #[.int .i64 0, .int .i64 0, .slice none 0 0] 28))
 cases hB : normB s p rs with
 | true =>
  obtain ⟨m, rfl, m1, m8, hnl, hp, hlen⟩ := norm_nl HR.out.rows hB
  have HN := Lib.hid hnl; clear hnl
  rw [HL.out] at hlen
  obtain ⟨p1, p2⟩ := hp
  go_enter Try.func33, Try.ntmps33
  go_wp2_with fail
  refine (l03Is_any m p a n cap rs _ (HR.out.below B.out) HY.out hn).mono ?_
  rw [hB]
  rintro e w1 ⟨rfl, hb⟩
  have hz1 : w.heap.size + 1 + 1 + 1 ≤ w1.heap.size := by have := hb.size; simp at this; omega
  replace A := Lib.hid (A.out.below hb)
  replace Z1 := Lib.hid (Z1.out.below hb)
  replace Z2 := Lib.hid (Z2.out.below hb)
  replace B := Lib.hid (below_go B.out hb B.out.size)
  clear hb
  obtain ⟨q1, q2, q3⟩ := A.out.all
  by_cases hpn : 0 < -p
  ·go_wp2
   have LB0 := Lib.hid (At3.place w1 (.int .i64 m) (.int .i64 (-p)) (.slice none 0 0) 28 w1.heap.size rfl)
   obtain ⟨W0, hW0⟩ : ∃ W0, W0 = w1.alloc (.cells #[.int .i64 m, .int .i64 (-p), .slice none 0 0] 28) := ⟨_, rfl⟩
   have hz2 : W0.heap.size = w1.heap.size + 1 := by rw [hW0]; simp
   have LB : Hid (At3 W0 w1.heap.size (.int .i64 m) (.int .i64 (-p)) (.slice none 0 0)) := Lib.hid (by rw [hW0]; exact LB0.out)
   replace A : Hid (At3 W0 w.heap.size (.int .i64 m) (.int .i64 p) (.slice a n cap)) := Lib.hid (by rw [hW0]; exact A.out.alloc _)
   replace Z1 : Hid (At3 W0 (w.heap.size + 1) (.int .i64 0) (.int .i64 0) (.slice none 0 0)) := Lib.hid (by rw [hW0]; exact Z1.out.alloc _)
   replace Z2 : Hid (At3 W0 (w.heap.size + 1 + 1) (.int .i64 0) (.int .i64 0) (.slice none 0 0)) := Lib.hid (by rw [hW0]; exact Z2.out.alloc _)
   replace B : Hid (Below w.heap.size w W0) := Lib.hid (by rw [hW0]; exact B.out.alloc B.out.size _)
   rw [← hW0]
   clear hW0 LB0
   have Rd := Lib.hid (HR.out.below B.out)
   have HZ2 := Lib.hid hz2
   clear hz2 q1 q2 q3
   go_cut [6] from 22 to 31 (fun x6 wx => ∃ g b k, x6 = .pointer (some ⟨g, 0, none⟩) ∧ W0.heap.size ≤ g ∧ At3 wx g (.int .i64 m) (.int .i64 0) (.slice b n k) ∧ OwnS W0.heap.size wx b n rs ∧ Below W0.heap.size W0 wx)
   case first =>
    have KB : Hid (Below W0.heap.size W0 W0.drew) := Lib.hid (Below.refl W0.heap.size W0).drew
    have SH : Hid (∀ X, Below W0.heap.size W0 X → X.cell? ⟨w.heap.size, 0, none⟩ = some (.int .i64 m) ∧ X.cell? ⟨w.heap.size, 1, none⟩ = some (.int .i64 p) ∧ X.cell? ⟨w.heap.size, 2, none⟩ = some (.slice a n cap)) := Lib.hid fun X h => (A.out.below h).cells
    refine wp_region_held_drew (S := (fun w' => w'.cell? ⟨w.heap.size, 0, none⟩ = some (.int .i64 m) ∧ w'.cell? ⟨w.heap.size, 1, none⟩ = some (.int .i64 p) ∧ w'.cell? ⟨w.heap.size, 2, none⟩ = some (.slice a n cap))) (by kernel_rfl) ?_ (fun hHeld => ?_)
    ·with_reducible exact SH.out _ KB.out
    refine wpAnyH_take (i := 0) (oi := { dst := some 22, op := Op.fieldAddr 28 (Operand.tmp 1) 0, type := 0, pos := "l03_normal.go:336", after := #[], guard := none }) (v := ?_) rfl (by kernel_rfl) (by kernel_rfl) (by kernel_rfl) (fun _ _ _ h => h) (Or.inl ⟨by rfl, ?_⟩) (by assumption) ?_
    rotate_left
    ·intro w hSw
     (try dsimp only at hSw)
     go_simp
     try with_reducible rfl
    try simp only [Act.put, List.setIfInBounds_toArray, List.set_cons_zero, List.set_cons_succ]
    refine wpAnyH_take (i := 1) (oi := { dst := some 23, op := Op.load 2 (Operand.tmp 22), type := 2, pos := "l03_normal.go:336", after := #[{ on := 0, ground := Ground.data }], guard := none }) (v := ?_) rfl (by kernel_rfl) (by kernel_rfl) (by kernel_rfl) (fun _ _ _ h => h) (Or.inl ⟨by rfl, ?_⟩) (by assumption) ?_
    rotate_left
    ·intro w hSw
     (try dsimp only at hSw)
     go_simp
     try with_reducible rfl
    try simp only [Act.put, List.setIfInBounds_toArray, List.set_cons_zero, List.set_cons_succ]
    refine wpAnyH_take (i := 2) (oi := { dst := some 24, op := Op.fieldAddr 28 (Operand.tmp 1) 1, type := 0, pos := "l03_normal.go:336", after := #[], guard := none }) (v := ?_) rfl (by kernel_rfl) (by kernel_rfl) (by kernel_rfl) (fun _ _ _ h => h) (Or.inl ⟨by rfl, ?_⟩) (by assumption) ?_
    rotate_left
    ·intro w hSw
     (try dsimp only at hSw)
     go_simp
     try with_reducible rfl
    try simp only [Act.put, List.setIfInBounds_toArray, List.set_cons_zero, List.set_cons_succ]
    refine wpAnyH_take (i := 3) (oi := { dst := some 25, op := Op.load 2 (Operand.tmp 24), type := 2, pos := "l03_normal.go:336", after := #[{ on := 2, ground := Ground.data }], guard := none }) (v := ?_) rfl (by kernel_rfl) (by kernel_rfl) (by kernel_rfl) (fun _ _ _ h => h) (Or.inl ⟨by rfl, ?_⟩) (by assumption) ?_
    rotate_left
    ·intro w hSw
     (try dsimp only at hSw)
     go_simp
     try with_reducible rfl
    try simp only [Act.put, List.setIfInBounds_toArray, List.set_cons_zero, List.set_cons_succ]
    refine wpAnyH_take (i := 4) (oi := { dst := some 26, op := Op.call { callee := Callee.builtin Builtin.max, args := #[Operand.const (Value.int IntKind.i64 0), Operand.tmp 25], argTypes := #[2, 2] }, type := 2, pos := "l03_normal.go:336", after := #[{ on := 3, ground := Ground.data }], guard := none }) (v := ?_) rfl (by kernel_rfl) (by kernel_rfl) (by kernel_rfl) (fun _ _ _ h => h) (Or.inl ⟨by rfl, ?_⟩) (by assumption) ?_
    rotate_left
    ·intro w hSw
     (try dsimp only at hSw)
     go_simp
     try with_reducible rfl
    try simp only [Act.put, List.setIfInBounds_toArray, List.set_cons_zero, List.set_cons_succ]
    refine wpAnyH_take (i := 6) (oi := { dst := some 28, op := Op.fieldAddr 28 (Operand.tmp 1) 2, type := 0, pos := "l03_normal.go:336", after := #[], guard := none }) (v := ?_) rfl (by kernel_rfl) (by kernel_rfl) (by kernel_rfl) (fun _ _ _ h => h) (Or.inl ⟨by rfl, ?_⟩) (by assumption) ?_
    rotate_left
    ·intro w hSw
     (try dsimp only at hSw)
     go_simp
     try with_reducible rfl
    try simp only [Act.put, List.setIfInBounds_toArray, List.set_cons_zero, List.set_cons_succ]
    refine wpAnyH_take (i := 7) (oi := { dst := some 29, op := Op.load 26 (Operand.tmp 28), type := 26, pos := "l03_normal.go:336", after := #[{ on := 6, ground := Ground.data }], guard := none }) (v := ?_) rfl (by kernel_rfl) (by kernel_rfl) (by kernel_rfl) (fun _ _ _ h => h) (Or.inl ⟨by rfl, ?_⟩) (by assumption) ?_
    rotate_left
    ·intro w hSw
     (try dsimp only at hSw)
     go_simp
     try with_reducible rfl
    try simp only [Act.put, List.setIfInBounds_toArray, List.set_cons_zero, List.set_cons_succ]
    refine wpAnyH_ready (rs := [5, 10]) (by kernel_rfl) (by simp) ?_
    refine AllReadyH.cons (o := { dst := some 27, op := Op.buildSlice 26 0 #[], type := 26, pos := "l03_normal.go:336", after := #[], guard := none }) rfl (fun K hK => ?_) ?_
    ·go_simp
     have O : Hid (OwnAV W0.heap.size (W0.alloc (.cells #[] 78)).drew (.slice (some ⟨W0.heap.size, 0, none⟩) 0 0) 0 []) := Lib.hid (own_at W0 (by simp) (by simp))
     replace KB : Hid (Below W0.heap.size W0 (W0.alloc (.cells #[] 78)).drew) := Lib.hid (KB.out.alloc KB.out.size (.cells #[] 78))
     refine hK.out _ _ ?_ (fun hHeld => ?_)
     ·with_reducible exact SH.out _ KB.out
     clear hK K
     try simp only [Act.put, List.setIfInBounds_toArray, List.set_cons_zero, List.set_cons_succ]
     refine wpAnyH_ready (rs := [8, 10]) (by kernel_rfl) (by simp) ?_
     refine AllReadyH.cons (o := { dst := some 30, op := Op.call { callee := Callee.builtin Builtin.append, args := #[Operand.tmp 27, Operand.tmp 29], argTypes := #[26, 26] }, type := 26, pos := "l03_normal.go:336", after := #[{ on := 5, ground := Ground.data }, { on := 7, ground := Ground.data }], guard := none }) rfl (fun K hK => ?_) ?_
     ·refine step_append_rows_at rfl _ _ 26 rfl W0.heap.size i0 Try.underlying26 hi hi0 hi1 hi2 _ _ _ rfl O.out _ _ _ rs rfl (Rd.out.below KB.out) (by omega) KB.out.size ?_
      intro v' w5 ho' hg hv
      replace KB := Lib.hid (below_ownA KB.out KB.out.size (Nat.le_refl _) O.out hg)
      obtain ⟨a5, c5, rfl, ho5⟩ := ho'.form
      rw [List.nil_append, Nat.zero_add] at ho5
      have P := Lib.hid ho5
      clear ho' hg hv ho5 O
      refine hK.out _ _ ?_ (fun hHeld => ?_)
      ·with_reducible exact SH.out _ KB.out
      clear hK K
      try simp only [Act.put, List.setIfInBounds_toArray, List.set_cons_zero, List.set_cons_succ]
      refine wpAnyH_take (i := 9) (oi := { dst := some 31, op := Op.build 28 #[(0, Operand.tmp 23), (1, Operand.tmp 26), (2, Operand.tmp 30)], type := 28, pos := "l03_normal.go:336", after := #[{ on := 1, ground := Ground.data }, { on := 4, ground := Ground.data }, { on := 8, ground := Ground.data }], guard := none }) (v := ?_) rfl (by kernel_rfl) (by kernel_rfl) (by kernel_rfl) (fun _ _ _ h => h) (Or.inl ⟨by rfl, ?_⟩) (by assumption) ?_
      rotate_left
      ·intro w hSw
       (try dsimp only at hSw)
       go_simp
       try with_reducible rfl
      try simp only [Act.put, List.setIfInBounds_toArray, List.set_cons_zero, List.set_cons_succ]
      refine wpAnyH_ready (rs := [10]) (by kernel_rfl) (by simp) ?_
      refine AllReadyH.cons (o := { dst := some 6, op := Op.alloc 28, type := 0, pos := "l03_normal.go:336", after := #[], guard := none }) rfl (fun K hK => ?_) ?_
      ·go_simp
       have PAP := Lib.hid (P.out.toS.apartHi (g := w5.heap.size) (Nat.le_refl _))
       replace P : Hid (OwnA W0.heap.size (w5.alloc (.cells #[.int .i64 0, .int .i64 0, .slice none 0 0] 28)) a5 n c5 rs) := Lib.hid (P.out.alloc (.cells #[.int .i64 0, .int .i64 0, .slice none 0 0] 28))
       have Z : Hid (At3 (w5.alloc (.cells #[.int .i64 0, .int .i64 0, .slice none 0 0] 28)) (w5.heap.size) (.int .i64 0) (.int .i64 0) (.slice none 0 0)) := Lib.hid ((At3.place w5 (.int .i64 0) (.int .i64 0) (.slice none 0 0) 28 (w5.heap.size) (by simp)))
       have zG : Hid (W0.heap.size ≤ w5.heap.size) := Lib.hid (by first | exact Nat.le_refl _ | exact KB.out.size | omega)
       replace KB : Hid (Below W0.heap.size W0 (w5.alloc (.cells #[.int .i64 0, .int .i64 0, .slice none 0 0] 28))) := Lib.hid (KB.out.alloc KB.out.size (.cells #[.int .i64 0, .int .i64 0, .slice none 0 0] 28))
       obtain ⟨V8, hV8⟩ : ∃ V, V = (w5.alloc (.cells #[.int .i64 0, .int .i64 0, .slice none 0 0] 28)) := ⟨_, rfl⟩
       rw [← hV8] at KB P Z ⊢
       clear hV8
       refine hK.out _ _ ?_ (fun hHeld => ?_)
       ·with_reducible exact SH.out _ KB.out
       clear hK K
       try simp only [Act.put, List.setIfInBounds_toArray, List.set_cons_zero, List.set_cons_succ]
       refine wpAnyH_ready (rs := [11]) (by kernel_rfl) (by simp) ?_
       refine AllReadyH.cons (o := { dst := none, op := Op.store 28 (Operand.tmp 6) (Operand.tmp 31), type := 0, pos := "l03_normal.go:336", after := #[{ on := 10, ground := Ground.data }, { on := 9, ground := Ground.data }, { on := 8, ground := Ground.chain }, { on := 0, ground := Ground.phase }, { on := 1, ground := Ground.phase }, { on := 2, ground := Ground.phase }, { on := 3, ground := Ground.phase }, { on := 4, ground := Ground.phase }, { on := 5, ground := Ground.phase }, { on := 6, ground := Ground.phase }, { on := 7, ground := Ground.phase }, { on := 8, ground := Ground.phase }, { on := 9, ground := Ground.phase }, { on := 10, ground := Ground.phase }], guard := none }) rfl (fun K hK => ?_) ?_
       ·obtain ⟨y0, ⟨y1, y2, y3⟩, y4, y5, y6⟩ := Z.out
        skip
        go_simp
        clear y0 y1 y2 y3 y4 y5 y6
        replace Z := Lib.hid (Z.out.fill (.int .i64 m) (.int .i64 (if 0 < p then p else 0)) (.slice a5 n c5))
        have PS := Lib.hid (P.out.toS.past3 PAP.out (.int .i64 m) (.int .i64 (if 0 < p then p else 0)) (.slice a5 n c5))
        replace KB := Lib.hid (below_set3 KB.out zG.out (.int .i64 m) (.int .i64 (if 0 < p then p else 0)) (.slice a5 n c5))
        obtain ⟨V9, hV9⟩ : ∃ V, V = (((V8.setCell ⟨w5.heap.size, 0, none⟩ (.int .i64 m)).setCell ⟨w5.heap.size, 1, none⟩ (.int .i64 (if 0 < p then p else 0))).setCell ⟨w5.heap.size, 2, none⟩ (.slice a5 n c5)) := ⟨_, rfl⟩
        rw [← hV9] at Z PS KB ⊢
        clear hV9 P
        refine hK.out _ _ ?_ (fun hHeld => ?_)
        ·with_reducible exact SH.out _ KB.out
        clear hK K
        try simp only [Act.put, List.setIfInBounds_toArray, List.set_cons_zero, List.set_cons_succ]
        refine wpAnyH_done (by kernel_rfl) ?_ _
        go_wp2_with fail
        go_meet
        exact ⟨_, _, _, rfl, zG.out, (by have h := Z.out; rw [if_neg (show ¬ 0 < p by omega)] at h; exact h), PS.out, KB.out⟩
       exact AllReadyH.nil
      exact AllReadyH.nil
     refine AllReadyH.cons (o := { dst := some 6, op := Op.alloc 28, type := 0, pos := "l03_normal.go:336", after := #[], guard := none }) rfl (fun K hK => ?_) ?_
     ·go_simp
      replace O : Hid (OwnAV W0.heap.size ((W0.alloc (.cells #[] 78)).alloc (.cells #[.int .i64 0, .int .i64 0, .slice none 0 0] 28)).drew (.slice (some ⟨W0.heap.size, 0, none⟩) 0 0) 0 []) := Lib.hid (O.out.alloc (.cells #[.int .i64 0, .int .i64 0, .slice none 0 0] 28))
      have Z : Hid (At3 ((W0.alloc (.cells #[] 78)).alloc (.cells #[.int .i64 0, .int .i64 0, .slice none 0 0] 28)).drew (W0.heap.size + 1) (.int .i64 0) (.int .i64 0) (.slice none 0 0)) := Lib.hid ((At3.place (W0.alloc (.cells #[] 78)) (.int .i64 0) (.int .i64 0) (.slice none 0 0) 28 (W0.heap.size + 1) (by simp)).drew)
      have zG : Hid (W0.heap.size ≤ W0.heap.size + 1) := Lib.hid (by first | exact Nat.le_refl _ | exact KB.out.size | omega)
      replace KB : Hid (Below W0.heap.size W0 ((W0.alloc (.cells #[] 78)).alloc (.cells #[.int .i64 0, .int .i64 0, .slice none 0 0] 28)).drew) := Lib.hid (KB.out.alloc KB.out.size (.cells #[.int .i64 0, .int .i64 0, .slice none 0 0] 28))
      refine hK.out _ _ ?_ (fun hHeld => ?_)
      ·with_reducible exact SH.out _ KB.out
      clear hK K
      try simp only [Act.put, List.setIfInBounds_toArray, List.set_cons_zero, List.set_cons_succ]
      refine wpAnyH_ready (rs := [8]) (by kernel_rfl) (by simp) ?_
      refine AllReadyH.cons (o := { dst := some 30, op := Op.call { callee := Callee.builtin Builtin.append, args := #[Operand.tmp 27, Operand.tmp 29], argTypes := #[26, 26] }, type := 26, pos := "l03_normal.go:336", after := #[{ on := 5, ground := Ground.data }, { on := 7, ground := Ground.data }], guard := none }) rfl (fun K hK => ?_) ?_
      ·refine step_append_rows_at rfl _ _ 26 rfl W0.heap.size i0 Try.underlying26 hi hi0 hi1 hi2 _ _ _ rfl O.out _ _ _ rs rfl (Rd.out.below KB.out) (by omega) KB.out.size ?_
       intro v' w5 ho' hg hv
       have hg2 : World.grownBy _ w5 (some (W0.heap.size)) := hg
       replace Z := Lib.hid (Z.out.heap hg2.size (hg2.block _ Z.out.1 (fun e => by have e2 := Option.some.inj e; simp at e2)))
       clear hg2
       replace KB := Lib.hid (below_ownA KB.out KB.out.size (Nat.le_refl _) O.out hg)
       obtain ⟨a5, c5, rfl, ho5⟩ := ho'.form
       rw [List.nil_append, Nat.zero_add] at ho5
       have P := Lib.hid ho5
       have PAP : Hid (n = 0 ∨ ∀ x, a5 = some x → x.block ≠ W0.heap.size + 1) := Lib.hid (.inr fun x hx => by have hv2 : (Value.slice a5 (0 + n) c5).ownBlock = some (W0.heap.size) ∨ (Value.slice a5 (0 + n) c5).ownBlock = some (((W0.alloc (.cells #[] 78)).alloc (.cells #[.int .i64 0, .int .i64 0, .slice none 0 0] 28)).drew).heap.size := hv; clear hv hg hHeld; subst hx; rcases hv2 with h | h <;> simp [Value.ownBlock] at h <;> omega)
       clear ho' hg hv ho5 O
       refine hK.out _ _ ?_ (fun hHeld => ?_)
       ·with_reducible exact SH.out _ KB.out
       clear hK K
       try simp only [Act.put, List.setIfInBounds_toArray, List.set_cons_zero, List.set_cons_succ]
       refine wpAnyH_take (i := 9) (oi := { dst := some 31, op := Op.build 28 #[(0, Operand.tmp 23), (1, Operand.tmp 26), (2, Operand.tmp 30)], type := 28, pos := "l03_normal.go:336", after := #[{ on := 1, ground := Ground.data }, { on := 4, ground := Ground.data }, { on := 8, ground := Ground.data }], guard := none }) (v := ?_) rfl (by kernel_rfl) (by kernel_rfl) (by kernel_rfl) (fun _ _ _ h => h) (Or.inl ⟨by rfl, ?_⟩) (by assumption) ?_
       rotate_left
       ·intro w hSw
        (try dsimp only at hSw)
        go_simp
        try with_reducible rfl
       try simp only [Act.put, List.setIfInBounds_toArray, List.set_cons_zero, List.set_cons_succ]
       refine wpAnyH_ready (rs := [11]) (by kernel_rfl) (by simp) ?_
       refine AllReadyH.cons (o := { dst := none, op := Op.store 28 (Operand.tmp 6) (Operand.tmp 31), type := 0, pos := "l03_normal.go:336", after := #[{ on := 10, ground := Ground.data }, { on := 9, ground := Ground.data }, { on := 8, ground := Ground.chain }, { on := 0, ground := Ground.phase }, { on := 1, ground := Ground.phase }, { on := 2, ground := Ground.phase }, { on := 3, ground := Ground.phase }, { on := 4, ground := Ground.phase }, { on := 5, ground := Ground.phase }, { on := 6, ground := Ground.phase }, { on := 7, ground := Ground.phase }, { on := 8, ground := Ground.phase }, { on := 9, ground := Ground.phase }, { on := 10, ground := Ground.phase }], guard := none }) rfl (fun K hK => ?_) ?_
       ·obtain ⟨y0, ⟨y1, y2, y3⟩, y4, y5, y6⟩ := Z.out
        skip
        go_simp
        clear y0 y1 y2 y3 y4 y5 y6
        replace Z := Lib.hid (Z.out.fill (.int .i64 m) (.int .i64 (if 0 < p then p else 0)) (.slice a5 n c5))
        have PS := Lib.hid (P.out.toS.past3 PAP.out (.int .i64 m) (.int .i64 (if 0 < p then p else 0)) (.slice a5 n c5))
        replace KB := Lib.hid (below_set3 KB.out zG.out (.int .i64 m) (.int .i64 (if 0 < p then p else 0)) (.slice a5 n c5))
        obtain ⟨V9, hV9⟩ : ∃ V, V = (((w5.setCell ⟨W0.heap.size + 1, 0, none⟩ (.int .i64 m)).setCell ⟨W0.heap.size + 1, 1, none⟩ (.int .i64 (if 0 < p then p else 0))).setCell ⟨W0.heap.size + 1, 2, none⟩ (.slice a5 n c5)) := ⟨_, rfl⟩
        rw [← hV9] at Z PS KB ⊢
        clear hV9 P
        refine hK.out _ _ ?_ (fun hHeld => ?_)
        ·with_reducible exact SH.out _ KB.out
        clear hK K
        try simp only [Act.put, List.setIfInBounds_toArray, List.set_cons_zero, List.set_cons_succ]
        refine wpAnyH_done (by kernel_rfl) ?_ _
        go_wp2_with fail
        go_meet
        exact ⟨_, _, _, rfl, zG.out, (by have h := Z.out; rw [if_neg (show ¬ 0 < p by omega)] at h; exact h), PS.out, KB.out⟩
       exact AllReadyH.nil
      exact AllReadyH.nil
     exact AllReadyH.nil
    refine AllReadyH.cons (o := { dst := some 6, op := Op.alloc 28, type := 0, pos := "l03_normal.go:336", after := #[], guard := none }) rfl (fun K hK => ?_) ?_
    ·go_simp
     have Z : Hid (At3 (W0.alloc (.cells #[.int .i64 0, .int .i64 0, .slice none 0 0] 28)).drew (W0.heap.size) (.int .i64 0) (.int .i64 0) (.slice none 0 0)) := Lib.hid ((At3.place W0 (.int .i64 0) (.int .i64 0) (.slice none 0 0) 28 (W0.heap.size) (by simp)).drew)
     have zG : Hid (W0.heap.size ≤ W0.heap.size) := Lib.hid (by first | exact Nat.le_refl _ | exact KB.out.size | omega)
     replace KB : Hid (Below W0.heap.size W0 (W0.alloc (.cells #[.int .i64 0, .int .i64 0, .slice none 0 0] 28)).drew) := Lib.hid (KB.out.alloc KB.out.size (.cells #[.int .i64 0, .int .i64 0, .slice none 0 0] 28))
     refine hK.out _ _ ?_ (fun hHeld => ?_)
     ·with_reducible exact SH.out _ KB.out
     clear hK K
     try simp only [Act.put, List.setIfInBounds_toArray, List.set_cons_zero, List.set_cons_succ]
     refine wpAnyH_ready (rs := [5]) (by kernel_rfl) (by simp) ?_
     refine AllReadyH.cons (o := { dst := some 27, op := Op.buildSlice 26 0 #[], type := 26, pos := "l03_normal.go:336", after := #[], guard := none }) rfl (fun K hK => ?_) ?_
     ·go_simp
      replace Z : Hid (At3 ((W0.alloc (.cells #[.int .i64 0, .int .i64 0, .slice none 0 0] 28)).alloc (.cells #[] 78)).drew (W0.heap.size) (.int .i64 0) (.int .i64 0) (.slice none 0 0)) := Lib.hid (Z.out.alloc (.cells #[] 78))
      have O : Hid (OwnAV W0.heap.size ((W0.alloc (.cells #[.int .i64 0, .int .i64 0, .slice none 0 0] 28)).alloc (.cells #[] 78)).drew (.slice (some ⟨W0.heap.size + 1, 0, none⟩) 0 0) 0 []) := Lib.hid (own_at (W0.alloc (.cells #[.int .i64 0, .int .i64 0, .slice none 0 0] 28)) (by simp) (by simp))
      replace KB : Hid (Below W0.heap.size W0 ((W0.alloc (.cells #[.int .i64 0, .int .i64 0, .slice none 0 0] 28)).alloc (.cells #[] 78)).drew) := Lib.hid (KB.out.alloc KB.out.size (.cells #[] 78))
      refine hK.out _ _ ?_ (fun hHeld => ?_)
      ·with_reducible exact SH.out _ KB.out
      clear hK K
      try simp only [Act.put, List.setIfInBounds_toArray, List.set_cons_zero, List.set_cons_succ]
      refine wpAnyH_ready (rs := [8]) (by kernel_rfl) (by simp) ?_
      refine AllReadyH.cons (o := { dst := some 30, op := Op.call { callee := Callee.builtin Builtin.append, args := #[Operand.tmp 27, Operand.tmp 29], argTypes := #[26, 26] }, type := 26, pos := "l03_normal.go:336", after := #[{ on := 5, ground := Ground.data }, { on := 7, ground := Ground.data }], guard := none }) rfl (fun K hK => ?_) ?_
      ·refine step_append_rows_at rfl _ _ 26 rfl W0.heap.size i0 Try.underlying26 hi hi0 hi1 hi2 _ _ _ rfl O.out _ _ _ rs rfl (Rd.out.below KB.out) (by omega) KB.out.size ?_
       intro v' w5 ho' hg hv
       have hg2 : World.grownBy _ w5 (some (W0.heap.size + 1)) := hg
       replace Z := Lib.hid (Z.out.heap hg2.size (hg2.block _ Z.out.1 (fun e => by have e2 := Option.some.inj e; simp at e2)))
       clear hg2
       replace KB := Lib.hid (below_ownA KB.out KB.out.size (Nat.le_refl _) O.out hg)
       obtain ⟨a5, c5, rfl, ho5⟩ := ho'.form
       rw [List.nil_append, Nat.zero_add] at ho5
       have P := Lib.hid ho5
       have PAP : Hid (n = 0 ∨ ∀ x, a5 = some x → x.block ≠ W0.heap.size) := Lib.hid (.inr fun x hx => by have hv2 : (Value.slice a5 (0 + n) c5).ownBlock = some (W0.heap.size + 1) ∨ (Value.slice a5 (0 + n) c5).ownBlock = some (((W0.alloc (.cells #[.int .i64 0, .int .i64 0, .slice none 0 0] 28)).alloc (.cells #[] 78)).drew).heap.size := hv; clear hv hg hHeld; subst hx; rcases hv2 with h | h <;> simp [Value.ownBlock] at h <;> omega)
       clear ho' hg hv ho5 O
       refine hK.out _ _ ?_ (fun hHeld => ?_)
       ·with_reducible exact SH.out _ KB.out
       clear hK K
       try simp only [Act.put, List.setIfInBounds_toArray, List.set_cons_zero, List.set_cons_succ]
       refine wpAnyH_take (i := 9) (oi := { dst := some 31, op := Op.build 28 #[(0, Operand.tmp 23), (1, Operand.tmp 26), (2, Operand.tmp 30)], type := 28, pos := "l03_normal.go:336", after := #[{ on := 1, ground := Ground.data }, { on := 4, ground := Ground.data }, { on := 8, ground := Ground.data }], guard := none }) (v := ?_) rfl (by kernel_rfl) (by kernel_rfl) (by kernel_rfl) (fun _ _ _ h => h) (Or.inl ⟨by rfl, ?_⟩) (by assumption) ?_
       rotate_left
       ·intro w hSw
        (try dsimp only at hSw)
        go_simp
        try with_reducible rfl
       try simp only [Act.put, List.setIfInBounds_toArray, List.set_cons_zero, List.set_cons_succ]
       refine wpAnyH_ready (rs := [11]) (by kernel_rfl) (by simp) ?_
       refine AllReadyH.cons (o := { dst := none, op := Op.store 28 (Operand.tmp 6) (Operand.tmp 31), type := 0, pos := "l03_normal.go:336", after := #[{ on := 10, ground := Ground.data }, { on := 9, ground := Ground.data }, { on := 8, ground := Ground.chain }, { on := 0, ground := Ground.phase }, { on := 1, ground := Ground.phase }, { on := 2, ground := Ground.phase }, { on := 3, ground := Ground.phase }, { on := 4, ground := Ground.phase }, { on := 5, ground := Ground.phase }, { on := 6, ground := Ground.phase }, { on := 7, ground := Ground.phase }, { on := 8, ground := Ground.phase }, { on := 9, ground := Ground.phase }, { on := 10, ground := Ground.phase }], guard := none }) rfl (fun K hK => ?_) ?_
       ·obtain ⟨y0, ⟨y1, y2, y3⟩, y4, y5, y6⟩ := Z.out
        skip
        go_simp
        clear y0 y1 y2 y3 y4 y5 y6
        replace Z := Lib.hid (Z.out.fill (.int .i64 m) (.int .i64 (if 0 < p then p else 0)) (.slice a5 n c5))
        have PS := Lib.hid (P.out.toS.past3 PAP.out (.int .i64 m) (.int .i64 (if 0 < p then p else 0)) (.slice a5 n c5))
        replace KB := Lib.hid (below_set3 KB.out zG.out (.int .i64 m) (.int .i64 (if 0 < p then p else 0)) (.slice a5 n c5))
        obtain ⟨V9, hV9⟩ : ∃ V, V = (((w5.setCell ⟨W0.heap.size, 0, none⟩ (.int .i64 m)).setCell ⟨W0.heap.size, 1, none⟩ (.int .i64 (if 0 < p then p else 0))).setCell ⟨W0.heap.size, 2, none⟩ (.slice a5 n c5)) := ⟨_, rfl⟩
        rw [← hV9] at Z PS KB ⊢
        clear hV9 P
        refine hK.out _ _ ?_ (fun hHeld => ?_)
        ·with_reducible exact SH.out _ KB.out
        clear hK K
        try simp only [Act.put, List.setIfInBounds_toArray, List.set_cons_zero, List.set_cons_succ]
        refine wpAnyH_done (by kernel_rfl) ?_ _
        go_wp2_with fail
        go_meet
        exact ⟨_, _, _, rfl, zG.out, (by have h := Z.out; rw [if_neg (show ¬ 0 < p by omega)] at h; exact h), PS.out, KB.out⟩
       exact AllReadyH.nil
      exact AllReadyH.nil
     exact AllReadyH.nil
    exact AllReadyH.nil
   case rest =>
    obtain ⟨v1, hwc⟩ : ∃ x, x = wc := ⟨_, rfl⟩; subst hwc
    obtain ⟨g, b, k, rfl, hg, hG, hO, hb⟩ := hcut
    have GB := Lib.hid hG
    have OB := Lib.hid hO
    replace LB := Lib.hid (LB.out.below hb)
    replace Z1 := Lib.hid (Z1.out.below hb)
    replace Z2 := Lib.hid (Z2.out.below hb)
    have z2 := HZ2.out
    have hv1 : W0.heap.size ≤ v1.heap.size := hb.size
    replace B := Lib.hid (below_go B.out hb B.out.size)
    have HGG := Lib.hid hg
    clear hG hO hb hg
    have hk9 : (negK p : Int) = -p := by unfold negK; omega
    have hm9 : max p 0 = 0 := by omega
    have HK9 := Lib.hid hk9
    have HM9 := Lib.hid hm9
    clear hk9 hm9
    obtain ⟨l0, ⟨l1, l2, l3⟩, l4, l5, l6⟩ := LB.out
    obtain ⟨g0, ⟨g1, g2, g3⟩, g4, g5, g6⟩ := GB.out
    have HT1 : Hid ((traF m p rs 0).2.1 = (-p, [])) := Lib.hid (by show ((negK p : Int) - ((0 : Nat) : Int), fracA m (negK p) rs 0) = _; rw [HK9.out]; simp [fracA, invL, turns])
    have HT2 : Hid ((traF m p rs 0).2.2 = (0, rs)) := Lib.hid (by show (max p 0, rs.drop 0) = _; rw [HM9.out, List.drop_zero])
    have HTR := Lib.hid (traF_ok m1 m8 HN.out ⟨p1, p2⟩ (by rw [HL.out]; exact hlen))
    obtain ⟨tr, htr⟩ : ∃ tr, tr = traF m p rs := ⟨_, rfl⟩
    rw [← htr] at HT1 HT2 HTR
    have HTT := Lib.hid htr
    obtain ⟨N, hN⟩ : ∃ N, N = endF p rs := ⟨_, rfl⟩
    rw [← hN] at HTR
    have HNN := Lib.hid hN
    clear htr hN
    go_wp2_with fail
    refine (l03Common_any m m1 m8 tr N HTR.out (-p) 0 none b 0 n 0 k [] rs _ ReadsA.zero OB.out.reads HT1.out HT2.out).mono ?_
    rintro e v2 ⟨b1, n1, k1, b2, n2, k2, b3, n3, k3, rfl, ho, hpa, hpb, hb⟩
    clear l0 l1 l2 l3 l4 l5 l6 g0 g1 g2 g3 g4 g5 g6
    have QA := Lib.hid hpa
    have QB := Lib.hid hpb
    replace OB := Lib.hid (OB.out.below hb)
    replace Z1 := Lib.hid (Z1.out.below hb)
    replace Z2 := Lib.hid (Z2.out.below hb)
    have hv2 := hb.size
    replace B := Lib.hid (below_go B.out hb B.out.size)
    clear hb hpa hpb ho LB GB
    have SA : Hid (OwnS v1.heap.size v2 b2 n2 (tr N).2.1.2) := Lib.hid (by
     rcases QA.out.own with h | ⟨h1, h2⟩
     ·exact h
     ·have hl := QA.out.rd.len
      rw [h2] at hl
      have := List.eq_nil_of_length_eq_zero hl
      rw [this, h2, h1]
      exact OwnS.nil _ _ _)
    have SB : Hid (OwnS W0.heap.size v2 b3 n3 (tr N).2.2.2) := Lib.hid (by
     rcases QB.out.own with h | ⟨h1, h2⟩
     ·exact h.mono hv1
     ·subst h1
      subst h2
      exact OB.out.same QB.out.rd)
    clear QA QB OB
    have hnA := SA.out.len
    have hnB := SB.out.len
    have HTR9 := Lib.hid (⟨(HTR.out.bd N (Nat.le_refl _)).2.1.1, (HTR.out.bd N (Nat.le_refl _)).2.2.1⟩ : _ ∧ _)
    clear HT1 HT2 HTR HK9 HM9
    have G7 := Lib.hid (((At3.place v2 (.int .i64 0) (.int .i64 0) (.slice none 0 0) 28 v2.heap.size rfl).alloc (.cells #[.int .i64 0, .int .i64 0, .slice none 0 0] 28)).alloc (.cells #[.int .i64 0, .int .i64 0, .slice none 0 0] 28))
    have G8 := Lib.hid ((At3.place (v2.alloc (.cells #[.int .i64 0, .int .i64 0, .slice none 0 0] 28)) (.int .i64 0) (.int .i64 0) (.slice none 0 0) 28 (v2.heap.size + 1) (by simp)).alloc (.cells #[.int .i64 0, .int .i64 0, .slice none 0 0] 28))
    have G9 := Lib.hid (At3.place ((v2.alloc (.cells #[.int .i64 0, .int .i64 0, .slice none 0 0] 28)).alloc (.cells #[.int .i64 0, .int .i64 0, .slice none 0 0] 28)) (.int .i64 0) (.int .i64 0) (.slice none 0 0) 28 (v2.heap.size + 1 + 1) (by simp))
    obtain ⟨x0, ⟨x1', x2', x3⟩, y1, y2, y3⟩ := G7.out
    obtain ⟨u0, ⟨u1, u2, u3⟩, t1, t2, t3⟩ := G8.out
    obtain ⟨s0, ⟨s1, s2, s3⟩, r1, r2, r3⟩ := G9.out
    go_upto_region 6 with fail
    clear x0 x1' x2' x3 y1 y2 y3 u0 u1 u2 u3 t1 t2 t3 s0 s1 s2 s3 r1 r2 r3 G7 G8 G9
    have G8 := Lib.hid ((At3.place (v2.alloc (.cells #[.int .i64 m, .int .i64 ((tr N).1.1), .slice b1 n1 k1] 28)) (.int .i64 m) (.int .i64 (tr N).2.1.1) (.slice b2 n2 k2) 28 (v2.heap.size + 1) (by simp)).alloc (.cells #[.int .i64 m, .int .i64 ((tr N).2.2.1), .slice b3 n3 k3] 28))
    have G9 := Lib.hid (At3.place ((v2.alloc (.cells #[.int .i64 m, .int .i64 ((tr N).1.1), .slice b1 n1 k1] 28)).alloc (.cells #[.int .i64 m, .int .i64 ((tr N).2.1.1), .slice b2 n2 k2] 28)) (.int .i64 m) (.int .i64 (tr N).2.2.1) (.slice b3 n3 k3) 28 (v2.heap.size + 1 + 1) (by simp))
    replace Z1 := Lib.hid (((Z1.out.alloc (.cells #[.int .i64 m, .int .i64 ((tr N).1.1), .slice b1 n1 k1] 28)).alloc (.cells #[.int .i64 m, .int .i64 ((tr N).2.1.1), .slice b2 n2 k2] 28)).alloc (.cells #[.int .i64 m, .int .i64 ((tr N).2.2.1), .slice b3 n3 k3] 28))
    replace Z2 := Lib.hid (((Z2.out.alloc (.cells #[.int .i64 m, .int .i64 ((tr N).1.1), .slice b1 n1 k1] 28)).alloc (.cells #[.int .i64 m, .int .i64 ((tr N).2.1.1), .slice b2 n2 k2] 28)).alloc (.cells #[.int .i64 m, .int .i64 ((tr N).2.2.1), .slice b3 n3 k3] 28))
    replace SA := Lib.hid (((SA.out.alloc (.cells #[.int .i64 m, .int .i64 ((tr N).1.1), .slice b1 n1 k1] 28)).alloc (.cells #[.int .i64 m, .int .i64 ((tr N).2.1.1), .slice b2 n2 k2] 28)).alloc (.cells #[.int .i64 m, .int .i64 ((tr N).2.2.1), .slice b3 n3 k3] 28))
    replace SB := Lib.hid (((SB.out.alloc (.cells #[.int .i64 m, .int .i64 ((tr N).1.1), .slice b1 n1 k1] 28)).alloc (.cells #[.int .i64 m, .int .i64 ((tr N).2.1.1), .slice b2 n2 k2] 28)).alloc (.cells #[.int .i64 m, .int .i64 ((tr N).2.2.1), .slice b3 n3 k3] 28))
    replace B := Lib.hid (((B.out.alloc B.out.size (.cells #[.int .i64 m, .int .i64 ((tr N).1.1), .slice b1 n1 k1] 28)).alloc (by have := B.out.size; simp; omega) (.cells #[.int .i64 m, .int .i64 ((tr N).2.1.1), .slice b2 n2 k2] 28)).alloc (by have := B.out.size; simp; omega) (.cells #[.int .i64 m, .int .i64 ((tr N).2.2.1), .slice b3 n3 k3] 28))
    obtain ⟨U6, hU6⟩ : ∃ U, U = (((v2.alloc (.cells #[.int .i64 m, .int .i64 ((tr N).1.1), .slice b1 n1 k1] 28)).alloc (.cells #[.int .i64 m, .int .i64 ((tr N).2.1.1), .slice b2 n2 k2] 28)).alloc (.cells #[.int .i64 m, .int .i64 ((tr N).2.2.1), .slice b3 n3 k3] 28)) := ⟨_, rfl⟩
    rw [← hU6] at G8 G9 Z1 Z2 SA SB B ⊢
    have hzU : v2.heap.size + 1 + 1 + 1 = U6.heap.size := by rw [hU6]; simp
    clear hU6
    have hnA2 : n2 ≤ 1048576 := by have h1 := SA.out.len; have h2 := (HTR9.out).1; omega
    have hnB2 : n3 ≤ 1048576 := by have h1 := SB.out.len; have h2 := (HTR9.out).2; omega
    clear hnA hnB
    have hnA := hnA2
    have hnB := hnB2
    clear hnA2 hnB2
    have hszW : w.heap.size + 1 + 1 + 1 ≤ v1.heap.size := by omega
    have hszV : v1.heap.size ≤ v2.heap.size := by omega
    replace G8 := Lib.hid (G8.out.drew)
    replace G9 := Lib.hid (G9.out.drew)
    replace Z1 := Lib.hid (Z1.out.drew)
    replace Z2 := Lib.hid (Z2.out.drew)
    replace SA := Lib.hid (SA.out.below (Below.refl U6.heap.size U6).drew)
    replace SB := Lib.hid (SB.out.below (Below.refl U6.heap.size U6).drew)
    replace B := Lib.hid (B.out.drew)
    refine wp_region_held_drew (S := (fun w' => (w'.cell? ⟨v2.heap.size + 1, 0, none⟩ = some (.int .i64 m) ∧ w'.cell? ⟨v2.heap.size + 1, 1, none⟩ = some (.int .i64 ((tr N).2.1.1)) ∧ w'.cell? ⟨v2.heap.size + 1, 2, none⟩ = some (.slice b2 n2 k2)) ∧ (w'.cell? ⟨v2.heap.size + 1 + 1, 0, none⟩ = some (.int .i64 m) ∧ w'.cell? ⟨v2.heap.size + 1 + 1, 1, none⟩ = some (.int .i64 ((tr N).2.2.1)) ∧ w'.cell? ⟨v2.heap.size + 1 + 1, 2, none⟩ = some (.slice b3 n3 k3)))) (by kernel_rfl) ?_ (fun hHeld => ?_)
    ·with_reducible exact ⟨G8.out.cells, G9.out.cells⟩
    obtain ⟨U7, hU7⟩ : ∃ U, U = U6.drew := ⟨_, rfl⟩
    rw [← hU7] at G8 G9 Z1 Z2 SA SB B ⊢
    clear hU7 hHeld
    have hHeld : (U7.cell? ⟨v2.heap.size + 1, 0, none⟩ = some (.int .i64 m) ∧ U7.cell? ⟨v2.heap.size + 1, 1, none⟩ = some (.int .i64 ((tr N).2.1.1)) ∧ U7.cell? ⟨v2.heap.size + 1, 2, none⟩ = some (.slice b2 n2 k2)) ∧ (U7.cell? ⟨v2.heap.size + 1 + 1, 0, none⟩ = some (.int .i64 m) ∧ U7.cell? ⟨v2.heap.size + 1 + 1, 1, none⟩ = some (.int .i64 ((tr N).2.2.1)) ∧ U7.cell? ⟨v2.heap.size + 1 + 1, 2, none⟩ = some (.slice b3 n3 k3)) := ⟨G8.out.cells, G9.out.cells⟩
    refine wpAnyH_take (i := 0) (oi := { dst := some 39, op := Op.load 28 (Operand.tmp 8), type := 28, pos := "l03_normal.go:338", after := #[], guard := none }) (v := ?_) rfl (by kernel_rfl) (by kernel_rfl) (by kernel_rfl) (fun _ _ _ h => h) (Or.inl ⟨by rfl, ?_⟩) (by assumption) ?_
    rotate_left
    ·intro w hSw
     (try dsimp only at hSw)
     go_simp
     try with_reducible rfl
    try simp only [Act.put, List.setIfInBounds_toArray, List.set_cons_zero, List.set_cons_succ]
    refine wpAnyH_take (i := 1) (oi := { dst := some 40, op := Op.load 28 (Operand.tmp 9), type := 28, pos := "l03_normal.go:338", after := #[{ on := 2, ground := Ground.gcOnly Departure.lateStores }], guard := none }) (v := ?_) rfl (by kernel_rfl) (by kernel_rfl) (by kernel_rfl) (fun _ _ _ h => h) (Or.inl ⟨by rfl, ?_⟩) (by assumption) ?_
    rotate_left
    ·intro w hSw
     (try dsimp only at hSw)
     go_simp
     try with_reducible rfl
    try simp only [Act.put, List.setIfInBounds_toArray, List.set_cons_zero, List.set_cons_succ]
    refine wpAnyH_ready (rs := [2]) (by kernel_rfl) (by simp) ?_
    refine AllReadyH.cons (o := { dst := none, op := Op.store 28 (Operand.tmp 2) (Operand.tmp 39), type := 0, pos := "l03_normal.go:338", after := #[{ on := 0, ground := Ground.data }, { on := 0, ground := Ground.phase }, { on := 1, ground := Ground.textOnly Departure.lateStores }], guard := none }) rfl (fun K hK => ?_) ?_
    ·obtain ⟨z0, ⟨z1, z2, z3⟩, z4, z5, z6⟩ := Z1.out
     go_simp
     clear z0 z1 z2 z3 z4 z5 z6
     replace G8 := Lib.hid (G8.out.set3 (g2 := w.heap.size + 1) (by omega) (.int .i64 m) (.int .i64 (tr N).2.1.1) (.slice b2 n2 k2))
     replace G9 := Lib.hid (G9.out.set3 (g2 := w.heap.size + 1) (by omega) (.int .i64 m) (.int .i64 (tr N).2.1.1) (.slice b2 n2 k2))
     replace Z1 := Lib.hid (Z1.out.fill (.int .i64 m) (.int .i64 (tr N).2.1.1) (.slice b2 n2 k2))
     replace Z2 := Lib.hid (Z2.out.set3 (g2 := w.heap.size + 1) (by omega) (.int .i64 m) (.int .i64 (tr N).2.1.1) (.slice b2 n2 k2))
     replace SA := Lib.hid (SA.out.set3 (g2 := w.heap.size + 1) (by omega) (.int .i64 m) (.int .i64 (tr N).2.1.1) (.slice b2 n2 k2))
     replace SB := Lib.hid (SB.out.set3 (g2 := w.heap.size + 1) (by omega) (.int .i64 m) (.int .i64 (tr N).2.1.1) (.slice b2 n2 k2))
     replace B := Lib.hid (below_set3 (g2 := w.heap.size + 1) B.out (by omega) (.int .i64 m) (.int .i64 (tr N).2.1.1) (.slice b2 n2 k2))
     obtain ⟨U8, hU8⟩ : ∃ U, U = (((U7.setCell ⟨w.heap.size + 1, 0, none⟩ (.int .i64 m)).setCell ⟨w.heap.size + 1, 1, none⟩ (.int .i64 (tr N).2.1.1)).setCell ⟨w.heap.size + 1, 2, none⟩ (.slice b2 n2 k2)) := ⟨_, rfl⟩
     rw [← hU8] at G8 G9 Z1 Z2 SA SB B ⊢
     clear hU8
     refine hK.out _ _ ?_ (fun hHeld => ?_)
     ·with_reducible exact ⟨G8.out.cells, G9.out.cells⟩
     clear hK K
     try simp only [Act.put, List.setIfInBounds_toArray, List.set_cons_zero, List.set_cons_succ]
     refine wpAnyH_ready (rs := [3]) (by kernel_rfl) (by simp) ?_
     refine AllReadyH.cons (o := { dst := none, op := Op.store 28 (Operand.tmp 3) (Operand.tmp 40), type := 0, pos := "l03_normal.go:338", after := #[{ on := 1, ground := Ground.data }, { on := 2, ground := Ground.chain }, { on := 0, ground := Ground.phase }, { on := 1, ground := Ground.phase }, { on := 2, ground := Ground.phase }], guard := none }) rfl (fun K hK => ?_) ?_
     ·obtain ⟨z0, ⟨z1, z2, z3⟩, z4, z5, z6⟩ := Z2.out
      go_simp
      clear z0 z1 z2 z3 z4 z5 z6
      replace G8 := Lib.hid (G8.out.set3 (g2 := w.heap.size + 1 + 1) (by omega) (.int .i64 m) (.int .i64 (tr N).2.2.1) (.slice b3 n3 k3))
      replace G9 := Lib.hid (G9.out.set3 (g2 := w.heap.size + 1 + 1) (by omega) (.int .i64 m) (.int .i64 (tr N).2.2.1) (.slice b3 n3 k3))
      replace Z1 := Lib.hid (Z1.out.set3 (g2 := w.heap.size + 1 + 1) (by omega) (.int .i64 m) (.int .i64 (tr N).2.2.1) (.slice b3 n3 k3))
      replace Z2 := Lib.hid (Z2.out.fill (.int .i64 m) (.int .i64 (tr N).2.2.1) (.slice b3 n3 k3))
      replace SA := Lib.hid (SA.out.set3 (g2 := w.heap.size + 1 + 1) (by omega) (.int .i64 m) (.int .i64 (tr N).2.2.1) (.slice b3 n3 k3))
      replace SB := Lib.hid (SB.out.set3 (g2 := w.heap.size + 1 + 1) (by omega) (.int .i64 m) (.int .i64 (tr N).2.2.1) (.slice b3 n3 k3))
      replace B := Lib.hid (below_set3 (g2 := w.heap.size + 1 + 1) B.out (by omega) (.int .i64 m) (.int .i64 (tr N).2.2.1) (.slice b3 n3 k3))
      obtain ⟨U9, hU9⟩ : ∃ U, U = (((U8.setCell ⟨w.heap.size + 1 + 1, 0, none⟩ (.int .i64 m)).setCell ⟨w.heap.size + 1 + 1, 1, none⟩ (.int .i64 (tr N).2.2.1)).setCell ⟨w.heap.size + 1 + 1, 2, none⟩ (.slice b3 n3 k3)) := ⟨_, rfl⟩
      rw [← hU9] at G8 G9 Z1 Z2 SA SB B ⊢
      clear hU9
      refine hK.out _ _ ?_ (fun hHeld => ?_)
      ·with_reducible exact ⟨G8.out.cells, G9.out.cells⟩
      clear hK K
      try simp only [Act.put, List.setIfInBounds_toArray, List.set_cons_zero, List.set_cons_succ]
      refine wpAnyH_ready (rs := [4]) (by kernel_rfl) (by simp) ?_
      refine AllReadyH.cons (o := { dst := some 4, op := Op.assign (Operand.const (Value.int IntKind.i64 0)), type := 2, pos := "l03_normal.go:338", after := #[{ on := 3, ground := Ground.chain }, { on := 0, ground := Ground.phase }, { on := 1, ground := Ground.phase }, { on := 2, ground := Ground.phase }, { on := 3, ground := Ground.phase }], guard := none }) rfl (fun K hK => ?_) ?_
      ·go_simp
       refine hK.out _ _ ?_ (fun hHeld => ?_)
       ·with_reducible exact ⟨G8.out.cells, G9.out.cells⟩
       clear hK K
       try simp only [Act.put, List.setIfInBounds_toArray, List.set_cons_zero, List.set_cons_succ]
       refine wpAnyH_done (by kernel_rfl) ?_ _
       go_wp2
       try rw [Exit.noGoto_ret]
       have e1 : mFra (m : Int) p rs = (((m : Int), (tr N).2.1.1, (tr N).2.1.2), ((m : Int), (tr N).2.2.1, (tr N).2.2.2), 0) := by unfold mFra; rw [hB, HTT.out, HNN.out]; simp [traF]
       rw [e1]
       obtain ⟨e1, e2, e3⟩ := Z1.out.cells
       obtain ⟨f1, f2, f3⟩ := Z2.out.cells
       exact bodyPost_ret (v := .tuple #[.agg #[.int .i64 m, .int .i64 (tr N).2.1.1, .slice b2 n2 k2], .agg #[.int .i64 m, .int .i64 (tr N).2.2.1, .slice b3 n3 k3], .int .i64 0]) (by simp [results, Try.results33, go_sem, e1, e2, e3, f1, f2, f3]) rfl ⟨b2, n2, k2, b3, n3, k3, rfl, hnA, hnB, SA.out.mono (by omega), SB.out.mono (by omega), B.out⟩
      exact AllReadyH.nil
     exact AllReadyH.nil
    exact AllReadyH.nil
  ·by_cases hpp : 0 < p
   ·go_wp2
    have LB0 := Lib.hid (At3.place w1 (.int .i64 m) (.int .i64 0) (.slice none 0 0) 28 w1.heap.size rfl)
    obtain ⟨W0, hW0⟩ : ∃ W0, W0 = w1.alloc (.cells #[.int .i64 m, .int .i64 0, .slice none 0 0] 28) := ⟨_, rfl⟩
    have hz2 : W0.heap.size = w1.heap.size + 1 := by rw [hW0]; simp
    have LB : Hid (At3 W0 w1.heap.size (.int .i64 m) (.int .i64 0) (.slice none 0 0)) := Lib.hid (by rw [hW0]; exact LB0.out)
    replace A : Hid (At3 W0 w.heap.size (.int .i64 m) (.int .i64 p) (.slice a n cap)) := Lib.hid (by rw [hW0]; exact A.out.alloc _)
    replace Z1 : Hid (At3 W0 (w.heap.size + 1) (.int .i64 0) (.int .i64 0) (.slice none 0 0)) := Lib.hid (by rw [hW0]; exact Z1.out.alloc _)
    replace Z2 : Hid (At3 W0 (w.heap.size + 1 + 1) (.int .i64 0) (.int .i64 0) (.slice none 0 0)) := Lib.hid (by rw [hW0]; exact Z2.out.alloc _)
    replace B : Hid (Below w.heap.size w W0) := Lib.hid (by rw [hW0]; exact B.out.alloc B.out.size _)
    rw [← hW0]
    clear hW0 LB0
    have Rd := Lib.hid (HR.out.below B.out)
    have HZ2 := Lib.hid hz2
    clear hz2 q1 q2 q3
    go_cut [6] from 22 to 31 (fun x6 wx => ∃ g b k, x6 = .pointer (some ⟨g, 0, none⟩) ∧ W0.heap.size ≤ g ∧ At3 wx g (.int .i64 m) (.int .i64 p) (.slice b n k) ∧ OwnS W0.heap.size wx b n rs ∧ Below W0.heap.size W0 wx)
    case first =>
     have KB : Hid (Below W0.heap.size W0 W0.drew) := Lib.hid (Below.refl W0.heap.size W0).drew
     have SH : Hid (∀ X, Below W0.heap.size W0 X → X.cell? ⟨w.heap.size, 0, none⟩ = some (.int .i64 m) ∧ X.cell? ⟨w.heap.size, 1, none⟩ = some (.int .i64 p) ∧ X.cell? ⟨w.heap.size, 2, none⟩ = some (.slice a n cap)) := Lib.hid fun X h => (A.out.below h).cells
     refine wp_region_held_drew (S := (fun w' => w'.cell? ⟨w.heap.size, 0, none⟩ = some (.int .i64 m) ∧ w'.cell? ⟨w.heap.size, 1, none⟩ = some (.int .i64 p) ∧ w'.cell? ⟨w.heap.size, 2, none⟩ = some (.slice a n cap))) (by kernel_rfl) ?_ (fun hHeld => ?_)
     ·with_reducible exact SH.out _ KB.out
     refine wpAnyH_take (i := 0) (oi := { dst := some 22, op := Op.fieldAddr 28 (Operand.tmp 1) 0, type := 0, pos := "l03_normal.go:336", after := #[], guard := none }) (v := ?_) rfl (by kernel_rfl) (by kernel_rfl) (by kernel_rfl) (fun _ _ _ h => h) (Or.inl ⟨by rfl, ?_⟩) (by assumption) ?_
     rotate_left
     ·intro w hSw
      (try dsimp only at hSw)
      go_simp
      try with_reducible rfl
     try simp only [Act.put, List.setIfInBounds_toArray, List.set_cons_zero, List.set_cons_succ]
     refine wpAnyH_take (i := 1) (oi := { dst := some 23, op := Op.load 2 (Operand.tmp 22), type := 2, pos := "l03_normal.go:336", after := #[{ on := 0, ground := Ground.data }], guard := none }) (v := ?_) rfl (by kernel_rfl) (by kernel_rfl) (by kernel_rfl) (fun _ _ _ h => h) (Or.inl ⟨by rfl, ?_⟩) (by assumption) ?_
     rotate_left
     ·intro w hSw
      (try dsimp only at hSw)
      go_simp
      try with_reducible rfl
     try simp only [Act.put, List.setIfInBounds_toArray, List.set_cons_zero, List.set_cons_succ]
     refine wpAnyH_take (i := 2) (oi := { dst := some 24, op := Op.fieldAddr 28 (Operand.tmp 1) 1, type := 0, pos := "l03_normal.go:336", after := #[], guard := none }) (v := ?_) rfl (by kernel_rfl) (by kernel_rfl) (by kernel_rfl) (fun _ _ _ h => h) (Or.inl ⟨by rfl, ?_⟩) (by assumption) ?_
     rotate_left
     ·intro w hSw
      (try dsimp only at hSw)
      go_simp
      try with_reducible rfl
     try simp only [Act.put, List.setIfInBounds_toArray, List.set_cons_zero, List.set_cons_succ]
     refine wpAnyH_take (i := 3) (oi := { dst := some 25, op := Op.load 2 (Operand.tmp 24), type := 2, pos := "l03_normal.go:336", after := #[{ on := 2, ground := Ground.data }], guard := none }) (v := ?_) rfl (by kernel_rfl) (by kernel_rfl) (by kernel_rfl) (fun _ _ _ h => h) (Or.inl ⟨by rfl, ?_⟩) (by assumption) ?_
     rotate_left
     ·intro w hSw
      (try dsimp only at hSw)
      go_simp
      try with_reducible rfl
     try simp only [Act.put, List.setIfInBounds_toArray, List.set_cons_zero, List.set_cons_succ]
     refine wpAnyH_take (i := 4) (oi := { dst := some 26, op := Op.call { callee := Callee.builtin Builtin.max, args := #[Operand.const (Value.int IntKind.i64 0), Operand.tmp 25], argTypes := #[2, 2] }, type := 2, pos := "l03_normal.go:336", after := #[{ on := 3, ground := Ground.data }], guard := none }) (v := ?_) rfl (by kernel_rfl) (by kernel_rfl) (by kernel_rfl) (fun _ _ _ h => h) (Or.inl ⟨by rfl, ?_⟩) (by assumption) ?_
     rotate_left
     ·intro w hSw
      (try dsimp only at hSw)
      go_simp
      try with_reducible rfl
     try simp only [Act.put, List.setIfInBounds_toArray, List.set_cons_zero, List.set_cons_succ]
     refine wpAnyH_take (i := 6) (oi := { dst := some 28, op := Op.fieldAddr 28 (Operand.tmp 1) 2, type := 0, pos := "l03_normal.go:336", after := #[], guard := none }) (v := ?_) rfl (by kernel_rfl) (by kernel_rfl) (by kernel_rfl) (fun _ _ _ h => h) (Or.inl ⟨by rfl, ?_⟩) (by assumption) ?_
     rotate_left
     ·intro w hSw
      (try dsimp only at hSw)
      go_simp
      try with_reducible rfl
     try simp only [Act.put, List.setIfInBounds_toArray, List.set_cons_zero, List.set_cons_succ]
     refine wpAnyH_take (i := 7) (oi := { dst := some 29, op := Op.load 26 (Operand.tmp 28), type := 26, pos := "l03_normal.go:336", after := #[{ on := 6, ground := Ground.data }], guard := none }) (v := ?_) rfl (by kernel_rfl) (by kernel_rfl) (by kernel_rfl) (fun _ _ _ h => h) (Or.inl ⟨by rfl, ?_⟩) (by assumption) ?_
     rotate_left
     ·intro w hSw
      (try dsimp only at hSw)
      go_simp
      try with_reducible rfl
     try simp only [Act.put, List.setIfInBounds_toArray, List.set_cons_zero, List.set_cons_succ]
     refine wpAnyH_ready (rs := [5, 10]) (by kernel_rfl) (by simp) ?_
     refine AllReadyH.cons (o := { dst := some 27, op := Op.buildSlice 26 0 #[], type := 26, pos := "l03_normal.go:336", after := #[], guard := none }) rfl (fun K hK => ?_) ?_
     ·go_simp
      have O : Hid (OwnAV W0.heap.size (W0.alloc (.cells #[] 78)).drew (.slice (some ⟨W0.heap.size, 0, none⟩) 0 0) 0 []) := Lib.hid (own_at W0 (by simp) (by simp))
      replace KB : Hid (Below W0.heap.size W0 (W0.alloc (.cells #[] 78)).drew) := Lib.hid (KB.out.alloc KB.out.size (.cells #[] 78))
      refine hK.out _ _ ?_ (fun hHeld => ?_)
      ·with_reducible exact SH.out _ KB.out
      clear hK K
      try simp only [Act.put, List.setIfInBounds_toArray, List.set_cons_zero, List.set_cons_succ]
      refine wpAnyH_ready (rs := [8, 10]) (by kernel_rfl) (by simp) ?_
      refine AllReadyH.cons (o := { dst := some 30, op := Op.call { callee := Callee.builtin Builtin.append, args := #[Operand.tmp 27, Operand.tmp 29], argTypes := #[26, 26] }, type := 26, pos := "l03_normal.go:336", after := #[{ on := 5, ground := Ground.data }, { on := 7, ground := Ground.data }], guard := none }) rfl (fun K hK => ?_) ?_
      ·refine step_append_rows_at rfl _ _ 26 rfl W0.heap.size i0 Try.underlying26 hi hi0 hi1 hi2 _ _ _ rfl O.out _ _ _ rs rfl (Rd.out.below KB.out) (by omega) KB.out.size ?_
       intro v' w5 ho' hg hv
       replace KB := Lib.hid (below_ownA KB.out KB.out.size (Nat.le_refl _) O.out hg)
       obtain ⟨a5, c5, rfl, ho5⟩ := ho'.form
       rw [List.nil_append, Nat.zero_add] at ho5
       have P := Lib.hid ho5
       clear ho' hg hv ho5 O
       refine hK.out _ _ ?_ (fun hHeld => ?_)
       ·with_reducible exact SH.out _ KB.out
       clear hK K
       try simp only [Act.put, List.setIfInBounds_toArray, List.set_cons_zero, List.set_cons_succ]
       refine wpAnyH_take (i := 9) (oi := { dst := some 31, op := Op.build 28 #[(0, Operand.tmp 23), (1, Operand.tmp 26), (2, Operand.tmp 30)], type := 28, pos := "l03_normal.go:336", after := #[{ on := 1, ground := Ground.data }, { on := 4, ground := Ground.data }, { on := 8, ground := Ground.data }], guard := none }) (v := ?_) rfl (by kernel_rfl) (by kernel_rfl) (by kernel_rfl) (fun _ _ _ h => h) (Or.inl ⟨by rfl, ?_⟩) (by assumption) ?_
       rotate_left
       ·intro w hSw
        (try dsimp only at hSw)
        go_simp
        try with_reducible rfl
       try simp only [Act.put, List.setIfInBounds_toArray, List.set_cons_zero, List.set_cons_succ]
       refine wpAnyH_ready (rs := [10]) (by kernel_rfl) (by simp) ?_
       refine AllReadyH.cons (o := { dst := some 6, op := Op.alloc 28, type := 0, pos := "l03_normal.go:336", after := #[], guard := none }) rfl (fun K hK => ?_) ?_
       ·go_simp
        have PAP := Lib.hid (P.out.toS.apartHi (g := w5.heap.size) (Nat.le_refl _))
        replace P : Hid (OwnA W0.heap.size (w5.alloc (.cells #[.int .i64 0, .int .i64 0, .slice none 0 0] 28)) a5 n c5 rs) := Lib.hid (P.out.alloc (.cells #[.int .i64 0, .int .i64 0, .slice none 0 0] 28))
        have Z : Hid (At3 (w5.alloc (.cells #[.int .i64 0, .int .i64 0, .slice none 0 0] 28)) (w5.heap.size) (.int .i64 0) (.int .i64 0) (.slice none 0 0)) := Lib.hid ((At3.place w5 (.int .i64 0) (.int .i64 0) (.slice none 0 0) 28 (w5.heap.size) (by simp)))
        have zG : Hid (W0.heap.size ≤ w5.heap.size) := Lib.hid (by first | exact Nat.le_refl _ | exact KB.out.size | omega)
        replace KB : Hid (Below W0.heap.size W0 (w5.alloc (.cells #[.int .i64 0, .int .i64 0, .slice none 0 0] 28))) := Lib.hid (KB.out.alloc KB.out.size (.cells #[.int .i64 0, .int .i64 0, .slice none 0 0] 28))
        obtain ⟨V8, hV8⟩ : ∃ V, V = (w5.alloc (.cells #[.int .i64 0, .int .i64 0, .slice none 0 0] 28)) := ⟨_, rfl⟩
        rw [← hV8] at KB P Z ⊢
        clear hV8
        refine hK.out _ _ ?_ (fun hHeld => ?_)
        ·with_reducible exact SH.out _ KB.out
        clear hK K
        try simp only [Act.put, List.setIfInBounds_toArray, List.set_cons_zero, List.set_cons_succ]
        refine wpAnyH_ready (rs := [11]) (by kernel_rfl) (by simp) ?_
        refine AllReadyH.cons (o := { dst := none, op := Op.store 28 (Operand.tmp 6) (Operand.tmp 31), type := 0, pos := "l03_normal.go:336", after := #[{ on := 10, ground := Ground.data }, { on := 9, ground := Ground.data }, { on := 8, ground := Ground.chain }, { on := 0, ground := Ground.phase }, { on := 1, ground := Ground.phase }, { on := 2, ground := Ground.phase }, { on := 3, ground := Ground.phase }, { on := 4, ground := Ground.phase }, { on := 5, ground := Ground.phase }, { on := 6, ground := Ground.phase }, { on := 7, ground := Ground.phase }, { on := 8, ground := Ground.phase }, { on := 9, ground := Ground.phase }, { on := 10, ground := Ground.phase }], guard := none }) rfl (fun K hK => ?_) ?_
        ·obtain ⟨y0, ⟨y1, y2, y3⟩, y4, y5, y6⟩ := Z.out
         skip
         go_simp
         clear y0 y1 y2 y3 y4 y5 y6
         replace Z := Lib.hid (Z.out.fill (.int .i64 m) (.int .i64 p) (.slice a5 n c5))
         have PS := Lib.hid (P.out.toS.past3 PAP.out (.int .i64 m) (.int .i64 p) (.slice a5 n c5))
         replace KB := Lib.hid (below_set3 KB.out zG.out (.int .i64 m) (.int .i64 p) (.slice a5 n c5))
         obtain ⟨V9, hV9⟩ : ∃ V, V = (((V8.setCell ⟨w5.heap.size, 0, none⟩ (.int .i64 m)).setCell ⟨w5.heap.size, 1, none⟩ (.int .i64 p)).setCell ⟨w5.heap.size, 2, none⟩ (.slice a5 n c5)) := ⟨_, rfl⟩
         rw [← hV9] at Z PS KB ⊢
         clear hV9 P
         refine hK.out _ _ ?_ (fun hHeld => ?_)
         ·with_reducible exact SH.out _ KB.out
         clear hK K
         try simp only [Act.put, List.setIfInBounds_toArray, List.set_cons_zero, List.set_cons_succ]
         refine wpAnyH_done (by kernel_rfl) ?_ _
         go_wp2_with fail
         go_meet
         exact ⟨_, _, _, rfl, zG.out, Z.out, PS.out, KB.out⟩
        exact AllReadyH.nil
       exact AllReadyH.nil
      refine AllReadyH.cons (o := { dst := some 6, op := Op.alloc 28, type := 0, pos := "l03_normal.go:336", after := #[], guard := none }) rfl (fun K hK => ?_) ?_
      ·go_simp
       replace O : Hid (OwnAV W0.heap.size ((W0.alloc (.cells #[] 78)).alloc (.cells #[.int .i64 0, .int .i64 0, .slice none 0 0] 28)).drew (.slice (some ⟨W0.heap.size, 0, none⟩) 0 0) 0 []) := Lib.hid (O.out.alloc (.cells #[.int .i64 0, .int .i64 0, .slice none 0 0] 28))
       have Z : Hid (At3 ((W0.alloc (.cells #[] 78)).alloc (.cells #[.int .i64 0, .int .i64 0, .slice none 0 0] 28)).drew (W0.heap.size + 1) (.int .i64 0) (.int .i64 0) (.slice none 0 0)) := Lib.hid ((At3.place (W0.alloc (.cells #[] 78)) (.int .i64 0) (.int .i64 0) (.slice none 0 0) 28 (W0.heap.size + 1) (by simp)).drew)
       have zG : Hid (W0.heap.size ≤ W0.heap.size + 1) := Lib.hid (by first | exact Nat.le_refl _ | exact KB.out.size | omega)
       replace KB : Hid (Below W0.heap.size W0 ((W0.alloc (.cells #[] 78)).alloc (.cells #[.int .i64 0, .int .i64 0, .slice none 0 0] 28)).drew) := Lib.hid (KB.out.alloc KB.out.size (.cells #[.int .i64 0, .int .i64 0, .slice none 0 0] 28))
       refine hK.out _ _ ?_ (fun hHeld => ?_)
       ·with_reducible exact SH.out _ KB.out
       clear hK K
       try simp only [Act.put, List.setIfInBounds_toArray, List.set_cons_zero, List.set_cons_succ]
       refine wpAnyH_ready (rs := [8]) (by kernel_rfl) (by simp) ?_
       refine AllReadyH.cons (o := { dst := some 30, op := Op.call { callee := Callee.builtin Builtin.append, args := #[Operand.tmp 27, Operand.tmp 29], argTypes := #[26, 26] }, type := 26, pos := "l03_normal.go:336", after := #[{ on := 5, ground := Ground.data }, { on := 7, ground := Ground.data }], guard := none }) rfl (fun K hK => ?_) ?_
       ·refine step_append_rows_at rfl _ _ 26 rfl W0.heap.size i0 Try.underlying26 hi hi0 hi1 hi2 _ _ _ rfl O.out _ _ _ rs rfl (Rd.out.below KB.out) (by omega) KB.out.size ?_
        intro v' w5 ho' hg hv
        have hg2 : World.grownBy _ w5 (some (W0.heap.size)) := hg
        replace Z := Lib.hid (Z.out.heap hg2.size (hg2.block _ Z.out.1 (fun e => by have e2 := Option.some.inj e; simp at e2)))
        clear hg2
        replace KB := Lib.hid (below_ownA KB.out KB.out.size (Nat.le_refl _) O.out hg)
        obtain ⟨a5, c5, rfl, ho5⟩ := ho'.form
        rw [List.nil_append, Nat.zero_add] at ho5
        have P := Lib.hid ho5
        have PAP : Hid (n = 0 ∨ ∀ x, a5 = some x → x.block ≠ W0.heap.size + 1) := Lib.hid (.inr fun x hx => by have hv2 : (Value.slice a5 (0 + n) c5).ownBlock = some (W0.heap.size) ∨ (Value.slice a5 (0 + n) c5).ownBlock = some (((W0.alloc (.cells #[] 78)).alloc (.cells #[.int .i64 0, .int .i64 0, .slice none 0 0] 28)).drew).heap.size := hv; clear hv hg hHeld; subst hx; rcases hv2 with h | h <;> simp [Value.ownBlock] at h <;> omega)
        clear ho' hg hv ho5 O
        refine hK.out _ _ ?_ (fun hHeld => ?_)
        ·with_reducible exact SH.out _ KB.out
        clear hK K
        try simp only [Act.put, List.setIfInBounds_toArray, List.set_cons_zero, List.set_cons_succ]
        refine wpAnyH_take (i := 9) (oi := { dst := some 31, op := Op.build 28 #[(0, Operand.tmp 23), (1, Operand.tmp 26), (2, Operand.tmp 30)], type := 28, pos := "l03_normal.go:336", after := #[{ on := 1, ground := Ground.data }, { on := 4, ground := Ground.data }, { on := 8, ground := Ground.data }], guard := none }) (v := ?_) rfl (by kernel_rfl) (by kernel_rfl) (by kernel_rfl) (fun _ _ _ h => h) (Or.inl ⟨by rfl, ?_⟩) (by assumption) ?_
        rotate_left
        ·intro w hSw
         (try dsimp only at hSw)
         go_simp
         try with_reducible rfl
        try simp only [Act.put, List.setIfInBounds_toArray, List.set_cons_zero, List.set_cons_succ]
        refine wpAnyH_ready (rs := [11]) (by kernel_rfl) (by simp) ?_
        refine AllReadyH.cons (o := { dst := none, op := Op.store 28 (Operand.tmp 6) (Operand.tmp 31), type := 0, pos := "l03_normal.go:336", after := #[{ on := 10, ground := Ground.data }, { on := 9, ground := Ground.data }, { on := 8, ground := Ground.chain }, { on := 0, ground := Ground.phase }, { on := 1, ground := Ground.phase }, { on := 2, ground := Ground.phase }, { on := 3, ground := Ground.phase }, { on := 4, ground := Ground.phase }, { on := 5, ground := Ground.phase }, { on := 6, ground := Ground.phase }, { on := 7, ground := Ground.phase }, { on := 8, ground := Ground.phase }, { on := 9, ground := Ground.phase }, { on := 10, ground := Ground.phase }], guard := none }) rfl (fun K hK => ?_) ?_
        ·obtain ⟨y0, ⟨y1, y2, y3⟩, y4, y5, y6⟩ := Z.out
         skip
         go_simp
         clear y0 y1 y2 y3 y4 y5 y6
         replace Z := Lib.hid (Z.out.fill (.int .i64 m) (.int .i64 p) (.slice a5 n c5))
         have PS := Lib.hid (P.out.toS.past3 PAP.out (.int .i64 m) (.int .i64 p) (.slice a5 n c5))
         replace KB := Lib.hid (below_set3 KB.out zG.out (.int .i64 m) (.int .i64 p) (.slice a5 n c5))
         obtain ⟨V9, hV9⟩ : ∃ V, V = (((w5.setCell ⟨W0.heap.size + 1, 0, none⟩ (.int .i64 m)).setCell ⟨W0.heap.size + 1, 1, none⟩ (.int .i64 p)).setCell ⟨W0.heap.size + 1, 2, none⟩ (.slice a5 n c5)) := ⟨_, rfl⟩
         rw [← hV9] at Z PS KB ⊢
         clear hV9 P
         refine hK.out _ _ ?_ (fun hHeld => ?_)
         ·with_reducible exact SH.out _ KB.out
         clear hK K
         try simp only [Act.put, List.setIfInBounds_toArray, List.set_cons_zero, List.set_cons_succ]
         refine wpAnyH_done (by kernel_rfl) ?_ _
         go_wp2_with fail
         go_meet
         exact ⟨_, _, _, rfl, zG.out, Z.out, PS.out, KB.out⟩
        exact AllReadyH.nil
       exact AllReadyH.nil
      exact AllReadyH.nil
     refine AllReadyH.cons (o := { dst := some 6, op := Op.alloc 28, type := 0, pos := "l03_normal.go:336", after := #[], guard := none }) rfl (fun K hK => ?_) ?_
     ·go_simp
      have Z : Hid (At3 (W0.alloc (.cells #[.int .i64 0, .int .i64 0, .slice none 0 0] 28)).drew (W0.heap.size) (.int .i64 0) (.int .i64 0) (.slice none 0 0)) := Lib.hid ((At3.place W0 (.int .i64 0) (.int .i64 0) (.slice none 0 0) 28 (W0.heap.size) (by simp)).drew)
      have zG : Hid (W0.heap.size ≤ W0.heap.size) := Lib.hid (by first | exact Nat.le_refl _ | exact KB.out.size | omega)
      replace KB : Hid (Below W0.heap.size W0 (W0.alloc (.cells #[.int .i64 0, .int .i64 0, .slice none 0 0] 28)).drew) := Lib.hid (KB.out.alloc KB.out.size (.cells #[.int .i64 0, .int .i64 0, .slice none 0 0] 28))
      refine hK.out _ _ ?_ (fun hHeld => ?_)
      ·with_reducible exact SH.out _ KB.out
      clear hK K
      try simp only [Act.put, List.setIfInBounds_toArray, List.set_cons_zero, List.set_cons_succ]
      refine wpAnyH_ready (rs := [5]) (by kernel_rfl) (by simp) ?_
      refine AllReadyH.cons (o := { dst := some 27, op := Op.buildSlice 26 0 #[], type := 26, pos := "l03_normal.go:336", after := #[], guard := none }) rfl (fun K hK => ?_) ?_
      ·go_simp
       replace Z : Hid (At3 ((W0.alloc (.cells #[.int .i64 0, .int .i64 0, .slice none 0 0] 28)).alloc (.cells #[] 78)).drew (W0.heap.size) (.int .i64 0) (.int .i64 0) (.slice none 0 0)) := Lib.hid (Z.out.alloc (.cells #[] 78))
       have O : Hid (OwnAV W0.heap.size ((W0.alloc (.cells #[.int .i64 0, .int .i64 0, .slice none 0 0] 28)).alloc (.cells #[] 78)).drew (.slice (some ⟨W0.heap.size + 1, 0, none⟩) 0 0) 0 []) := Lib.hid (own_at (W0.alloc (.cells #[.int .i64 0, .int .i64 0, .slice none 0 0] 28)) (by simp) (by simp))
       replace KB : Hid (Below W0.heap.size W0 ((W0.alloc (.cells #[.int .i64 0, .int .i64 0, .slice none 0 0] 28)).alloc (.cells #[] 78)).drew) := Lib.hid (KB.out.alloc KB.out.size (.cells #[] 78))
       refine hK.out _ _ ?_ (fun hHeld => ?_)
       ·with_reducible exact SH.out _ KB.out
       clear hK K
       try simp only [Act.put, List.setIfInBounds_toArray, List.set_cons_zero, List.set_cons_succ]
       refine wpAnyH_ready (rs := [8]) (by kernel_rfl) (by simp) ?_
       refine AllReadyH.cons (o := { dst := some 30, op := Op.call { callee := Callee.builtin Builtin.append, args := #[Operand.tmp 27, Operand.tmp 29], argTypes := #[26, 26] }, type := 26, pos := "l03_normal.go:336", after := #[{ on := 5, ground := Ground.data }, { on := 7, ground := Ground.data }], guard := none }) rfl (fun K hK => ?_) ?_
       ·refine step_append_rows_at rfl _ _ 26 rfl W0.heap.size i0 Try.underlying26 hi hi0 hi1 hi2 _ _ _ rfl O.out _ _ _ rs rfl (Rd.out.below KB.out) (by omega) KB.out.size ?_
        intro v' w5 ho' hg hv
        have hg2 : World.grownBy _ w5 (some (W0.heap.size + 1)) := hg
        replace Z := Lib.hid (Z.out.heap hg2.size (hg2.block _ Z.out.1 (fun e => by have e2 := Option.some.inj e; simp at e2)))
        clear hg2
        replace KB := Lib.hid (below_ownA KB.out KB.out.size (Nat.le_refl _) O.out hg)
        obtain ⟨a5, c5, rfl, ho5⟩ := ho'.form
        rw [List.nil_append, Nat.zero_add] at ho5
        have P := Lib.hid ho5
        have PAP : Hid (n = 0 ∨ ∀ x, a5 = some x → x.block ≠ W0.heap.size) := Lib.hid (.inr fun x hx => by have hv2 : (Value.slice a5 (0 + n) c5).ownBlock = some (W0.heap.size + 1) ∨ (Value.slice a5 (0 + n) c5).ownBlock = some (((W0.alloc (.cells #[.int .i64 0, .int .i64 0, .slice none 0 0] 28)).alloc (.cells #[] 78)).drew).heap.size := hv; clear hv hg hHeld; subst hx; rcases hv2 with h | h <;> simp [Value.ownBlock] at h <;> omega)
        clear ho' hg hv ho5 O
        refine hK.out _ _ ?_ (fun hHeld => ?_)
        ·with_reducible exact SH.out _ KB.out
        clear hK K
        try simp only [Act.put, List.setIfInBounds_toArray, List.set_cons_zero, List.set_cons_succ]
        refine wpAnyH_take (i := 9) (oi := { dst := some 31, op := Op.build 28 #[(0, Operand.tmp 23), (1, Operand.tmp 26), (2, Operand.tmp 30)], type := 28, pos := "l03_normal.go:336", after := #[{ on := 1, ground := Ground.data }, { on := 4, ground := Ground.data }, { on := 8, ground := Ground.data }], guard := none }) (v := ?_) rfl (by kernel_rfl) (by kernel_rfl) (by kernel_rfl) (fun _ _ _ h => h) (Or.inl ⟨by rfl, ?_⟩) (by assumption) ?_
        rotate_left
        ·intro w hSw
         (try dsimp only at hSw)
         go_simp
         try with_reducible rfl
        try simp only [Act.put, List.setIfInBounds_toArray, List.set_cons_zero, List.set_cons_succ]
        refine wpAnyH_ready (rs := [11]) (by kernel_rfl) (by simp) ?_
        refine AllReadyH.cons (o := { dst := none, op := Op.store 28 (Operand.tmp 6) (Operand.tmp 31), type := 0, pos := "l03_normal.go:336", after := #[{ on := 10, ground := Ground.data }, { on := 9, ground := Ground.data }, { on := 8, ground := Ground.chain }, { on := 0, ground := Ground.phase }, { on := 1, ground := Ground.phase }, { on := 2, ground := Ground.phase }, { on := 3, ground := Ground.phase }, { on := 4, ground := Ground.phase }, { on := 5, ground := Ground.phase }, { on := 6, ground := Ground.phase }, { on := 7, ground := Ground.phase }, { on := 8, ground := Ground.phase }, { on := 9, ground := Ground.phase }, { on := 10, ground := Ground.phase }], guard := none }) rfl (fun K hK => ?_) ?_
        ·obtain ⟨y0, ⟨y1, y2, y3⟩, y4, y5, y6⟩ := Z.out
         skip
         go_simp
         clear y0 y1 y2 y3 y4 y5 y6
         replace Z := Lib.hid (Z.out.fill (.int .i64 m) (.int .i64 p) (.slice a5 n c5))
         have PS := Lib.hid (P.out.toS.past3 PAP.out (.int .i64 m) (.int .i64 p) (.slice a5 n c5))
         replace KB := Lib.hid (below_set3 KB.out zG.out (.int .i64 m) (.int .i64 p) (.slice a5 n c5))
         obtain ⟨V9, hV9⟩ : ∃ V, V = (((w5.setCell ⟨W0.heap.size, 0, none⟩ (.int .i64 m)).setCell ⟨W0.heap.size, 1, none⟩ (.int .i64 p)).setCell ⟨W0.heap.size, 2, none⟩ (.slice a5 n c5)) := ⟨_, rfl⟩
         rw [← hV9] at Z PS KB ⊢
         clear hV9 P
         refine hK.out _ _ ?_ (fun hHeld => ?_)
         ·with_reducible exact SH.out _ KB.out
         clear hK K
         try simp only [Act.put, List.setIfInBounds_toArray, List.set_cons_zero, List.set_cons_succ]
         refine wpAnyH_done (by kernel_rfl) ?_ _
         go_wp2_with fail
         go_meet
         exact ⟨_, _, _, rfl, zG.out, Z.out, PS.out, KB.out⟩
        exact AllReadyH.nil
       exact AllReadyH.nil
      exact AllReadyH.nil
     exact AllReadyH.nil
    case rest =>
     obtain ⟨v1, hwc⟩ : ∃ x, x = wc := ⟨_, rfl⟩; subst hwc
     obtain ⟨g, b, k, rfl, hg, hG, hO, hb⟩ := hcut
     have GB := Lib.hid hG
     have OB := Lib.hid hO
     replace LB := Lib.hid (LB.out.below hb)
     replace Z1 := Lib.hid (Z1.out.below hb)
     replace Z2 := Lib.hid (Z2.out.below hb)
     have z2 := HZ2.out
     have hv1 : W0.heap.size ≤ v1.heap.size := hb.size
     replace B := Lib.hid (below_go B.out hb B.out.size)
     have HGG := Lib.hid hg
     clear hG hO hb hg
     have hk9 : (negK p : Int) = 0 := by unfold negK; omega
     have hm9 : max p 0 = p := by omega
     have HK9 := Lib.hid hk9
     have HM9 := Lib.hid hm9
     clear hk9 hm9
     obtain ⟨l0, ⟨l1, l2, l3⟩, l4, l5, l6⟩ := LB.out
     obtain ⟨g0, ⟨g1, g2, g3⟩, g4, g5, g6⟩ := GB.out
     have HT1 : Hid ((traF m p rs 0).2.1 = (0, [])) := Lib.hid (by show ((negK p : Int) - ((0 : Nat) : Int), fracA m (negK p) rs 0) = _; rw [HK9.out]; simp [fracA, invL, turns])
     have HT2 : Hid ((traF m p rs 0).2.2 = (p, rs)) := Lib.hid (by show (max p 0, rs.drop 0) = _; rw [HM9.out, List.drop_zero])
     have HTR := Lib.hid (traF_ok m1 m8 HN.out ⟨p1, p2⟩ (by rw [HL.out]; exact hlen))
     obtain ⟨tr, htr⟩ : ∃ tr, tr = traF m p rs := ⟨_, rfl⟩
     rw [← htr] at HT1 HT2 HTR
     have HTT := Lib.hid htr
     obtain ⟨N, hN⟩ : ∃ N, N = endF p rs := ⟨_, rfl⟩
     rw [← hN] at HTR
     have HNN := Lib.hid hN
     clear htr hN
     go_wp2_with fail
     refine (l03Common_any m m1 m8 tr N HTR.out 0 p none b 0 n 0 k [] rs _ ReadsA.zero OB.out.reads HT1.out HT2.out).mono ?_
     rintro e v2 ⟨b1, n1, k1, b2, n2, k2, b3, n3, k3, rfl, ho, hpa, hpb, hb⟩
     clear l0 l1 l2 l3 l4 l5 l6 g0 g1 g2 g3 g4 g5 g6
     have QA := Lib.hid hpa
     have QB := Lib.hid hpb
     replace OB := Lib.hid (OB.out.below hb)
     replace Z1 := Lib.hid (Z1.out.below hb)
     replace Z2 := Lib.hid (Z2.out.below hb)
     have hv2 := hb.size
     replace B := Lib.hid (below_go B.out hb B.out.size)
     clear hb hpa hpb ho LB GB
     have SA : Hid (OwnS v1.heap.size v2 b2 n2 (tr N).2.1.2) := Lib.hid (by
      rcases QA.out.own with h | ⟨h1, h2⟩
      ·exact h
      ·have hl := QA.out.rd.len
       rw [h2] at hl
       have := List.eq_nil_of_length_eq_zero hl
       rw [this, h2, h1]
       exact OwnS.nil _ _ _)
     have SB : Hid (OwnS W0.heap.size v2 b3 n3 (tr N).2.2.2) := Lib.hid (by
      rcases QB.out.own with h | ⟨h1, h2⟩
      ·exact h.mono hv1
      ·subst h1
       subst h2
       exact OB.out.same QB.out.rd)
     clear QA QB OB
     have hnA := SA.out.len
     have hnB := SB.out.len
     have HTR9 := Lib.hid (⟨(HTR.out.bd N (Nat.le_refl _)).2.1.1, (HTR.out.bd N (Nat.le_refl _)).2.2.1⟩ : _ ∧ _)
     clear HT1 HT2 HTR HK9 HM9
     have G7 := Lib.hid (((At3.place v2 (.int .i64 0) (.int .i64 0) (.slice none 0 0) 28 v2.heap.size rfl).alloc (.cells #[.int .i64 0, .int .i64 0, .slice none 0 0] 28)).alloc (.cells #[.int .i64 0, .int .i64 0, .slice none 0 0] 28))
     have G8 := Lib.hid ((At3.place (v2.alloc (.cells #[.int .i64 0, .int .i64 0, .slice none 0 0] 28)) (.int .i64 0) (.int .i64 0) (.slice none 0 0) 28 (v2.heap.size + 1) (by simp)).alloc (.cells #[.int .i64 0, .int .i64 0, .slice none 0 0] 28))
     have G9 := Lib.hid (At3.place ((v2.alloc (.cells #[.int .i64 0, .int .i64 0, .slice none 0 0] 28)).alloc (.cells #[.int .i64 0, .int .i64 0, .slice none 0 0] 28)) (.int .i64 0) (.int .i64 0) (.slice none 0 0) 28 (v2.heap.size + 1 + 1) (by simp))
     obtain ⟨x0, ⟨x1', x2', x3⟩, y1, y2, y3⟩ := G7.out
     obtain ⟨u0, ⟨u1, u2, u3⟩, t1, t2, t3⟩ := G8.out
     obtain ⟨s0, ⟨s1, s2, s3⟩, r1, r2, r3⟩ := G9.out
     go_upto_region 6 with fail
     clear x0 x1' x2' x3 y1 y2 y3 u0 u1 u2 u3 t1 t2 t3 s0 s1 s2 s3 r1 r2 r3 G7 G8 G9
     have G8 := Lib.hid ((At3.place (v2.alloc (.cells #[.int .i64 m, .int .i64 ((tr N).1.1), .slice b1 n1 k1] 28)) (.int .i64 m) (.int .i64 (tr N).2.1.1) (.slice b2 n2 k2) 28 (v2.heap.size + 1) (by simp)).alloc (.cells #[.int .i64 m, .int .i64 ((tr N).2.2.1), .slice b3 n3 k3] 28))
     have G9 := Lib.hid (At3.place ((v2.alloc (.cells #[.int .i64 m, .int .i64 ((tr N).1.1), .slice b1 n1 k1] 28)).alloc (.cells #[.int .i64 m, .int .i64 ((tr N).2.1.1), .slice b2 n2 k2] 28)) (.int .i64 m) (.int .i64 (tr N).2.2.1) (.slice b3 n3 k3) 28 (v2.heap.size + 1 + 1) (by simp))
     replace Z1 := Lib.hid (((Z1.out.alloc (.cells #[.int .i64 m, .int .i64 ((tr N).1.1), .slice b1 n1 k1] 28)).alloc (.cells #[.int .i64 m, .int .i64 ((tr N).2.1.1), .slice b2 n2 k2] 28)).alloc (.cells #[.int .i64 m, .int .i64 ((tr N).2.2.1), .slice b3 n3 k3] 28))
     replace Z2 := Lib.hid (((Z2.out.alloc (.cells #[.int .i64 m, .int .i64 ((tr N).1.1), .slice b1 n1 k1] 28)).alloc (.cells #[.int .i64 m, .int .i64 ((tr N).2.1.1), .slice b2 n2 k2] 28)).alloc (.cells #[.int .i64 m, .int .i64 ((tr N).2.2.1), .slice b3 n3 k3] 28))
     replace SA := Lib.hid (((SA.out.alloc (.cells #[.int .i64 m, .int .i64 ((tr N).1.1), .slice b1 n1 k1] 28)).alloc (.cells #[.int .i64 m, .int .i64 ((tr N).2.1.1), .slice b2 n2 k2] 28)).alloc (.cells #[.int .i64 m, .int .i64 ((tr N).2.2.1), .slice b3 n3 k3] 28))
     replace SB := Lib.hid (((SB.out.alloc (.cells #[.int .i64 m, .int .i64 ((tr N).1.1), .slice b1 n1 k1] 28)).alloc (.cells #[.int .i64 m, .int .i64 ((tr N).2.1.1), .slice b2 n2 k2] 28)).alloc (.cells #[.int .i64 m, .int .i64 ((tr N).2.2.1), .slice b3 n3 k3] 28))
     replace B := Lib.hid (((B.out.alloc B.out.size (.cells #[.int .i64 m, .int .i64 ((tr N).1.1), .slice b1 n1 k1] 28)).alloc (by have := B.out.size; simp; omega) (.cells #[.int .i64 m, .int .i64 ((tr N).2.1.1), .slice b2 n2 k2] 28)).alloc (by have := B.out.size; simp; omega) (.cells #[.int .i64 m, .int .i64 ((tr N).2.2.1), .slice b3 n3 k3] 28))
     obtain ⟨U6, hU6⟩ : ∃ U, U = (((v2.alloc (.cells #[.int .i64 m, .int .i64 ((tr N).1.1), .slice b1 n1 k1] 28)).alloc (.cells #[.int .i64 m, .int .i64 ((tr N).2.1.1), .slice b2 n2 k2] 28)).alloc (.cells #[.int .i64 m, .int .i64 ((tr N).2.2.1), .slice b3 n3 k3] 28)) := ⟨_, rfl⟩
     rw [← hU6] at G8 G9 Z1 Z2 SA SB B ⊢
     have hzU : v2.heap.size + 1 + 1 + 1 = U6.heap.size := by rw [hU6]; simp
     clear hU6
     have hnA2 : n2 ≤ 1048576 := by have h1 := SA.out.len; have h2 := (HTR9.out).1; omega
     have hnB2 : n3 ≤ 1048576 := by have h1 := SB.out.len; have h2 := (HTR9.out).2; omega
     clear hnA hnB
     have hnA := hnA2
     have hnB := hnB2
     clear hnA2 hnB2
     have hszW : w.heap.size + 1 + 1 + 1 ≤ v1.heap.size := by omega
     have hszV : v1.heap.size ≤ v2.heap.size := by omega
     replace G8 := Lib.hid (G8.out.drew)
     replace G9 := Lib.hid (G9.out.drew)
     replace Z1 := Lib.hid (Z1.out.drew)
     replace Z2 := Lib.hid (Z2.out.drew)
     replace SA := Lib.hid (SA.out.below (Below.refl U6.heap.size U6).drew)
     replace SB := Lib.hid (SB.out.below (Below.refl U6.heap.size U6).drew)
     replace B := Lib.hid (B.out.drew)
     refine wp_region_held_drew (S := (fun w' => (w'.cell? ⟨v2.heap.size + 1, 0, none⟩ = some (.int .i64 m) ∧ w'.cell? ⟨v2.heap.size + 1, 1, none⟩ = some (.int .i64 ((tr N).2.1.1)) ∧ w'.cell? ⟨v2.heap.size + 1, 2, none⟩ = some (.slice b2 n2 k2)) ∧ (w'.cell? ⟨v2.heap.size + 1 + 1, 0, none⟩ = some (.int .i64 m) ∧ w'.cell? ⟨v2.heap.size + 1 + 1, 1, none⟩ = some (.int .i64 ((tr N).2.2.1)) ∧ w'.cell? ⟨v2.heap.size + 1 + 1, 2, none⟩ = some (.slice b3 n3 k3)))) (by kernel_rfl) ?_ (fun hHeld => ?_)
     ·with_reducible exact ⟨G8.out.cells, G9.out.cells⟩
     obtain ⟨U7, hU7⟩ : ∃ U, U = U6.drew := ⟨_, rfl⟩
     rw [← hU7] at G8 G9 Z1 Z2 SA SB B ⊢
     clear hU7 hHeld
     have hHeld : (U7.cell? ⟨v2.heap.size + 1, 0, none⟩ = some (.int .i64 m) ∧ U7.cell? ⟨v2.heap.size + 1, 1, none⟩ = some (.int .i64 ((tr N).2.1.1)) ∧ U7.cell? ⟨v2.heap.size + 1, 2, none⟩ = some (.slice b2 n2 k2)) ∧ (U7.cell? ⟨v2.heap.size + 1 + 1, 0, none⟩ = some (.int .i64 m) ∧ U7.cell? ⟨v2.heap.size + 1 + 1, 1, none⟩ = some (.int .i64 ((tr N).2.2.1)) ∧ U7.cell? ⟨v2.heap.size + 1 + 1, 2, none⟩ = some (.slice b3 n3 k3)) := ⟨G8.out.cells, G9.out.cells⟩
     refine wpAnyH_take (i := 0) (oi := { dst := some 39, op := Op.load 28 (Operand.tmp 8), type := 28, pos := "l03_normal.go:338", after := #[], guard := none }) (v := ?_) rfl (by kernel_rfl) (by kernel_rfl) (by kernel_rfl) (fun _ _ _ h => h) (Or.inl ⟨by rfl, ?_⟩) (by assumption) ?_
     rotate_left
     ·intro w hSw
      (try dsimp only at hSw)
      go_simp
      try with_reducible rfl
     try simp only [Act.put, List.setIfInBounds_toArray, List.set_cons_zero, List.set_cons_succ]
     refine wpAnyH_take (i := 1) (oi := { dst := some 40, op := Op.load 28 (Operand.tmp 9), type := 28, pos := "l03_normal.go:338", after := #[{ on := 2, ground := Ground.gcOnly Departure.lateStores }], guard := none }) (v := ?_) rfl (by kernel_rfl) (by kernel_rfl) (by kernel_rfl) (fun _ _ _ h => h) (Or.inl ⟨by rfl, ?_⟩) (by assumption) ?_
     rotate_left
     ·intro w hSw
      (try dsimp only at hSw)
      go_simp
      try with_reducible rfl
     try simp only [Act.put, List.setIfInBounds_toArray, List.set_cons_zero, List.set_cons_succ]
     refine wpAnyH_ready (rs := [2]) (by kernel_rfl) (by simp) ?_
     refine AllReadyH.cons (o := { dst := none, op := Op.store 28 (Operand.tmp 2) (Operand.tmp 39), type := 0, pos := "l03_normal.go:338", after := #[{ on := 0, ground := Ground.data }, { on := 0, ground := Ground.phase }, { on := 1, ground := Ground.textOnly Departure.lateStores }], guard := none }) rfl (fun K hK => ?_) ?_
     ·obtain ⟨z0, ⟨z1, z2, z3⟩, z4, z5, z6⟩ := Z1.out
      go_simp
      clear z0 z1 z2 z3 z4 z5 z6
      replace G8 := Lib.hid (G8.out.set3 (g2 := w.heap.size + 1) (by omega) (.int .i64 m) (.int .i64 (tr N).2.1.1) (.slice b2 n2 k2))
      replace G9 := Lib.hid (G9.out.set3 (g2 := w.heap.size + 1) (by omega) (.int .i64 m) (.int .i64 (tr N).2.1.1) (.slice b2 n2 k2))
      replace Z1 := Lib.hid (Z1.out.fill (.int .i64 m) (.int .i64 (tr N).2.1.1) (.slice b2 n2 k2))
      replace Z2 := Lib.hid (Z2.out.set3 (g2 := w.heap.size + 1) (by omega) (.int .i64 m) (.int .i64 (tr N).2.1.1) (.slice b2 n2 k2))
      replace SA := Lib.hid (SA.out.set3 (g2 := w.heap.size + 1) (by omega) (.int .i64 m) (.int .i64 (tr N).2.1.1) (.slice b2 n2 k2))
      replace SB := Lib.hid (SB.out.set3 (g2 := w.heap.size + 1) (by omega) (.int .i64 m) (.int .i64 (tr N).2.1.1) (.slice b2 n2 k2))
      replace B := Lib.hid (below_set3 (g2 := w.heap.size + 1) B.out (by omega) (.int .i64 m) (.int .i64 (tr N).2.1.1) (.slice b2 n2 k2))
      obtain ⟨U8, hU8⟩ : ∃ U, U = (((U7.setCell ⟨w.heap.size + 1, 0, none⟩ (.int .i64 m)).setCell ⟨w.heap.size + 1, 1, none⟩ (.int .i64 (tr N).2.1.1)).setCell ⟨w.heap.size + 1, 2, none⟩ (.slice b2 n2 k2)) := ⟨_, rfl⟩
      rw [← hU8] at G8 G9 Z1 Z2 SA SB B ⊢
      clear hU8
      refine hK.out _ _ ?_ (fun hHeld => ?_)
      ·with_reducible exact ⟨G8.out.cells, G9.out.cells⟩
      clear hK K
      try simp only [Act.put, List.setIfInBounds_toArray, List.set_cons_zero, List.set_cons_succ]
      refine wpAnyH_ready (rs := [3]) (by kernel_rfl) (by simp) ?_
      refine AllReadyH.cons (o := { dst := none, op := Op.store 28 (Operand.tmp 3) (Operand.tmp 40), type := 0, pos := "l03_normal.go:338", after := #[{ on := 1, ground := Ground.data }, { on := 2, ground := Ground.chain }, { on := 0, ground := Ground.phase }, { on := 1, ground := Ground.phase }, { on := 2, ground := Ground.phase }], guard := none }) rfl (fun K hK => ?_) ?_
      ·obtain ⟨z0, ⟨z1, z2, z3⟩, z4, z5, z6⟩ := Z2.out
       go_simp
       clear z0 z1 z2 z3 z4 z5 z6
       replace G8 := Lib.hid (G8.out.set3 (g2 := w.heap.size + 1 + 1) (by omega) (.int .i64 m) (.int .i64 (tr N).2.2.1) (.slice b3 n3 k3))
       replace G9 := Lib.hid (G9.out.set3 (g2 := w.heap.size + 1 + 1) (by omega) (.int .i64 m) (.int .i64 (tr N).2.2.1) (.slice b3 n3 k3))
       replace Z1 := Lib.hid (Z1.out.set3 (g2 := w.heap.size + 1 + 1) (by omega) (.int .i64 m) (.int .i64 (tr N).2.2.1) (.slice b3 n3 k3))
       replace Z2 := Lib.hid (Z2.out.fill (.int .i64 m) (.int .i64 (tr N).2.2.1) (.slice b3 n3 k3))
       replace SA := Lib.hid (SA.out.set3 (g2 := w.heap.size + 1 + 1) (by omega) (.int .i64 m) (.int .i64 (tr N).2.2.1) (.slice b3 n3 k3))
       replace SB := Lib.hid (SB.out.set3 (g2 := w.heap.size + 1 + 1) (by omega) (.int .i64 m) (.int .i64 (tr N).2.2.1) (.slice b3 n3 k3))
       replace B := Lib.hid (below_set3 (g2 := w.heap.size + 1 + 1) B.out (by omega) (.int .i64 m) (.int .i64 (tr N).2.2.1) (.slice b3 n3 k3))
       obtain ⟨U9, hU9⟩ : ∃ U, U = (((U8.setCell ⟨w.heap.size + 1 + 1, 0, none⟩ (.int .i64 m)).setCell ⟨w.heap.size + 1 + 1, 1, none⟩ (.int .i64 (tr N).2.2.1)).setCell ⟨w.heap.size + 1 + 1, 2, none⟩ (.slice b3 n3 k3)) := ⟨_, rfl⟩
       rw [← hU9] at G8 G9 Z1 Z2 SA SB B ⊢
       clear hU9
       refine hK.out _ _ ?_ (fun hHeld => ?_)
       ·with_reducible exact ⟨G8.out.cells, G9.out.cells⟩
       clear hK K
       try simp only [Act.put, List.setIfInBounds_toArray, List.set_cons_zero, List.set_cons_succ]
       refine wpAnyH_ready (rs := [4]) (by kernel_rfl) (by simp) ?_
       refine AllReadyH.cons (o := { dst := some 4, op := Op.assign (Operand.const (Value.int IntKind.i64 0)), type := 2, pos := "l03_normal.go:338", after := #[{ on := 3, ground := Ground.chain }, { on := 0, ground := Ground.phase }, { on := 1, ground := Ground.phase }, { on := 2, ground := Ground.phase }, { on := 3, ground := Ground.phase }], guard := none }) rfl (fun K hK => ?_) ?_
       ·go_simp
        refine hK.out _ _ ?_ (fun hHeld => ?_)
        ·with_reducible exact ⟨G8.out.cells, G9.out.cells⟩
        clear hK K
        try simp only [Act.put, List.setIfInBounds_toArray, List.set_cons_zero, List.set_cons_succ]
        refine wpAnyH_done (by kernel_rfl) ?_ _
        go_wp2
        try rw [Exit.noGoto_ret]
        have e1 : mFra (m : Int) p rs = (((m : Int), (tr N).2.1.1, (tr N).2.1.2), ((m : Int), (tr N).2.2.1, (tr N).2.2.2), 0) := by unfold mFra; rw [hB, HTT.out, HNN.out]; simp [traF]
        rw [e1]
        obtain ⟨e1, e2, e3⟩ := Z1.out.cells
        obtain ⟨f1, f2, f3⟩ := Z2.out.cells
        exact bodyPost_ret (v := .tuple #[.agg #[.int .i64 m, .int .i64 (tr N).2.1.1, .slice b2 n2 k2], .agg #[.int .i64 m, .int .i64 (tr N).2.2.1, .slice b3 n3 k3], .int .i64 0]) (by simp [results, Try.results33, go_sem, e1, e2, e3, f1, f2, f3]) rfl ⟨b2, n2, k2, b3, n3, k3, rfl, hnA, hnB, SA.out.mono (by omega), SB.out.mono (by omega), B.out⟩
       exact AllReadyH.nil
      exact AllReadyH.nil
     exact AllReadyH.nil
   ·go_wp2
    have LB0 := Lib.hid (At3.place w1 (.int .i64 m) (.int .i64 0) (.slice none 0 0) 28 w1.heap.size rfl)
    obtain ⟨W0, hW0⟩ : ∃ W0, W0 = w1.alloc (.cells #[.int .i64 m, .int .i64 0, .slice none 0 0] 28) := ⟨_, rfl⟩
    have hz2 : W0.heap.size = w1.heap.size + 1 := by rw [hW0]; simp
    have LB : Hid (At3 W0 w1.heap.size (.int .i64 m) (.int .i64 0) (.slice none 0 0)) := Lib.hid (by rw [hW0]; exact LB0.out)
    replace A : Hid (At3 W0 w.heap.size (.int .i64 m) (.int .i64 p) (.slice a n cap)) := Lib.hid (by rw [hW0]; exact A.out.alloc _)
    replace Z1 : Hid (At3 W0 (w.heap.size + 1) (.int .i64 0) (.int .i64 0) (.slice none 0 0)) := Lib.hid (by rw [hW0]; exact Z1.out.alloc _)
    replace Z2 : Hid (At3 W0 (w.heap.size + 1 + 1) (.int .i64 0) (.int .i64 0) (.slice none 0 0)) := Lib.hid (by rw [hW0]; exact Z2.out.alloc _)
    replace B : Hid (Below w.heap.size w W0) := Lib.hid (by rw [hW0]; exact B.out.alloc B.out.size _)
    rw [← hW0]
    clear hW0 LB0
    have Rd := Lib.hid (HR.out.below B.out)
    have HZ2 := Lib.hid hz2
    clear hz2 q1 q2 q3
    go_cut [6] from 22 to 31 (fun x6 wx => ∃ g b k, x6 = .pointer (some ⟨g, 0, none⟩) ∧ W0.heap.size ≤ g ∧ At3 wx g (.int .i64 m) (.int .i64 0) (.slice b n k) ∧ OwnS W0.heap.size wx b n rs ∧ Below W0.heap.size W0 wx)
    case first =>
     have KB : Hid (Below W0.heap.size W0 W0.drew) := Lib.hid (Below.refl W0.heap.size W0).drew
     have SH : Hid (∀ X, Below W0.heap.size W0 X → X.cell? ⟨w.heap.size, 0, none⟩ = some (.int .i64 m) ∧ X.cell? ⟨w.heap.size, 1, none⟩ = some (.int .i64 p) ∧ X.cell? ⟨w.heap.size, 2, none⟩ = some (.slice a n cap)) := Lib.hid fun X h => (A.out.below h).cells
     refine wp_region_held_drew (S := (fun w' => w'.cell? ⟨w.heap.size, 0, none⟩ = some (.int .i64 m) ∧ w'.cell? ⟨w.heap.size, 1, none⟩ = some (.int .i64 p) ∧ w'.cell? ⟨w.heap.size, 2, none⟩ = some (.slice a n cap))) (by kernel_rfl) ?_ (fun hHeld => ?_)
     ·with_reducible exact SH.out _ KB.out
     refine wpAnyH_take (i := 0) (oi := { dst := some 22, op := Op.fieldAddr 28 (Operand.tmp 1) 0, type := 0, pos := "l03_normal.go:336", after := #[], guard := none }) (v := ?_) rfl (by kernel_rfl) (by kernel_rfl) (by kernel_rfl) (fun _ _ _ h => h) (Or.inl ⟨by rfl, ?_⟩) (by assumption) ?_
     rotate_left
     ·intro w hSw
      (try dsimp only at hSw)
      go_simp
      try with_reducible rfl
     try simp only [Act.put, List.setIfInBounds_toArray, List.set_cons_zero, List.set_cons_succ]
     refine wpAnyH_take (i := 1) (oi := { dst := some 23, op := Op.load 2 (Operand.tmp 22), type := 2, pos := "l03_normal.go:336", after := #[{ on := 0, ground := Ground.data }], guard := none }) (v := ?_) rfl (by kernel_rfl) (by kernel_rfl) (by kernel_rfl) (fun _ _ _ h => h) (Or.inl ⟨by rfl, ?_⟩) (by assumption) ?_
     rotate_left
     ·intro w hSw
      (try dsimp only at hSw)
      go_simp
      try with_reducible rfl
     try simp only [Act.put, List.setIfInBounds_toArray, List.set_cons_zero, List.set_cons_succ]
     refine wpAnyH_take (i := 2) (oi := { dst := some 24, op := Op.fieldAddr 28 (Operand.tmp 1) 1, type := 0, pos := "l03_normal.go:336", after := #[], guard := none }) (v := ?_) rfl (by kernel_rfl) (by kernel_rfl) (by kernel_rfl) (fun _ _ _ h => h) (Or.inl ⟨by rfl, ?_⟩) (by assumption) ?_
     rotate_left
     ·intro w hSw
      (try dsimp only at hSw)
      go_simp
      try with_reducible rfl
     try simp only [Act.put, List.setIfInBounds_toArray, List.set_cons_zero, List.set_cons_succ]
     refine wpAnyH_take (i := 3) (oi := { dst := some 25, op := Op.load 2 (Operand.tmp 24), type := 2, pos := "l03_normal.go:336", after := #[{ on := 2, ground := Ground.data }], guard := none }) (v := ?_) rfl (by kernel_rfl) (by kernel_rfl) (by kernel_rfl) (fun _ _ _ h => h) (Or.inl ⟨by rfl, ?_⟩) (by assumption) ?_
     rotate_left
     ·intro w hSw
      (try dsimp only at hSw)
      go_simp
      try with_reducible rfl
     try simp only [Act.put, List.setIfInBounds_toArray, List.set_cons_zero, List.set_cons_succ]
     refine wpAnyH_take (i := 4) (oi := { dst := some 26, op := Op.call { callee := Callee.builtin Builtin.max, args := #[Operand.const (Value.int IntKind.i64 0), Operand.tmp 25], argTypes := #[2, 2] }, type := 2, pos := "l03_normal.go:336", after := #[{ on := 3, ground := Ground.data }], guard := none }) (v := ?_) rfl (by kernel_rfl) (by kernel_rfl) (by kernel_rfl) (fun _ _ _ h => h) (Or.inl ⟨by rfl, ?_⟩) (by assumption) ?_
     rotate_left
     ·intro w hSw
      (try dsimp only at hSw)
      go_simp
      try with_reducible rfl
     try simp only [Act.put, List.setIfInBounds_toArray, List.set_cons_zero, List.set_cons_succ]
     refine wpAnyH_take (i := 6) (oi := { dst := some 28, op := Op.fieldAddr 28 (Operand.tmp 1) 2, type := 0, pos := "l03_normal.go:336", after := #[], guard := none }) (v := ?_) rfl (by kernel_rfl) (by kernel_rfl) (by kernel_rfl) (fun _ _ _ h => h) (Or.inl ⟨by rfl, ?_⟩) (by assumption) ?_
     rotate_left
     ·intro w hSw
      (try dsimp only at hSw)
      go_simp
      try with_reducible rfl
     try simp only [Act.put, List.setIfInBounds_toArray, List.set_cons_zero, List.set_cons_succ]
     refine wpAnyH_take (i := 7) (oi := { dst := some 29, op := Op.load 26 (Operand.tmp 28), type := 26, pos := "l03_normal.go:336", after := #[{ on := 6, ground := Ground.data }], guard := none }) (v := ?_) rfl (by kernel_rfl) (by kernel_rfl) (by kernel_rfl) (fun _ _ _ h => h) (Or.inl ⟨by rfl, ?_⟩) (by assumption) ?_
     rotate_left
     ·intro w hSw
      (try dsimp only at hSw)
      go_simp
      try with_reducible rfl
     try simp only [Act.put, List.setIfInBounds_toArray, List.set_cons_zero, List.set_cons_succ]
     refine wpAnyH_ready (rs := [5, 10]) (by kernel_rfl) (by simp) ?_
     refine AllReadyH.cons (o := { dst := some 27, op := Op.buildSlice 26 0 #[], type := 26, pos := "l03_normal.go:336", after := #[], guard := none }) rfl (fun K hK => ?_) ?_
     ·go_simp
      have O : Hid (OwnAV W0.heap.size (W0.alloc (.cells #[] 78)).drew (.slice (some ⟨W0.heap.size, 0, none⟩) 0 0) 0 []) := Lib.hid (own_at W0 (by simp) (by simp))
      replace KB : Hid (Below W0.heap.size W0 (W0.alloc (.cells #[] 78)).drew) := Lib.hid (KB.out.alloc KB.out.size (.cells #[] 78))
      refine hK.out _ _ ?_ (fun hHeld => ?_)
      ·with_reducible exact SH.out _ KB.out
      clear hK K
      try simp only [Act.put, List.setIfInBounds_toArray, List.set_cons_zero, List.set_cons_succ]
      refine wpAnyH_ready (rs := [8, 10]) (by kernel_rfl) (by simp) ?_
      refine AllReadyH.cons (o := { dst := some 30, op := Op.call { callee := Callee.builtin Builtin.append, args := #[Operand.tmp 27, Operand.tmp 29], argTypes := #[26, 26] }, type := 26, pos := "l03_normal.go:336", after := #[{ on := 5, ground := Ground.data }, { on := 7, ground := Ground.data }], guard := none }) rfl (fun K hK => ?_) ?_
      ·refine step_append_rows_at rfl _ _ 26 rfl W0.heap.size i0 Try.underlying26 hi hi0 hi1 hi2 _ _ _ rfl O.out _ _ _ rs rfl (Rd.out.below KB.out) (by omega) KB.out.size ?_
       intro v' w5 ho' hg hv
       replace KB := Lib.hid (below_ownA KB.out KB.out.size (Nat.le_refl _) O.out hg)
       obtain ⟨a5, c5, rfl, ho5⟩ := ho'.form
       rw [List.nil_append, Nat.zero_add] at ho5
       have P := Lib.hid ho5
       clear ho' hg hv ho5 O
       refine hK.out _ _ ?_ (fun hHeld => ?_)
       ·with_reducible exact SH.out _ KB.out
       clear hK K
       try simp only [Act.put, List.setIfInBounds_toArray, List.set_cons_zero, List.set_cons_succ]
       refine wpAnyH_take (i := 9) (oi := { dst := some 31, op := Op.build 28 #[(0, Operand.tmp 23), (1, Operand.tmp 26), (2, Operand.tmp 30)], type := 28, pos := "l03_normal.go:336", after := #[{ on := 1, ground := Ground.data }, { on := 4, ground := Ground.data }, { on := 8, ground := Ground.data }], guard := none }) (v := ?_) rfl (by kernel_rfl) (by kernel_rfl) (by kernel_rfl) (fun _ _ _ h => h) (Or.inl ⟨by rfl, ?_⟩) (by assumption) ?_
       rotate_left
       ·intro w hSw
        (try dsimp only at hSw)
        go_simp
        try with_reducible rfl
       try simp only [Act.put, List.setIfInBounds_toArray, List.set_cons_zero, List.set_cons_succ]
       refine wpAnyH_ready (rs := [10]) (by kernel_rfl) (by simp) ?_
       refine AllReadyH.cons (o := { dst := some 6, op := Op.alloc 28, type := 0, pos := "l03_normal.go:336", after := #[], guard := none }) rfl (fun K hK => ?_) ?_
       ·go_simp
        have PAP := Lib.hid (P.out.toS.apartHi (g := w5.heap.size) (Nat.le_refl _))
        replace P : Hid (OwnA W0.heap.size (w5.alloc (.cells #[.int .i64 0, .int .i64 0, .slice none 0 0] 28)) a5 n c5 rs) := Lib.hid (P.out.alloc (.cells #[.int .i64 0, .int .i64 0, .slice none 0 0] 28))
        have Z : Hid (At3 (w5.alloc (.cells #[.int .i64 0, .int .i64 0, .slice none 0 0] 28)) (w5.heap.size) (.int .i64 0) (.int .i64 0) (.slice none 0 0)) := Lib.hid ((At3.place w5 (.int .i64 0) (.int .i64 0) (.slice none 0 0) 28 (w5.heap.size) (by simp)))
        have zG : Hid (W0.heap.size ≤ w5.heap.size) := Lib.hid (by first | exact Nat.le_refl _ | exact KB.out.size | omega)
        replace KB : Hid (Below W0.heap.size W0 (w5.alloc (.cells #[.int .i64 0, .int .i64 0, .slice none 0 0] 28))) := Lib.hid (KB.out.alloc KB.out.size (.cells #[.int .i64 0, .int .i64 0, .slice none 0 0] 28))
        obtain ⟨V8, hV8⟩ : ∃ V, V = (w5.alloc (.cells #[.int .i64 0, .int .i64 0, .slice none 0 0] 28)) := ⟨_, rfl⟩
        rw [← hV8] at KB P Z ⊢
        clear hV8
        refine hK.out _ _ ?_ (fun hHeld => ?_)
        ·with_reducible exact SH.out _ KB.out
        clear hK K
        try simp only [Act.put, List.setIfInBounds_toArray, List.set_cons_zero, List.set_cons_succ]
        refine wpAnyH_ready (rs := [11]) (by kernel_rfl) (by simp) ?_
        refine AllReadyH.cons (o := { dst := none, op := Op.store 28 (Operand.tmp 6) (Operand.tmp 31), type := 0, pos := "l03_normal.go:336", after := #[{ on := 10, ground := Ground.data }, { on := 9, ground := Ground.data }, { on := 8, ground := Ground.chain }, { on := 0, ground := Ground.phase }, { on := 1, ground := Ground.phase }, { on := 2, ground := Ground.phase }, { on := 3, ground := Ground.phase }, { on := 4, ground := Ground.phase }, { on := 5, ground := Ground.phase }, { on := 6, ground := Ground.phase }, { on := 7, ground := Ground.phase }, { on := 8, ground := Ground.phase }, { on := 9, ground := Ground.phase }, { on := 10, ground := Ground.phase }], guard := none }) rfl (fun K hK => ?_) ?_
        ·obtain ⟨y0, ⟨y1, y2, y3⟩, y4, y5, y6⟩ := Z.out
         skip
         go_simp
         clear y0 y1 y2 y3 y4 y5 y6
         replace Z := Lib.hid (Z.out.fill (.int .i64 m) (.int .i64 (if 0 < p then p else 0)) (.slice a5 n c5))
         have PS := Lib.hid (P.out.toS.past3 PAP.out (.int .i64 m) (.int .i64 (if 0 < p then p else 0)) (.slice a5 n c5))
         replace KB := Lib.hid (below_set3 KB.out zG.out (.int .i64 m) (.int .i64 (if 0 < p then p else 0)) (.slice a5 n c5))
         obtain ⟨V9, hV9⟩ : ∃ V, V = (((V8.setCell ⟨w5.heap.size, 0, none⟩ (.int .i64 m)).setCell ⟨w5.heap.size, 1, none⟩ (.int .i64 (if 0 < p then p else 0))).setCell ⟨w5.heap.size, 2, none⟩ (.slice a5 n c5)) := ⟨_, rfl⟩
         rw [← hV9] at Z PS KB ⊢
         clear hV9 P
         refine hK.out _ _ ?_ (fun hHeld => ?_)
         ·with_reducible exact SH.out _ KB.out
         clear hK K
         try simp only [Act.put, List.setIfInBounds_toArray, List.set_cons_zero, List.set_cons_succ]
         refine wpAnyH_done (by kernel_rfl) ?_ _
         go_wp2_with fail
         go_meet
         exact ⟨_, _, _, rfl, zG.out, (by have h := Z.out; rw [if_neg (show ¬ 0 < p by omega)] at h; exact h), PS.out, KB.out⟩
        exact AllReadyH.nil
       exact AllReadyH.nil
      refine AllReadyH.cons (o := { dst := some 6, op := Op.alloc 28, type := 0, pos := "l03_normal.go:336", after := #[], guard := none }) rfl (fun K hK => ?_) ?_
      ·go_simp
       replace O : Hid (OwnAV W0.heap.size ((W0.alloc (.cells #[] 78)).alloc (.cells #[.int .i64 0, .int .i64 0, .slice none 0 0] 28)).drew (.slice (some ⟨W0.heap.size, 0, none⟩) 0 0) 0 []) := Lib.hid (O.out.alloc (.cells #[.int .i64 0, .int .i64 0, .slice none 0 0] 28))
       have Z : Hid (At3 ((W0.alloc (.cells #[] 78)).alloc (.cells #[.int .i64 0, .int .i64 0, .slice none 0 0] 28)).drew (W0.heap.size + 1) (.int .i64 0) (.int .i64 0) (.slice none 0 0)) := Lib.hid ((At3.place (W0.alloc (.cells #[] 78)) (.int .i64 0) (.int .i64 0) (.slice none 0 0) 28 (W0.heap.size + 1) (by simp)).drew)
       have zG : Hid (W0.heap.size ≤ W0.heap.size + 1) := Lib.hid (by first | exact Nat.le_refl _ | exact KB.out.size | omega)
       replace KB : Hid (Below W0.heap.size W0 ((W0.alloc (.cells #[] 78)).alloc (.cells #[.int .i64 0, .int .i64 0, .slice none 0 0] 28)).drew) := Lib.hid (KB.out.alloc KB.out.size (.cells #[.int .i64 0, .int .i64 0, .slice none 0 0] 28))
       refine hK.out _ _ ?_ (fun hHeld => ?_)
       ·with_reducible exact SH.out _ KB.out
       clear hK K
       try simp only [Act.put, List.setIfInBounds_toArray, List.set_cons_zero, List.set_cons_succ]
       refine wpAnyH_ready (rs := [8]) (by kernel_rfl) (by simp) ?_
       refine AllReadyH.cons (o := { dst := some 30, op := Op.call { callee := Callee.builtin Builtin.append, args := #[Operand.tmp 27, Operand.tmp 29], argTypes := #[26, 26] }, type := 26, pos := "l03_normal.go:336", after := #[{ on := 5, ground := Ground.data }, { on := 7, ground := Ground.data }], guard := none }) rfl (fun K hK => ?_) ?_
       ·refine step_append_rows_at rfl _ _ 26 rfl W0.heap.size i0 Try.underlying26 hi hi0 hi1 hi2 _ _ _ rfl O.out _ _ _ rs rfl (Rd.out.below KB.out) (by omega) KB.out.size ?_
        intro v' w5 ho' hg hv
        have hg2 : World.grownBy _ w5 (some (W0.heap.size)) := hg
        replace Z := Lib.hid (Z.out.heap hg2.size (hg2.block _ Z.out.1 (fun e => by have e2 := Option.some.inj e; simp at e2)))
        clear hg2
        replace KB := Lib.hid (below_ownA KB.out KB.out.size (Nat.le_refl _) O.out hg)
        obtain ⟨a5, c5, rfl, ho5⟩ := ho'.form
        rw [List.nil_append, Nat.zero_add] at ho5
        have P := Lib.hid ho5
        have PAP : Hid (n = 0 ∨ ∀ x, a5 = some x → x.block ≠ W0.heap.size + 1) := Lib.hid (.inr fun x hx => by have hv2 : (Value.slice a5 (0 + n) c5).ownBlock = some (W0.heap.size) ∨ (Value.slice a5 (0 + n) c5).ownBlock = some (((W0.alloc (.cells #[] 78)).alloc (.cells #[.int .i64 0, .int .i64 0, .slice none 0 0] 28)).drew).heap.size := hv; clear hv hg hHeld; subst hx; rcases hv2 with h | h <;> simp [Value.ownBlock] at h <;> omega)
        clear ho' hg hv ho5 O
        refine hK.out _ _ ?_ (fun hHeld => ?_)
        ·with_reducible exact SH.out _ KB.out
        clear hK K
        try simp only [Act.put, List.setIfInBounds_toArray, List.set_cons_zero, List.set_cons_succ]
        refine wpAnyH_take (i := 9) (oi := { dst := some 31, op := Op.build 28 #[(0, Operand.tmp 23), (1, Operand.tmp 26), (2, Operand.tmp 30)], type := 28, pos := "l03_normal.go:336", after := #[{ on := 1, ground := Ground.data }, { on := 4, ground := Ground.data }, { on := 8, ground := Ground.data }], guard := none }) (v := ?_) rfl (by kernel_rfl) (by kernel_rfl) (by kernel_rfl) (fun _ _ _ h => h) (Or.inl ⟨by rfl, ?_⟩) (by assumption) ?_
        rotate_left
        ·intro w hSw
         (try dsimp only at hSw)
         go_simp
         try with_reducible rfl
        try simp only [Act.put, List.setIfInBounds_toArray, List.set_cons_zero, List.set_cons_succ]
        refine wpAnyH_ready (rs := [11]) (by kernel_rfl) (by simp) ?_
        refine AllReadyH.cons (o := { dst := none, op := Op.store 28 (Operand.tmp 6) (Operand.tmp 31), type := 0, pos := "l03_normal.go:336", after := #[{ on := 10, ground := Ground.data }, { on := 9, ground := Ground.data }, { on := 8, ground := Ground.chain }, { on := 0, ground := Ground.phase }, { on := 1, ground := Ground.phase }, { on := 2, ground := Ground.phase }, { on := 3, ground := Ground.phase }, { on := 4, ground := Ground.phase }, { on := 5, ground := Ground.phase }, { on := 6, ground := Ground.phase }, { on := 7, ground := Ground.phase }, { on := 8, ground := Ground.phase }, { on := 9, ground := Ground.phase }, { on := 10, ground := Ground.phase }], guard := none }) rfl (fun K hK => ?_) ?_
        ·obtain ⟨y0, ⟨y1, y2, y3⟩, y4, y5, y6⟩ := Z.out
         skip
         go_simp
         clear y0 y1 y2 y3 y4 y5 y6
         replace Z := Lib.hid (Z.out.fill (.int .i64 m) (.int .i64 (if 0 < p then p else 0)) (.slice a5 n c5))
         have PS := Lib.hid (P.out.toS.past3 PAP.out (.int .i64 m) (.int .i64 (if 0 < p then p else 0)) (.slice a5 n c5))
         replace KB := Lib.hid (below_set3 KB.out zG.out (.int .i64 m) (.int .i64 (if 0 < p then p else 0)) (.slice a5 n c5))
         obtain ⟨V9, hV9⟩ : ∃ V, V = (((w5.setCell ⟨W0.heap.size + 1, 0, none⟩ (.int .i64 m)).setCell ⟨W0.heap.size + 1, 1, none⟩ (.int .i64 (if 0 < p then p else 0))).setCell ⟨W0.heap.size + 1, 2, none⟩ (.slice a5 n c5)) := ⟨_, rfl⟩
         rw [← hV9] at Z PS KB ⊢
         clear hV9 P
         refine hK.out _ _ ?_ (fun hHeld => ?_)
         ·with_reducible exact SH.out _ KB.out
         clear hK K
         try simp only [Act.put, List.setIfInBounds_toArray, List.set_cons_zero, List.set_cons_succ]
         refine wpAnyH_done (by kernel_rfl) ?_ _
         go_wp2_with fail
         go_meet
         exact ⟨_, _, _, rfl, zG.out, (by have h := Z.out; rw [if_neg (show ¬ 0 < p by omega)] at h; exact h), PS.out, KB.out⟩
        exact AllReadyH.nil
       exact AllReadyH.nil
      exact AllReadyH.nil
     refine AllReadyH.cons (o := { dst := some 6, op := Op.alloc 28, type := 0, pos := "l03_normal.go:336", after := #[], guard := none }) rfl (fun K hK => ?_) ?_
     ·go_simp
      have Z : Hid (At3 (W0.alloc (.cells #[.int .i64 0, .int .i64 0, .slice none 0 0] 28)).drew (W0.heap.size) (.int .i64 0) (.int .i64 0) (.slice none 0 0)) := Lib.hid ((At3.place W0 (.int .i64 0) (.int .i64 0) (.slice none 0 0) 28 (W0.heap.size) (by simp)).drew)
      have zG : Hid (W0.heap.size ≤ W0.heap.size) := Lib.hid (by first | exact Nat.le_refl _ | exact KB.out.size | omega)
      replace KB : Hid (Below W0.heap.size W0 (W0.alloc (.cells #[.int .i64 0, .int .i64 0, .slice none 0 0] 28)).drew) := Lib.hid (KB.out.alloc KB.out.size (.cells #[.int .i64 0, .int .i64 0, .slice none 0 0] 28))
      refine hK.out _ _ ?_ (fun hHeld => ?_)
      ·with_reducible exact SH.out _ KB.out
      clear hK K
      try simp only [Act.put, List.setIfInBounds_toArray, List.set_cons_zero, List.set_cons_succ]
      refine wpAnyH_ready (rs := [5]) (by kernel_rfl) (by simp) ?_
      refine AllReadyH.cons (o := { dst := some 27, op := Op.buildSlice 26 0 #[], type := 26, pos := "l03_normal.go:336", after := #[], guard := none }) rfl (fun K hK => ?_) ?_
      ·go_simp
       replace Z : Hid (At3 ((W0.alloc (.cells #[.int .i64 0, .int .i64 0, .slice none 0 0] 28)).alloc (.cells #[] 78)).drew (W0.heap.size) (.int .i64 0) (.int .i64 0) (.slice none 0 0)) := Lib.hid (Z.out.alloc (.cells #[] 78))
       have O : Hid (OwnAV W0.heap.size ((W0.alloc (.cells #[.int .i64 0, .int .i64 0, .slice none 0 0] 28)).alloc (.cells #[] 78)).drew (.slice (some ⟨W0.heap.size + 1, 0, none⟩) 0 0) 0 []) := Lib.hid (own_at (W0.alloc (.cells #[.int .i64 0, .int .i64 0, .slice none 0 0] 28)) (by simp) (by simp))
       replace KB : Hid (Below W0.heap.size W0 ((W0.alloc (.cells #[.int .i64 0, .int .i64 0, .slice none 0 0] 28)).alloc (.cells #[] 78)).drew) := Lib.hid (KB.out.alloc KB.out.size (.cells #[] 78))
       refine hK.out _ _ ?_ (fun hHeld => ?_)
       ·with_reducible exact SH.out _ KB.out
       clear hK K
       try simp only [Act.put, List.setIfInBounds_toArray, List.set_cons_zero, List.set_cons_succ]
       refine wpAnyH_ready (rs := [8]) (by kernel_rfl) (by simp) ?_
       refine AllReadyH.cons (o := { dst := some 30, op := Op.call { callee := Callee.builtin Builtin.append, args := #[Operand.tmp 27, Operand.tmp 29], argTypes := #[26, 26] }, type := 26, pos := "l03_normal.go:336", after := #[{ on := 5, ground := Ground.data }, { on := 7, ground := Ground.data }], guard := none }) rfl (fun K hK => ?_) ?_
       ·refine step_append_rows_at rfl _ _ 26 rfl W0.heap.size i0 Try.underlying26 hi hi0 hi1 hi2 _ _ _ rfl O.out _ _ _ rs rfl (Rd.out.below KB.out) (by omega) KB.out.size ?_
        intro v' w5 ho' hg hv
        have hg2 : World.grownBy _ w5 (some (W0.heap.size + 1)) := hg
        replace Z := Lib.hid (Z.out.heap hg2.size (hg2.block _ Z.out.1 (fun e => by have e2 := Option.some.inj e; simp at e2)))
        clear hg2
        replace KB := Lib.hid (below_ownA KB.out KB.out.size (Nat.le_refl _) O.out hg)
        obtain ⟨a5, c5, rfl, ho5⟩ := ho'.form
        rw [List.nil_append, Nat.zero_add] at ho5
        have P := Lib.hid ho5
        have PAP : Hid (n = 0 ∨ ∀ x, a5 = some x → x.block ≠ W0.heap.size) := Lib.hid (.inr fun x hx => by have hv2 : (Value.slice a5 (0 + n) c5).ownBlock = some (W0.heap.size + 1) ∨ (Value.slice a5 (0 + n) c5).ownBlock = some (((W0.alloc (.cells #[.int .i64 0, .int .i64 0, .slice none 0 0] 28)).alloc (.cells #[] 78)).drew).heap.size := hv; clear hv hg hHeld; subst hx; rcases hv2 with h | h <;> simp [Value.ownBlock] at h <;> omega)
        clear ho' hg hv ho5 O
        refine hK.out _ _ ?_ (fun hHeld => ?_)
        ·with_reducible exact SH.out _ KB.out
        clear hK K
        try simp only [Act.put, List.setIfInBounds_toArray, List.set_cons_zero, List.set_cons_succ]
        refine wpAnyH_take (i := 9) (oi := { dst := some 31, op := Op.build 28 #[(0, Operand.tmp 23), (1, Operand.tmp 26), (2, Operand.tmp 30)], type := 28, pos := "l03_normal.go:336", after := #[{ on := 1, ground := Ground.data }, { on := 4, ground := Ground.data }, { on := 8, ground := Ground.data }], guard := none }) (v := ?_) rfl (by kernel_rfl) (by kernel_rfl) (by kernel_rfl) (fun _ _ _ h => h) (Or.inl ⟨by rfl, ?_⟩) (by assumption) ?_
        rotate_left
        ·intro w hSw
         (try dsimp only at hSw)
         go_simp
         try with_reducible rfl
        try simp only [Act.put, List.setIfInBounds_toArray, List.set_cons_zero, List.set_cons_succ]
        refine wpAnyH_ready (rs := [11]) (by kernel_rfl) (by simp) ?_
        refine AllReadyH.cons (o := { dst := none, op := Op.store 28 (Operand.tmp 6) (Operand.tmp 31), type := 0, pos := "l03_normal.go:336", after := #[{ on := 10, ground := Ground.data }, { on := 9, ground := Ground.data }, { on := 8, ground := Ground.chain }, { on := 0, ground := Ground.phase }, { on := 1, ground := Ground.phase }, { on := 2, ground := Ground.phase }, { on := 3, ground := Ground.phase }, { on := 4, ground := Ground.phase }, { on := 5, ground := Ground.phase }, { on := 6, ground := Ground.phase }, { on := 7, ground := Ground.phase }, { on := 8, ground := Ground.phase }, { on := 9, ground := Ground.phase }, { on := 10, ground := Ground.phase }], guard := none }) rfl (fun K hK => ?_) ?_
        ·obtain ⟨y0, ⟨y1, y2, y3⟩, y4, y5, y6⟩ := Z.out
         skip
         go_simp
         clear y0 y1 y2 y3 y4 y5 y6
         replace Z := Lib.hid (Z.out.fill (.int .i64 m) (.int .i64 (if 0 < p then p else 0)) (.slice a5 n c5))
         have PS := Lib.hid (P.out.toS.past3 PAP.out (.int .i64 m) (.int .i64 (if 0 < p then p else 0)) (.slice a5 n c5))
         replace KB := Lib.hid (below_set3 KB.out zG.out (.int .i64 m) (.int .i64 (if 0 < p then p else 0)) (.slice a5 n c5))
         obtain ⟨V9, hV9⟩ : ∃ V, V = (((w5.setCell ⟨W0.heap.size, 0, none⟩ (.int .i64 m)).setCell ⟨W0.heap.size, 1, none⟩ (.int .i64 (if 0 < p then p else 0))).setCell ⟨W0.heap.size, 2, none⟩ (.slice a5 n c5)) := ⟨_, rfl⟩
         rw [← hV9] at Z PS KB ⊢
         clear hV9 P
         refine hK.out _ _ ?_ (fun hHeld => ?_)
         ·with_reducible exact SH.out _ KB.out
         clear hK K
         try simp only [Act.put, List.setIfInBounds_toArray, List.set_cons_zero, List.set_cons_succ]
         refine wpAnyH_done (by kernel_rfl) ?_ _
         go_wp2_with fail
         go_meet
         exact ⟨_, _, _, rfl, zG.out, (by have h := Z.out; rw [if_neg (show ¬ 0 < p by omega)] at h; exact h), PS.out, KB.out⟩
        exact AllReadyH.nil
       exact AllReadyH.nil
      exact AllReadyH.nil
     exact AllReadyH.nil
    case rest =>
     obtain ⟨v1, hwc⟩ : ∃ x, x = wc := ⟨_, rfl⟩; subst hwc
     obtain ⟨g, b, k, rfl, hg, hG, hO, hb⟩ := hcut
     have GB := Lib.hid hG
     have OB := Lib.hid hO
     replace LB := Lib.hid (LB.out.below hb)
     replace Z1 := Lib.hid (Z1.out.below hb)
     replace Z2 := Lib.hid (Z2.out.below hb)
     have z2 := HZ2.out
     have hv1 : W0.heap.size ≤ v1.heap.size := hb.size
     replace B := Lib.hid (below_go B.out hb B.out.size)
     have HGG := Lib.hid hg
     clear hG hO hb hg
     have hk9 : (negK p : Int) = 0 := by unfold negK; omega
     have hm9 : max p 0 = 0 := by omega
     have HK9 := Lib.hid hk9
     have HM9 := Lib.hid hm9
     clear hk9 hm9
     obtain ⟨l0, ⟨l1, l2, l3⟩, l4, l5, l6⟩ := LB.out
     obtain ⟨g0, ⟨g1, g2, g3⟩, g4, g5, g6⟩ := GB.out
     have HT1 : Hid ((traF m p rs 0).2.1 = (0, [])) := Lib.hid (by show ((negK p : Int) - ((0 : Nat) : Int), fracA m (negK p) rs 0) = _; rw [HK9.out]; simp [fracA, invL, turns])
     have HT2 : Hid ((traF m p rs 0).2.2 = (0, rs)) := Lib.hid (by show (max p 0, rs.drop 0) = _; rw [HM9.out, List.drop_zero])
     have HTR := Lib.hid (traF_ok m1 m8 HN.out ⟨p1, p2⟩ (by rw [HL.out]; exact hlen))
     obtain ⟨tr, htr⟩ : ∃ tr, tr = traF m p rs := ⟨_, rfl⟩
     rw [← htr] at HT1 HT2 HTR
     have HTT := Lib.hid htr
     obtain ⟨N, hN⟩ : ∃ N, N = endF p rs := ⟨_, rfl⟩
     rw [← hN] at HTR
     have HNN := Lib.hid hN
     clear htr hN
     go_wp2_with fail
     refine (l03Common_any m m1 m8 tr N HTR.out 0 0 none b 0 n 0 k [] rs _ ReadsA.zero OB.out.reads HT1.out HT2.out).mono ?_
     rintro e v2 ⟨b1, n1, k1, b2, n2, k2, b3, n3, k3, rfl, ho, hpa, hpb, hb⟩
     clear l0 l1 l2 l3 l4 l5 l6 g0 g1 g2 g3 g4 g5 g6
     have QA := Lib.hid hpa
     have QB := Lib.hid hpb
     replace OB := Lib.hid (OB.out.below hb)
     replace Z1 := Lib.hid (Z1.out.below hb)
     replace Z2 := Lib.hid (Z2.out.below hb)
     have hv2 := hb.size
     replace B := Lib.hid (below_go B.out hb B.out.size)
     clear hb hpa hpb ho LB GB
     have SA : Hid (OwnS v1.heap.size v2 b2 n2 (tr N).2.1.2) := Lib.hid (by
      rcases QA.out.own with h | ⟨h1, h2⟩
      ·exact h
      ·have hl := QA.out.rd.len
       rw [h2] at hl
       have := List.eq_nil_of_length_eq_zero hl
       rw [this, h2, h1]
       exact OwnS.nil _ _ _)
     have SB : Hid (OwnS W0.heap.size v2 b3 n3 (tr N).2.2.2) := Lib.hid (by
      rcases QB.out.own with h | ⟨h1, h2⟩
      ·exact h.mono hv1
      ·subst h1
       subst h2
       exact OB.out.same QB.out.rd)
     clear QA QB OB
     have hnA := SA.out.len
     have hnB := SB.out.len
     have HTR9 := Lib.hid (⟨(HTR.out.bd N (Nat.le_refl _)).2.1.1, (HTR.out.bd N (Nat.le_refl _)).2.2.1⟩ : _ ∧ _)
     clear HT1 HT2 HTR HK9 HM9
     have G7 := Lib.hid (((At3.place v2 (.int .i64 0) (.int .i64 0) (.slice none 0 0) 28 v2.heap.size rfl).alloc (.cells #[.int .i64 0, .int .i64 0, .slice none 0 0] 28)).alloc (.cells #[.int .i64 0, .int .i64 0, .slice none 0 0] 28))
     have G8 := Lib.hid ((At3.place (v2.alloc (.cells #[.int .i64 0, .int .i64 0, .slice none 0 0] 28)) (.int .i64 0) (.int .i64 0) (.slice none 0 0) 28 (v2.heap.size + 1) (by simp)).alloc (.cells #[.int .i64 0, .int .i64 0, .slice none 0 0] 28))
     have G9 := Lib.hid (At3.place ((v2.alloc (.cells #[.int .i64 0, .int .i64 0, .slice none 0 0] 28)).alloc (.cells #[.int .i64 0, .int .i64 0, .slice none 0 0] 28)) (.int .i64 0) (.int .i64 0) (.slice none 0 0) 28 (v2.heap.size + 1 + 1) (by simp))
     obtain ⟨x0, ⟨x1', x2', x3⟩, y1, y2, y3⟩ := G7.out
     obtain ⟨u0, ⟨u1, u2, u3⟩, t1, t2, t3⟩ := G8.out
     obtain ⟨s0, ⟨s1, s2, s3⟩, r1, r2, r3⟩ := G9.out
     go_upto_region 6 with fail
     clear x0 x1' x2' x3 y1 y2 y3 u0 u1 u2 u3 t1 t2 t3 s0 s1 s2 s3 r1 r2 r3 G7 G8 G9
     have G8 := Lib.hid ((At3.place (v2.alloc (.cells #[.int .i64 m, .int .i64 ((tr N).1.1), .slice b1 n1 k1] 28)) (.int .i64 m) (.int .i64 (tr N).2.1.1) (.slice b2 n2 k2) 28 (v2.heap.size + 1) (by simp)).alloc (.cells #[.int .i64 m, .int .i64 ((tr N).2.2.1), .slice b3 n3 k3] 28))
     have G9 := Lib.hid (At3.place ((v2.alloc (.cells #[.int .i64 m, .int .i64 ((tr N).1.1), .slice b1 n1 k1] 28)).alloc (.cells #[.int .i64 m, .int .i64 ((tr N).2.1.1), .slice b2 n2 k2] 28)) (.int .i64 m) (.int .i64 (tr N).2.2.1) (.slice b3 n3 k3) 28 (v2.heap.size + 1 + 1) (by simp))
     replace Z1 := Lib.hid (((Z1.out.alloc (.cells #[.int .i64 m, .int .i64 ((tr N).1.1), .slice b1 n1 k1] 28)).alloc (.cells #[.int .i64 m, .int .i64 ((tr N).2.1.1), .slice b2 n2 k2] 28)).alloc (.cells #[.int .i64 m, .int .i64 ((tr N).2.2.1), .slice b3 n3 k3] 28))
     replace Z2 := Lib.hid (((Z2.out.alloc (.cells #[.int .i64 m, .int .i64 ((tr N).1.1), .slice b1 n1 k1] 28)).alloc (.cells #[.int .i64 m, .int .i64 ((tr N).2.1.1), .slice b2 n2 k2] 28)).alloc (.cells #[.int .i64 m, .int .i64 ((tr N).2.2.1), .slice b3 n3 k3] 28))
     replace SA := Lib.hid (((SA.out.alloc (.cells #[.int .i64 m, .int .i64 ((tr N).1.1), .slice b1 n1 k1] 28)).alloc (.cells #[.int .i64 m, .int .i64 ((tr N).2.1.1), .slice b2 n2 k2] 28)).alloc (.cells #[.int .i64 m, .int .i64 ((tr N).2.2.1), .slice b3 n3 k3] 28))
     replace SB := Lib.hid (((SB.out.alloc (.cells #[.int .i64 m, .int .i64 ((tr N).1.1), .slice b1 n1 k1] 28)).alloc (.cells #[.int .i64 m, .int .i64 ((tr N).2.1.1), .slice b2 n2 k2] 28)).alloc (.cells #[.int .i64 m, .int .i64 ((tr N).2.2.1), .slice b3 n3 k3] 28))
     replace B := Lib.hid (((B.out.alloc B.out.size (.cells #[.int .i64 m, .int .i64 ((tr N).1.1), .slice b1 n1 k1] 28)).alloc (by have := B.out.size; simp; omega) (.cells #[.int .i64 m, .int .i64 ((tr N).2.1.1), .slice b2 n2 k2] 28)).alloc (by have := B.out.size; simp; omega) (.cells #[.int .i64 m, .int .i64 ((tr N).2.2.1), .slice b3 n3 k3] 28))
     obtain ⟨U6, hU6⟩ : ∃ U, U = (((v2.alloc (.cells #[.int .i64 m, .int .i64 ((tr N).1.1), .slice b1 n1 k1] 28)).alloc (.cells #[.int .i64 m, .int .i64 ((tr N).2.1.1), .slice b2 n2 k2] 28)).alloc (.cells #[.int .i64 m, .int .i64 ((tr N).2.2.1), .slice b3 n3 k3] 28)) := ⟨_, rfl⟩
     rw [← hU6] at G8 G9 Z1 Z2 SA SB B ⊢
     have hzU : v2.heap.size + 1 + 1 + 1 = U6.heap.size := by rw [hU6]; simp
     clear hU6
     have hnA2 : n2 ≤ 1048576 := by have h1 := SA.out.len; have h2 := (HTR9.out).1; omega
     have hnB2 : n3 ≤ 1048576 := by have h1 := SB.out.len; have h2 := (HTR9.out).2; omega
     clear hnA hnB
     have hnA := hnA2
     have hnB := hnB2
     clear hnA2 hnB2
     have hszW : w.heap.size + 1 + 1 + 1 ≤ v1.heap.size := by omega
     have hszV : v1.heap.size ≤ v2.heap.size := by omega
     replace G8 := Lib.hid (G8.out.drew)
     replace G9 := Lib.hid (G9.out.drew)
     replace Z1 := Lib.hid (Z1.out.drew)
     replace Z2 := Lib.hid (Z2.out.drew)
     replace SA := Lib.hid (SA.out.below (Below.refl U6.heap.size U6).drew)
     replace SB := Lib.hid (SB.out.below (Below.refl U6.heap.size U6).drew)
     replace B := Lib.hid (B.out.drew)
     refine wp_region_held_drew (S := (fun w' => (w'.cell? ⟨v2.heap.size + 1, 0, none⟩ = some (.int .i64 m) ∧ w'.cell? ⟨v2.heap.size + 1, 1, none⟩ = some (.int .i64 ((tr N).2.1.1)) ∧ w'.cell? ⟨v2.heap.size + 1, 2, none⟩ = some (.slice b2 n2 k2)) ∧ (w'.cell? ⟨v2.heap.size + 1 + 1, 0, none⟩ = some (.int .i64 m) ∧ w'.cell? ⟨v2.heap.size + 1 + 1, 1, none⟩ = some (.int .i64 ((tr N).2.2.1)) ∧ w'.cell? ⟨v2.heap.size + 1 + 1, 2, none⟩ = some (.slice b3 n3 k3)))) (by kernel_rfl) ?_ (fun hHeld => ?_)
     ·with_reducible exact ⟨G8.out.cells, G9.out.cells⟩
     obtain ⟨U7, hU7⟩ : ∃ U, U = U6.drew := ⟨_, rfl⟩
     rw [← hU7] at G8 G9 Z1 Z2 SA SB B ⊢
     clear hU7 hHeld
     have hHeld : (U7.cell? ⟨v2.heap.size + 1, 0, none⟩ = some (.int .i64 m) ∧ U7.cell? ⟨v2.heap.size + 1, 1, none⟩ = some (.int .i64 ((tr N).2.1.1)) ∧ U7.cell? ⟨v2.heap.size + 1, 2, none⟩ = some (.slice b2 n2 k2)) ∧ (U7.cell? ⟨v2.heap.size + 1 + 1, 0, none⟩ = some (.int .i64 m) ∧ U7.cell? ⟨v2.heap.size + 1 + 1, 1, none⟩ = some (.int .i64 ((tr N).2.2.1)) ∧ U7.cell? ⟨v2.heap.size + 1 + 1, 2, none⟩ = some (.slice b3 n3 k3)) := ⟨G8.out.cells, G9.out.cells⟩
     refine wpAnyH_take (i := 0) (oi := { dst := some 39, op := Op.load 28 (Operand.tmp 8), type := 28, pos := "l03_normal.go:338", after := #[], guard := none }) (v := ?_) rfl (by kernel_rfl) (by kernel_rfl) (by kernel_rfl) (fun _ _ _ h => h) (Or.inl ⟨by rfl, ?_⟩) (by assumption) ?_
     rotate_left
     ·intro w hSw
      (try dsimp only at hSw)
      go_simp
      try with_reducible rfl
     try simp only [Act.put, List.setIfInBounds_toArray, List.set_cons_zero, List.set_cons_succ]
     refine wpAnyH_take (i := 1) (oi := { dst := some 40, op := Op.load 28 (Operand.tmp 9), type := 28, pos := "l03_normal.go:338", after := #[{ on := 2, ground := Ground.gcOnly Departure.lateStores }], guard := none }) (v := ?_) rfl (by kernel_rfl) (by kernel_rfl) (by kernel_rfl) (fun _ _ _ h => h) (Or.inl ⟨by rfl, ?_⟩) (by assumption) ?_
     rotate_left
     ·intro w hSw
      (try dsimp only at hSw)
      go_simp
      try with_reducible rfl
     try simp only [Act.put, List.setIfInBounds_toArray, List.set_cons_zero, List.set_cons_succ]
     refine wpAnyH_ready (rs := [2]) (by kernel_rfl) (by simp) ?_
     refine AllReadyH.cons (o := { dst := none, op := Op.store 28 (Operand.tmp 2) (Operand.tmp 39), type := 0, pos := "l03_normal.go:338", after := #[{ on := 0, ground := Ground.data }, { on := 0, ground := Ground.phase }, { on := 1, ground := Ground.textOnly Departure.lateStores }], guard := none }) rfl (fun K hK => ?_) ?_
     ·obtain ⟨z0, ⟨z1, z2, z3⟩, z4, z5, z6⟩ := Z1.out
      go_simp
      clear z0 z1 z2 z3 z4 z5 z6
      replace G8 := Lib.hid (G8.out.set3 (g2 := w.heap.size + 1) (by omega) (.int .i64 m) (.int .i64 (tr N).2.1.1) (.slice b2 n2 k2))
      replace G9 := Lib.hid (G9.out.set3 (g2 := w.heap.size + 1) (by omega) (.int .i64 m) (.int .i64 (tr N).2.1.1) (.slice b2 n2 k2))
      replace Z1 := Lib.hid (Z1.out.fill (.int .i64 m) (.int .i64 (tr N).2.1.1) (.slice b2 n2 k2))
      replace Z2 := Lib.hid (Z2.out.set3 (g2 := w.heap.size + 1) (by omega) (.int .i64 m) (.int .i64 (tr N).2.1.1) (.slice b2 n2 k2))
      replace SA := Lib.hid (SA.out.set3 (g2 := w.heap.size + 1) (by omega) (.int .i64 m) (.int .i64 (tr N).2.1.1) (.slice b2 n2 k2))
      replace SB := Lib.hid (SB.out.set3 (g2 := w.heap.size + 1) (by omega) (.int .i64 m) (.int .i64 (tr N).2.1.1) (.slice b2 n2 k2))
      replace B := Lib.hid (below_set3 (g2 := w.heap.size + 1) B.out (by omega) (.int .i64 m) (.int .i64 (tr N).2.1.1) (.slice b2 n2 k2))
      obtain ⟨U8, hU8⟩ : ∃ U, U = (((U7.setCell ⟨w.heap.size + 1, 0, none⟩ (.int .i64 m)).setCell ⟨w.heap.size + 1, 1, none⟩ (.int .i64 (tr N).2.1.1)).setCell ⟨w.heap.size + 1, 2, none⟩ (.slice b2 n2 k2)) := ⟨_, rfl⟩
      rw [← hU8] at G8 G9 Z1 Z2 SA SB B ⊢
      clear hU8
      refine hK.out _ _ ?_ (fun hHeld => ?_)
      ·with_reducible exact ⟨G8.out.cells, G9.out.cells⟩
      clear hK K
      try simp only [Act.put, List.setIfInBounds_toArray, List.set_cons_zero, List.set_cons_succ]
      refine wpAnyH_ready (rs := [3]) (by kernel_rfl) (by simp) ?_
      refine AllReadyH.cons (o := { dst := none, op := Op.store 28 (Operand.tmp 3) (Operand.tmp 40), type := 0, pos := "l03_normal.go:338", after := #[{ on := 1, ground := Ground.data }, { on := 2, ground := Ground.chain }, { on := 0, ground := Ground.phase }, { on := 1, ground := Ground.phase }, { on := 2, ground := Ground.phase }], guard := none }) rfl (fun K hK => ?_) ?_
      ·obtain ⟨z0, ⟨z1, z2, z3⟩, z4, z5, z6⟩ := Z2.out
       go_simp
       clear z0 z1 z2 z3 z4 z5 z6
       replace G8 := Lib.hid (G8.out.set3 (g2 := w.heap.size + 1 + 1) (by omega) (.int .i64 m) (.int .i64 (tr N).2.2.1) (.slice b3 n3 k3))
       replace G9 := Lib.hid (G9.out.set3 (g2 := w.heap.size + 1 + 1) (by omega) (.int .i64 m) (.int .i64 (tr N).2.2.1) (.slice b3 n3 k3))
       replace Z1 := Lib.hid (Z1.out.set3 (g2 := w.heap.size + 1 + 1) (by omega) (.int .i64 m) (.int .i64 (tr N).2.2.1) (.slice b3 n3 k3))
       replace Z2 := Lib.hid (Z2.out.fill (.int .i64 m) (.int .i64 (tr N).2.2.1) (.slice b3 n3 k3))
       replace SA := Lib.hid (SA.out.set3 (g2 := w.heap.size + 1 + 1) (by omega) (.int .i64 m) (.int .i64 (tr N).2.2.1) (.slice b3 n3 k3))
       replace SB := Lib.hid (SB.out.set3 (g2 := w.heap.size + 1 + 1) (by omega) (.int .i64 m) (.int .i64 (tr N).2.2.1) (.slice b3 n3 k3))
       replace B := Lib.hid (below_set3 (g2 := w.heap.size + 1 + 1) B.out (by omega) (.int .i64 m) (.int .i64 (tr N).2.2.1) (.slice b3 n3 k3))
       obtain ⟨U9, hU9⟩ : ∃ U, U = (((U8.setCell ⟨w.heap.size + 1 + 1, 0, none⟩ (.int .i64 m)).setCell ⟨w.heap.size + 1 + 1, 1, none⟩ (.int .i64 (tr N).2.2.1)).setCell ⟨w.heap.size + 1 + 1, 2, none⟩ (.slice b3 n3 k3)) := ⟨_, rfl⟩
       rw [← hU9] at G8 G9 Z1 Z2 SA SB B ⊢
       clear hU9
       refine hK.out _ _ ?_ (fun hHeld => ?_)
       ·with_reducible exact ⟨G8.out.cells, G9.out.cells⟩
       clear hK K
       try simp only [Act.put, List.setIfInBounds_toArray, List.set_cons_zero, List.set_cons_succ]
       refine wpAnyH_ready (rs := [4]) (by kernel_rfl) (by simp) ?_
       refine AllReadyH.cons (o := { dst := some 4, op := Op.assign (Operand.const (Value.int IntKind.i64 0)), type := 2, pos := "l03_normal.go:338", after := #[{ on := 3, ground := Ground.chain }, { on := 0, ground := Ground.phase }, { on := 1, ground := Ground.phase }, { on := 2, ground := Ground.phase }, { on := 3, ground := Ground.phase }], guard := none }) rfl (fun K hK => ?_) ?_
       ·go_simp
        refine hK.out _ _ ?_ (fun hHeld => ?_)
        ·with_reducible exact ⟨G8.out.cells, G9.out.cells⟩
        clear hK K
        try simp only [Act.put, List.setIfInBounds_toArray, List.set_cons_zero, List.set_cons_succ]
        refine wpAnyH_done (by kernel_rfl) ?_ _
        go_wp2
        try rw [Exit.noGoto_ret]
        have e1 : mFra (m : Int) p rs = (((m : Int), (tr N).2.1.1, (tr N).2.1.2), ((m : Int), (tr N).2.2.1, (tr N).2.2.2), 0) := by unfold mFra; rw [hB, HTT.out, HNN.out]; simp [traF]
        rw [e1]
        obtain ⟨e1, e2, e3⟩ := Z1.out.cells
        obtain ⟨f1, f2, f3⟩ := Z2.out.cells
        exact bodyPost_ret (v := .tuple #[.agg #[.int .i64 m, .int .i64 (tr N).2.1.1, .slice b2 n2 k2], .agg #[.int .i64 m, .int .i64 (tr N).2.2.1, .slice b3 n3 k3], .int .i64 0]) (by simp [results, Try.results33, go_sem, e1, e2, e3, f1, f2, f3]) rfl ⟨b2, n2, k2, b3, n3, k3, rfl, hnA, hnB, SA.out.mono (by omega), SB.out.mono (by omega), B.out⟩
       exact AllReadyH.nil
      exact AllReadyH.nil
     exact AllReadyH.nil
 | false =>
  have hM : mFra s p rs = ((0, 0, []), (0, 0, []), 1) := by unfold mFra; rw [hB]; rfl
  rw [hM]
  go_enter Try.func33, Try.ntmps33
  go_wp2_with fail
  refine (l03Is_any s p a n cap rs _ (HR.out.below B.out) HY.out hn).mono ?_
  rw [hB]
  rintro e w1 ⟨rfl, hb⟩
  have hz1 : w.heap.size + 1 + 1 + 1 ≤ w1.heap.size := by have := hb.size; simp at this; omega
  replace Z1 := Lib.hid (Z1.out.below hb)
  replace Z2 := Lib.hid (Z2.out.below hb)
  replace B := Lib.hid (below_go B.out hb B.out.size)
  clear hb
  obtain ⟨x0, ⟨x1, x2, x3⟩, y1, y2, y3⟩ := Z1.out
  obtain ⟨u0, ⟨u1, u2, u3⟩, v1, v2, v3⟩ := Z2.out
  go_wp2
  try rw [Exit.noGoto_ret]
  obtain ⟨e1, e2, e3⟩ := ((Z1.out.fill (.int .i64 0) (.int .i64 0) (.slice none 0 0)).set3 (g2 := w.heap.size + 1 + 1) (by omega) (.int .i64 0) (.int .i64 0) (.slice none 0 0)).cells
  obtain ⟨f1, f2, f3⟩ := ((Z2.out.set3 (g2 := w.heap.size + 1) (by omega) (.int .i64 0) (.int .i64 0) (.slice none 0 0)).fill (.int .i64 0) (.int .i64 0) (.slice none 0 0)).cells
  exact bodyPost_ret (v := .tuple #[.agg #[.int .i64 0, .int .i64 0, .slice none 0 0], .agg #[.int .i64 0, .int .i64 0, .slice none 0 0], .int .i64 1]) (by simp [results, Try.results33, go_sem, e1, e2, e3, f1, f2, f3]) rfl ⟨none, 0, 0, none, 0, 0, rfl, by omega, by omega, OwnS.nil _ _ _, OwnS.nil _ _ _, below_set3 (below_set3 B.out (by omega) _ _ _) (by omega) _ _ _⟩

end Go.Proofs.Ythpmehhfhngnbaa

