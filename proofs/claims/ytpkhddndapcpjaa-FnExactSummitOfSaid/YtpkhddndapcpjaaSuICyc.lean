/- The program: cycling. -/
import Derived.Test.YtpkhddndapcpjaaSuNConj
import Derived.Test.YtpkhddndapcpjaaSuCycP
namespace Go.Proofs.Ytpkhddndapcpjaa
open Go.RowKit Go.ChangeShapes

theorem ReadsA.tail {w : World} {b off n : Nat} {l : List (List Int)} (h : ReadsA w (some ⟨b, off, none⟩) (n + 1) l) (c : Nat) (hc : n ≤ c) : ReadsA w (if c = 0 then some ⟨b, off, none⟩ else some ⟨b, off + 8, none⟩) n (l.drop 1) := by
 obtain ⟨h2, h1, h3⟩ := h
 refine ⟨by rw [List.length_drop, h2]; omega, fun r hr => h1 r (List.mem_of_mem_drop hr), ?_⟩
 by_cases hz : n = 0
 ·exact .inl hz
 ·rw [if_neg (by omega)]
  rcases h3 with h3 | ⟨b2, o2, ha, hcl⟩
  ·omega
  ·cases ha
   refine .inr ⟨b, off + 8, rfl, fun j hj i hi => ?_⟩
   have h4 := hcl (j + 1) (by omega) i hi
   rw [show off + (j + 1) * 8 + i = off + 8 + j * 8 + i by omega] at h4
   rw [h4]
   have e1 : rowAt (l.drop 1) j = rowAt l (j + 1) := by simp [rowAt, List.getD]
   rw [e1]

set_option maxRecDepth 100000 in
set_option maxHeartbeats 1000000 in
theorem clone_any (a : Option Addr) (n cap : Nat) (rs : List (List Int)) (w : World) (hr : ReadsA w a n rs) (hn : n ≤ 1048576) :
  Calls Try.prog 69 #[.slice a n cap] w fun e w' => ∃ b d, e = .returned (.slice b n d) ∧ OwnS w.heap.size w' b n rs ∧ Below w.heap.size w w' := by
 obtain ⟨i0, hi, hz0, hz1, hz2⟩ := info_parts infoSimple
 have R := Lib.hid hr
 have HL := Lib.hid hr.len
 clear hr
 go_enter Try.func69, Try.ntmps69
 cases a with
 | none =>
  have hn0 : n = 0 := by
   rcases R.out.2.2 with h | ⟨b, off, ha, _⟩
   ·exact h
   ·cases ha
  subst hn0
  have h0 : rs = [] := List.eq_nil_of_length_eq_zero HL.out
  have heq : ∀ W, Sem.run Try.prog (binOp BinOp.eql 26 (.slice none 0 cap) (.slice none 0 0)) W = .ok (.bool true) W := fun W => by kernel_rfl
  go_wp2
  go_ret
  exact ⟨_, _, rfl, by rw [h0]; exact OwnS.nil _ _ _, Below.refl _ _⟩
 | some ad =>
  have O := Lib.hid (OwnAV.empty w)
  have heq : ∀ W, Sem.run Try.prog (binOp BinOp.eql 26 (.slice (some ad) n cap) (.slice none 0 0)) W = .ok (.bool false) W := fun W => by kernel_rfl
  go_wp2_with (at_builtin; refine wpList_append_rows_at rfl _ _ 26 rfl w.heap.size i0 Try.underlying26 hi hz0 hz1 hz2 _ _ _ rfl O.out _ _ _ rs rfl (R.out.alloc _) (by omega) (by simp) ?_)
  intro v' w5 ho' hg hv
  have KB := below_ownA (below1 w (.cells #[] 53)) (by simp) (Nat.le_refl _) O.out hg
  obtain ⟨b, d, rfl, ho⟩ := ho'.form
  go_wp2
  go_ret
  exact ⟨b, d, rfl, ho.toS, KB⟩

set_option maxRecDepth 100000 in
set_option maxHeartbeats 1000000 in
theorem copied_any (m : Nat) (p : Int) (a : Option Addr) (n cap : Nat) (l : List (List Int)) (w : World) (hr : ReadsA w a n l) (hn : n ≤ 1048576) :
  Calls Try.prog 48 #[.agg #[.int .i64 m, .int .i64 p, .slice a n cap]] w fun e w' => ∃ b d, e = .returned (.agg #[.int .i64 m, .int .i64 p, .slice b n d]) ∧ OwnS w.heap.size w' b n l ∧ Below w.heap.size w w' := by
 have R := Lib.hid hr
 clear hr
 go_enter Try.func48, Try.ntmps48
 have A := Lib.hid ((At3.place w (.int .i64 m) (.int .i64 p) (.slice a n cap) 28 w.heap.size rfl).alloc (.cells #[.int .i64 0, .int .i64 0, .slice none 0 0] 28))
 have Z := Lib.hid (At3.place (w.alloc (.cells #[.int .i64 m, .int .i64 p, .slice a n cap] 28)) (.int .i64 0) (.int .i64 0) (.slice none 0 0) 28 (w.heap.size + 1) (by simp))
 have B := Lib.hid ((below1 w (.cells #[.int .i64 m, .int .i64 p, .slice a n cap] 28)).alloc (by simp) (.cells #[.int .i64 0, .int .i64 0, .slice none 0 0] 28))
 replace R := Lib.hid ((R.out.alloc (.cells #[.int .i64 m, .int .i64 p, .slice a n cap] 28)).alloc (.cells #[.int .i64 0, .int .i64 0, .slice none 0 0] 28))
 have zz : Hid (((w.alloc (.cells #[.int .i64 m, .int .i64 p, .slice a n cap] 28)).alloc (.cells #[.int .i64 0, .int .i64 0, .slice none 0 0] 28)).heap.size = w.heap.size + 1 + 1) := Lib.hid (by simp)
 go_upto_region 1 with fail
 obtain ⟨W0, hW0⟩ : ∃ W0, W0 = ((w.alloc (.cells #[.int .i64 m, .int .i64 p, .slice a n cap] 28)).alloc (.cells #[.int .i64 0, .int .i64 0, .slice none 0 0] 28)) := ⟨_, rfl⟩
 rw [← hW0] at A Z B R zz ⊢
 clear hW0
 have KB : Hid (Below W0.heap.size W0 W0.drew) := Lib.hid (Below.refl W0.heap.size W0).drew
 have SH : Hid (∀ W, Below W0.heap.size W0 W → W.cell? ⟨w.heap.size, 0, none⟩ = some (.int .i64 m) ∧ W.cell? ⟨w.heap.size, 1, none⟩ = some (.int .i64 p) ∧ W.cell? ⟨w.heap.size, 2, none⟩ = some (.slice a n cap)) := Lib.hid fun W h => (A.out.below h).all
 have SZ : Hid (∀ W, Below W0.heap.size W0 W → ∀ u v x, (((W.setCell ⟨w.heap.size + 1, 0, none⟩ u).setCell ⟨w.heap.size + 1, 1, none⟩ v).setCell ⟨w.heap.size + 1, 2, none⟩ x).cell? ⟨w.heap.size, 0, none⟩ = some (.int .i64 m) ∧ (((W.setCell ⟨w.heap.size + 1, 0, none⟩ u).setCell ⟨w.heap.size + 1, 1, none⟩ v).setCell ⟨w.heap.size + 1, 2, none⟩ x).cell? ⟨w.heap.size, 1, none⟩ = some (.int .i64 p) ∧ (((W.setCell ⟨w.heap.size + 1, 0, none⟩ u).setCell ⟨w.heap.size + 1, 1, none⟩ v).setCell ⟨w.heap.size + 1, 2, none⟩ x).cell? ⟨w.heap.size, 2, none⟩ = some (.slice a n cap)) := Lib.hid fun W h u v x => ((A.out.below h).set3 (g2 := w.heap.size + 1) (by omega) u v x).all
 refine wp_region_held_drew (S := (fun w' => w'.cell? ⟨w.heap.size, 0, none⟩ = some (.int .i64 m) ∧ w'.cell? ⟨w.heap.size, 1, none⟩ = some (.int .i64 p) ∧ w'.cell? ⟨w.heap.size, 2, none⟩ = some (.slice a n cap))) (by kernel_rfl) ?_ (fun hHeld => ?_)
 ·first | with_reducible exact SH.out _ KB.out | with_reducible exact SZ.out _ KB.out _ _ _
 refine wpAnyH_take (i := 0) (oi := { dst := some 3, op := Op.fieldAddr 28 (Operand.tmp 1) 0, type := 0, pos := "l04_conjugacy.go:19", after := #[], guard := none }) (v := ?_) rfl (by kernel_rfl) (by kernel_rfl) (by kernel_rfl) (fun _ _ _ h => h) (Or.inl ⟨by rfl, ?_⟩) (by assumption) ?_
 rotate_left
 ·intro w hSw
  (try dsimp only at hSw)
  go_simp
  try with_reducible rfl
 try simp only [Act.put, List.setIfInBounds_toArray, List.set_cons_zero, List.set_cons_succ]
 refine wpAnyH_take (i := 1) (oi := { dst := some 4, op := Op.load 2 (Operand.tmp 3), type := 2, pos := "l04_conjugacy.go:19", after := #[{ on := 0, ground := Ground.data }], guard := none }) (v := ?_) rfl (by kernel_rfl) (by kernel_rfl) (by kernel_rfl) (fun _ _ _ h => h) (Or.inl ⟨by rfl, ?_⟩) (by assumption) ?_
 rotate_left
 ·intro w hSw
  (try dsimp only at hSw)
  go_simp
  try with_reducible rfl
 try simp only [Act.put, List.setIfInBounds_toArray, List.set_cons_zero, List.set_cons_succ]
 refine wpAnyH_take (i := 2) (oi := { dst := some 5, op := Op.fieldAddr 28 (Operand.tmp 1) 1, type := 0, pos := "l04_conjugacy.go:19", after := #[], guard := none }) (v := ?_) rfl (by kernel_rfl) (by kernel_rfl) (by kernel_rfl) (fun _ _ _ h => h) (Or.inl ⟨by rfl, ?_⟩) (by assumption) ?_
 rotate_left
 ·intro w hSw
  (try dsimp only at hSw)
  go_simp
  try with_reducible rfl
 try simp only [Act.put, List.setIfInBounds_toArray, List.set_cons_zero, List.set_cons_succ]
 refine wpAnyH_take (i := 3) (oi := { dst := some 6, op := Op.load 2 (Operand.tmp 5), type := 2, pos := "l04_conjugacy.go:19", after := #[{ on := 2, ground := Ground.data }], guard := none }) (v := ?_) rfl (by kernel_rfl) (by kernel_rfl) (by kernel_rfl) (fun _ _ _ h => h) (Or.inl ⟨by rfl, ?_⟩) (by assumption) ?_
 rotate_left
 ·intro w hSw
  (try dsimp only at hSw)
  go_simp
  try with_reducible rfl
 try simp only [Act.put, List.setIfInBounds_toArray, List.set_cons_zero, List.set_cons_succ]
 refine wpAnyH_take (i := 4) (oi := { dst := some 7, op := Op.fieldAddr 28 (Operand.tmp 1) 2, type := 0, pos := "l04_conjugacy.go:19", after := #[], guard := none }) (v := ?_) rfl (by kernel_rfl) (by kernel_rfl) (by kernel_rfl) (fun _ _ _ h => h) (Or.inl ⟨by rfl, ?_⟩) (by assumption) ?_
 rotate_left
 ·intro w hSw
  (try dsimp only at hSw)
  go_simp
  try with_reducible rfl
 try simp only [Act.put, List.setIfInBounds_toArray, List.set_cons_zero, List.set_cons_succ]
 refine wpAnyH_take (i := 5) (oi := { dst := some 8, op := Op.load 26 (Operand.tmp 7), type := 26, pos := "l04_conjugacy.go:19", after := #[{ on := 4, ground := Ground.data }], guard := none }) (v := ?_) rfl (by kernel_rfl) (by kernel_rfl) (by kernel_rfl) (fun _ _ _ h => h) (Or.inl ⟨by rfl, ?_⟩) (by assumption) ?_
 rotate_left
 ·intro w hSw
  (try dsimp only at hSw)
  go_simp
  try with_reducible rfl
 try simp only [Act.put, List.setIfInBounds_toArray, List.set_cons_zero, List.set_cons_succ]
 refine wpAnyH_ready (rs := [6]) (by kernel_rfl) (by simp) ?_
 refine AllReadyH.cons (o := { dst := some 9, op := Op.call { callee := Callee.value (Operand.func 69), args := #[Operand.tmp 8], argTypes := #[26] }, type := 26, pos := "l04_conjugacy.go:19", after := #[{ on := 5, ground := Ground.data }], guard := none }) rfl (fun K hK => ?_) ?_
 ·go_simp
  refine (clone_any a n cap l _ (R.out.below KB.out) hn).mono ?_
  rintro e w3 ⟨b, d, rfl, ho, gg⟩
  have O := Lib.hid (ho.mono KB.out.size)
  replace KB := Lib.hid (below_go KB.out gg KB.out.size)
  clear gg ho
  obtain ⟨x0, ⟨x1, x2, x3⟩, y1, y2, y3⟩ := Z.out.below KB.out
  go_wp2_with fail
  refine hK.out _ _ ?_ (fun hHeld => ?_)
  ·first | with_reducible exact SH.out _ KB.out | with_reducible exact SZ.out _ KB.out _ _ _
  clear hK K
  try simp only [Act.put, List.setIfInBounds_toArray, List.set_cons_zero, List.set_cons_succ]
  refine wpAnyH_ready (rs := [7]) (by kernel_rfl) (by simp) ?_
  refine AllReadyH.cons (o := { dst := some 10, op := Op.build 28 #[(0, Operand.tmp 4), (1, Operand.tmp 6), (2, Operand.tmp 9)], type := 28, pos := "l04_conjugacy.go:19", after := #[{ on := 1, ground := Ground.data }, { on := 3, ground := Ground.data }, { on := 6, ground := Ground.data }], guard := none }) rfl (fun K hK => ?_) ?_
  ·go_simp
   refine hK.out _ _ ?_ (fun hHeld => ?_)
   ·first | with_reducible exact SH.out _ KB.out | with_reducible exact SZ.out _ KB.out _ _ _
   clear hK K
   try simp only [Act.put, List.setIfInBounds_toArray, List.set_cons_zero, List.set_cons_succ]
   refine wpAnyH_ready (rs := [8]) (by kernel_rfl) (by simp) ?_
   refine AllReadyH.cons (o := { dst := none, op := Op.store 28 (Operand.tmp 2) (Operand.tmp 10), type := 0, pos := "l04_conjugacy.go:19", after := #[{ on := 7, ground := Ground.data }, { on := 6, ground := Ground.chain }, { on := 0, ground := Ground.phase }, { on := 1, ground := Ground.phase }, { on := 2, ground := Ground.phase }, { on := 3, ground := Ground.phase }, { on := 4, ground := Ground.phase }, { on := 5, ground := Ground.phase }, { on := 6, ground := Ground.phase }, { on := 7, ground := Ground.phase }], guard := none }) rfl (fun K hK => ?_) ?_
   ·go_simp
    refine hK.out _ _ ?_ (fun hHeld => ?_)
    ·first | with_reducible exact SH.out _ KB.out | with_reducible exact SZ.out _ KB.out _ _ _
    clear hK K
    try simp only [Act.put, List.setIfInBounds_toArray, List.set_cons_zero, List.set_cons_succ]
    refine wpAnyH_done (by kernel_rfl) ?_ _
    go_wp2_with fail
    try rw [Exit.noGoto_ret]
    obtain ⟨_, ⟨e1, e2, e3⟩, _⟩ := (Z.out.below KB.out).fill (.int .i64 m) (.int .i64 p) (.slice b n d)
    exact bodyPost_ret (v := .agg #[.int .i64 m, .int .i64 p, .slice b n d]) (by simp [results, Try.results48, go_sem, e1, e2, e3]) rfl ⟨b, d, rfl, (O.out.set3 (by have := zz.out; omega) _ _ _).mono (by have := zz.out; omega), below_set3 (below_go B.out KB.out (by have := zz.out; omega)) (by omega) _ _ _⟩
   exact AllReadyH.nil
  exact AllReadyH.nil
 exact AllReadyH.nil

set_option maxRecDepth 100000 in
set_option maxHeartbeats 1000000 in
theorem firstPart_any (m : Nat) (p : Int) (a : Option Addr) (n cap : Nat) (l : List (List Int)) (w : World) (hr : ReadsA w a n l) (hl : Sims m l) (h0 : 0 < n) (hn : n ≤ 1048576) :
  Calls Try.prog 71 #[.agg #[.int .i64 m, .int .i64 p, .slice a n cap]] w (RetArr .u8 w (turnK m p (rowAt l 0))) := by
 obtain ⟨row, hrow⟩ : ∃ row, row = rowAt l 0 := ⟨_, rfl⟩
 have SR : Hid (Sim m row) := Lib.hid (by rw [hrow]; exact hl _ (rowAt_getElem (by rw [hr.len]; exact h0)))
 obtain ⟨ba, off, rfl, hbl, hcl⟩ := hr.cells h0
 have hC : Cells8 w ba off row := by rw [hrow]; exact fun i hi => by have := hcl 0 h0 i hi; rw [Nat.zero_mul, Nat.add_zero] at this; exact this
 rw [← hrow]
 clear hrow hcl
 have HC := Lib.hid hC
 have HT8 := Lib.hid (turnK_sim p SR.out).len
 go_enter Try.func71, Try.ntmps71
 have A := Lib.hid ((At3.place w (.int .i64 m) (.int .i64 p) (.slice (some ⟨ba, off, none⟩) n cap) 28 w.heap.size rfl).alloc (.cells #[.int .u8 0, .int .u8 0, .int .u8 0, .int .u8 0, .int .u8 0, .int .u8 0, .int .u8 0, .int .u8 0] 53))
 have RZ := Lib.hid (Row8.zeros (w.alloc (.cells #[.int .i64 m, .int .i64 p, .slice (some ⟨ba, off, none⟩) n cap] 28)) .u8 53 (w.heap.size + 1) (by simp))
 have B := Lib.hid (below2 w (.cells #[.int .i64 m, .int .i64 p, .slice (some ⟨ba, off, none⟩) n cap] 28) (.cells #[.int .u8 0, .int .u8 0, .int .u8 0, .int .u8 0, .int .u8 0, .int .u8 0, .int .u8 0, .int .u8 0] 53))
 have hi0 : (0 : Int) < (n : Int) := by omega
 go_upto_region 1 with fail
 obtain ⟨W0, hW0⟩ : ∃ W0, W0 = ((w.alloc (.cells #[.int .i64 m, .int .i64 p, .slice (some ⟨ba, off, none⟩) n cap] 28)).alloc (.cells #[.int .u8 0, .int .u8 0, .int .u8 0, .int .u8 0, .int .u8 0, .int .u8 0, .int .u8 0, .int .u8 0] 53)) := ⟨_, rfl⟩
 rw [← hW0] at A RZ B ⊢
 have zz : Hid (W0.heap.size = w.heap.size + 1 + 1) := Lib.hid (by rw [hW0]; simp)
 clear hW0
 have KB : Hid (Below W0.heap.size W0 W0.drew) := Lib.hid (Below.refl W0.heap.size W0).drew
 have hba : ba < w.heap.size := by exact hbl
 have SH : Hid (∀ W, Below W0.heap.size W0 W → (W.cell? ⟨w.heap.size, 0, none⟩ = some (.int .i64 m) ∧ W.cell? ⟨w.heap.size, 1, none⟩ = some (.int .i64 p) ∧ W.cell? ⟨w.heap.size, 2, none⟩ = some (.slice (some ⟨ba, off, none⟩) n cap)) ∧ (W.cell? ⟨ba, off, none⟩ = some (.int .u8 (at8 row 0)) ∧ W.cell? ⟨ba, off + 1, none⟩ = some (.int .u8 (at8 row 1)) ∧ W.cell? ⟨ba, off + 2, none⟩ = some (.int .u8 (at8 row 2)) ∧ W.cell? ⟨ba, off + 3, none⟩ = some (.int .u8 (at8 row 3)) ∧ W.cell? ⟨ba, off + 4, none⟩ = some (.int .u8 (at8 row 4)) ∧ W.cell? ⟨ba, off + 5, none⟩ = some (.int .u8 (at8 row 5)) ∧ W.cell? ⟨ba, off + 6, none⟩ = some (.int .u8 (at8 row 6)) ∧ W.cell? ⟨ba, off + 7, none⟩ = some (.int .u8 (at8 row 7)))) := Lib.hid fun W h => ⟨(A.out.below h).all, (show Cells8 W ba off row from fun i hi => ((below_go B.out h (by have := zz.out; omega)).cell hba).trans (HC.out i hi)).flat⟩
 have SZ : Hid (∀ W, Below W0.heap.size W0 W → ∀ v0 v1 v2 v3 v4 v5 v6 v7, (((((((((W.setCell ⟨w.heap.size + 1, 0, none⟩ v0).setCell ⟨w.heap.size + 1, 1, none⟩ v1).setCell ⟨w.heap.size + 1, 2, none⟩ v2).setCell ⟨w.heap.size + 1, 3, none⟩ v3).setCell ⟨w.heap.size + 1, 4, none⟩ v4).setCell ⟨w.heap.size + 1, 5, none⟩ v5).setCell ⟨w.heap.size + 1, 6, none⟩ v6).setCell ⟨w.heap.size + 1, 7, none⟩ v7).cell? ⟨w.heap.size, 0, none⟩ = some (.int .i64 m) ∧ ((((((((W.setCell ⟨w.heap.size + 1, 0, none⟩ v0).setCell ⟨w.heap.size + 1, 1, none⟩ v1).setCell ⟨w.heap.size + 1, 2, none⟩ v2).setCell ⟨w.heap.size + 1, 3, none⟩ v3).setCell ⟨w.heap.size + 1, 4, none⟩ v4).setCell ⟨w.heap.size + 1, 5, none⟩ v5).setCell ⟨w.heap.size + 1, 6, none⟩ v6).setCell ⟨w.heap.size + 1, 7, none⟩ v7).cell? ⟨w.heap.size, 1, none⟩ = some (.int .i64 p) ∧ ((((((((W.setCell ⟨w.heap.size + 1, 0, none⟩ v0).setCell ⟨w.heap.size + 1, 1, none⟩ v1).setCell ⟨w.heap.size + 1, 2, none⟩ v2).setCell ⟨w.heap.size + 1, 3, none⟩ v3).setCell ⟨w.heap.size + 1, 4, none⟩ v4).setCell ⟨w.heap.size + 1, 5, none⟩ v5).setCell ⟨w.heap.size + 1, 6, none⟩ v6).setCell ⟨w.heap.size + 1, 7, none⟩ v7).cell? ⟨w.heap.size, 2, none⟩ = some (.slice (some ⟨ba, off, none⟩) n cap)) ∧ (((((((((W.setCell ⟨w.heap.size + 1, 0, none⟩ v0).setCell ⟨w.heap.size + 1, 1, none⟩ v1).setCell ⟨w.heap.size + 1, 2, none⟩ v2).setCell ⟨w.heap.size + 1, 3, none⟩ v3).setCell ⟨w.heap.size + 1, 4, none⟩ v4).setCell ⟨w.heap.size + 1, 5, none⟩ v5).setCell ⟨w.heap.size + 1, 6, none⟩ v6).setCell ⟨w.heap.size + 1, 7, none⟩ v7).cell? ⟨ba, off, none⟩ = some (.int .u8 (at8 row 0)) ∧ ((((((((W.setCell ⟨w.heap.size + 1, 0, none⟩ v0).setCell ⟨w.heap.size + 1, 1, none⟩ v1).setCell ⟨w.heap.size + 1, 2, none⟩ v2).setCell ⟨w.heap.size + 1, 3, none⟩ v3).setCell ⟨w.heap.size + 1, 4, none⟩ v4).setCell ⟨w.heap.size + 1, 5, none⟩ v5).setCell ⟨w.heap.size + 1, 6, none⟩ v6).setCell ⟨w.heap.size + 1, 7, none⟩ v7).cell? ⟨ba, off + 1, none⟩ = some (.int .u8 (at8 row 1)) ∧ ((((((((W.setCell ⟨w.heap.size + 1, 0, none⟩ v0).setCell ⟨w.heap.size + 1, 1, none⟩ v1).setCell ⟨w.heap.size + 1, 2, none⟩ v2).setCell ⟨w.heap.size + 1, 3, none⟩ v3).setCell ⟨w.heap.size + 1, 4, none⟩ v4).setCell ⟨w.heap.size + 1, 5, none⟩ v5).setCell ⟨w.heap.size + 1, 6, none⟩ v6).setCell ⟨w.heap.size + 1, 7, none⟩ v7).cell? ⟨ba, off + 2, none⟩ = some (.int .u8 (at8 row 2)) ∧ ((((((((W.setCell ⟨w.heap.size + 1, 0, none⟩ v0).setCell ⟨w.heap.size + 1, 1, none⟩ v1).setCell ⟨w.heap.size + 1, 2, none⟩ v2).setCell ⟨w.heap.size + 1, 3, none⟩ v3).setCell ⟨w.heap.size + 1, 4, none⟩ v4).setCell ⟨w.heap.size + 1, 5, none⟩ v5).setCell ⟨w.heap.size + 1, 6, none⟩ v6).setCell ⟨w.heap.size + 1, 7, none⟩ v7).cell? ⟨ba, off + 3, none⟩ = some (.int .u8 (at8 row 3)) ∧ ((((((((W.setCell ⟨w.heap.size + 1, 0, none⟩ v0).setCell ⟨w.heap.size + 1, 1, none⟩ v1).setCell ⟨w.heap.size + 1, 2, none⟩ v2).setCell ⟨w.heap.size + 1, 3, none⟩ v3).setCell ⟨w.heap.size + 1, 4, none⟩ v4).setCell ⟨w.heap.size + 1, 5, none⟩ v5).setCell ⟨w.heap.size + 1, 6, none⟩ v6).setCell ⟨w.heap.size + 1, 7, none⟩ v7).cell? ⟨ba, off + 4, none⟩ = some (.int .u8 (at8 row 4)) ∧ ((((((((W.setCell ⟨w.heap.size + 1, 0, none⟩ v0).setCell ⟨w.heap.size + 1, 1, none⟩ v1).setCell ⟨w.heap.size + 1, 2, none⟩ v2).setCell ⟨w.heap.size + 1, 3, none⟩ v3).setCell ⟨w.heap.size + 1, 4, none⟩ v4).setCell ⟨w.heap.size + 1, 5, none⟩ v5).setCell ⟨w.heap.size + 1, 6, none⟩ v6).setCell ⟨w.heap.size + 1, 7, none⟩ v7).cell? ⟨ba, off + 5, none⟩ = some (.int .u8 (at8 row 5)) ∧ ((((((((W.setCell ⟨w.heap.size + 1, 0, none⟩ v0).setCell ⟨w.heap.size + 1, 1, none⟩ v1).setCell ⟨w.heap.size + 1, 2, none⟩ v2).setCell ⟨w.heap.size + 1, 3, none⟩ v3).setCell ⟨w.heap.size + 1, 4, none⟩ v4).setCell ⟨w.heap.size + 1, 5, none⟩ v5).setCell ⟨w.heap.size + 1, 6, none⟩ v6).setCell ⟨w.heap.size + 1, 7, none⟩ v7).cell? ⟨ba, off + 6, none⟩ = some (.int .u8 (at8 row 6)) ∧ ((((((((W.setCell ⟨w.heap.size + 1, 0, none⟩ v0).setCell ⟨w.heap.size + 1, 1, none⟩ v1).setCell ⟨w.heap.size + 1, 2, none⟩ v2).setCell ⟨w.heap.size + 1, 3, none⟩ v3).setCell ⟨w.heap.size + 1, 4, none⟩ v4).setCell ⟨w.heap.size + 1, 5, none⟩ v5).setCell ⟨w.heap.size + 1, 6, none⟩ v6).setCell ⟨w.heap.size + 1, 7, none⟩ v7).cell? ⟨ba, off + 7, none⟩ = some (.int .u8 (at8 row 7)))) := Lib.hid fun W h v0 v1 v2 v3 v4 v5 v6 v7 => ⟨((A.out.below h).set8 (g2 := w.heap.size + 1) (o := 0) (by omega) v0 v1 v2 v3 v4 v5 v6 v7).all, (show Cells8 ((((((((W.setCell ⟨w.heap.size + 1, 0, none⟩ v0).setCell ⟨w.heap.size + 1, 1, none⟩ v1).setCell ⟨w.heap.size + 1, 2, none⟩ v2).setCell ⟨w.heap.size + 1, 3, none⟩ v3).setCell ⟨w.heap.size + 1, 4, none⟩ v4).setCell ⟨w.heap.size + 1, 5, none⟩ v5).setCell ⟨w.heap.size + 1, 6, none⟩ v6).setCell ⟨w.heap.size + 1, 7, none⟩ v7) ba off row from fun i hi => ((below_fill8 (below_go B.out h (by have := zz.out; omega)) (w.heap.size + 1) (by omega) v0 v1 v2 v3 v4 v5 v6 v7).cell hba).trans (HC.out i hi)).flat⟩
 refine wp_region_held_drew (S := (fun w' => (w'.cell? ⟨w.heap.size, 0, none⟩ = some (.int .i64 m) ∧ w'.cell? ⟨w.heap.size, 1, none⟩ = some (.int .i64 p) ∧ w'.cell? ⟨w.heap.size, 2, none⟩ = some (.slice (some ⟨ba, off, none⟩) n cap)) ∧ (w'.cell? ⟨ba, off, none⟩ = some (.int .u8 (at8 row 0)) ∧ w'.cell? ⟨ba, off + 1, none⟩ = some (.int .u8 (at8 row 1)) ∧ w'.cell? ⟨ba, off + 2, none⟩ = some (.int .u8 (at8 row 2)) ∧ w'.cell? ⟨ba, off + 3, none⟩ = some (.int .u8 (at8 row 3)) ∧ w'.cell? ⟨ba, off + 4, none⟩ = some (.int .u8 (at8 row 4)) ∧ w'.cell? ⟨ba, off + 5, none⟩ = some (.int .u8 (at8 row 5)) ∧ w'.cell? ⟨ba, off + 6, none⟩ = some (.int .u8 (at8 row 6)) ∧ w'.cell? ⟨ba, off + 7, none⟩ = some (.int .u8 (at8 row 7))))) (by kernel_rfl) ?_ (fun hHeld => ?_)
 ·first | with_reducible exact SH.out _ KB.out | with_reducible exact SZ.out _ KB.out _ _ _ _ _ _ _ _
 refine wpAnyH_take (i := 0) (oi := { dst := some 3, op := Op.fieldAddr 28 (Operand.tmp 1) 2, type := 0, pos := "l04_conjugacy.go:44", after := #[], guard := none }) (v := ?_) rfl (by kernel_rfl) (by kernel_rfl) (by kernel_rfl) (fun _ _ _ h => h) (Or.inl ⟨by rfl, ?_⟩) (by assumption) ?_
 rotate_left
 ·intro w hSw
  (try dsimp only at hSw)
  go_simp
  try with_reducible rfl
 try simp only [Act.put, List.setIfInBounds_toArray, List.set_cons_zero, List.set_cons_succ]
 refine wpAnyH_take (i := 1) (oi := { dst := some 4, op := Op.load 26 (Operand.tmp 3), type := 26, pos := "l04_conjugacy.go:44", after := #[{ on := 0, ground := Ground.data }], guard := none }) (v := ?_) rfl (by kernel_rfl) (by kernel_rfl) (by kernel_rfl) (fun _ _ _ h => h) (Or.inl ⟨by rfl, ?_⟩) (by assumption) ?_
 rotate_left
 ·intro w hSw
  (try dsimp only at hSw)
  go_simp
  try with_reducible rfl
 try simp only [Act.put, List.setIfInBounds_toArray, List.set_cons_zero, List.set_cons_succ]
 refine wpAnyH_take (i := 2) (oi := { dst := some 5, op := Op.indexAddr 26 (Operand.tmp 4) (Operand.const (Value.int IntKind.i64 0)), type := 0, pos := "l04_conjugacy.go:44", after := #[{ on := 1, ground := Ground.data }], guard := none }) (v := ?_) rfl (by kernel_rfl) (by kernel_rfl) (by kernel_rfl) (fun _ _ _ h => h) (Or.inl ⟨by rfl, ?_⟩) (by assumption) ?_
 rotate_left
 ·intro w hSw
  (try dsimp only at hSw)
  go_simp
  try with_reducible rfl
 try simp only [Act.put, List.setIfInBounds_toArray, List.set_cons_zero, List.set_cons_succ]
 refine wpAnyH_take (i := 3) (oi := { dst := some 6, op := Op.load 53 (Operand.tmp 5), type := 53, pos := "l04_conjugacy.go:44", after := #[{ on := 2, ground := Ground.data }], guard := none }) (v := ?_) rfl (by kernel_rfl) (by kernel_rfl) (by kernel_rfl) (fun _ _ _ h => h) (Or.inl ⟨by rfl, ?_⟩) (by assumption) ?_
 rotate_left
 ·intro w hSw
  (try dsimp only at hSw)
  go_simp
  try with_reducible rfl
 try simp only [Act.put, List.setIfInBounds_toArray, List.set_cons_zero, List.set_cons_succ]
 refine wpAnyH_take (i := 4) (oi := { dst := some 7, op := Op.fieldAddr 28 (Operand.tmp 1) 1, type := 0, pos := "l04_conjugacy.go:44", after := #[], guard := none }) (v := ?_) rfl (by kernel_rfl) (by kernel_rfl) (by kernel_rfl) (fun _ _ _ h => h) (Or.inl ⟨by rfl, ?_⟩) (by assumption) ?_
 rotate_left
 ·intro w hSw
  (try dsimp only at hSw)
  go_simp
  try with_reducible rfl
 try simp only [Act.put, List.setIfInBounds_toArray, List.set_cons_zero, List.set_cons_succ]
 refine wpAnyH_take (i := 5) (oi := { dst := some 8, op := Op.load 2 (Operand.tmp 7), type := 2, pos := "l04_conjugacy.go:44", after := #[{ on := 4, ground := Ground.data }], guard := none }) (v := ?_) rfl (by kernel_rfl) (by kernel_rfl) (by kernel_rfl) (fun _ _ _ h => h) (Or.inl ⟨by rfl, ?_⟩) (by assumption) ?_
 rotate_left
 ·intro w hSw
  (try dsimp only at hSw)
  go_simp
  try with_reducible rfl
 try simp only [Act.put, List.setIfInBounds_toArray, List.set_cons_zero, List.set_cons_succ]
 refine wpAnyH_take (i := 6) (oi := { dst := some 9, op := Op.fieldAddr 28 (Operand.tmp 1) 0, type := 0, pos := "l04_conjugacy.go:44", after := #[], guard := none }) (v := ?_) rfl (by kernel_rfl) (by kernel_rfl) (by kernel_rfl) (fun _ _ _ h => h) (Or.inl ⟨by rfl, ?_⟩) (by assumption) ?_
 rotate_left
 ·intro w hSw
  (try dsimp only at hSw)
  go_simp
  try with_reducible rfl
 try simp only [Act.put, List.setIfInBounds_toArray, List.set_cons_zero, List.set_cons_succ]
 refine wpAnyH_take (i := 7) (oi := { dst := some 10, op := Op.load 2 (Operand.tmp 9), type := 2, pos := "l04_conjugacy.go:44", after := #[{ on := 6, ground := Ground.data }], guard := none }) (v := ?_) rfl (by kernel_rfl) (by kernel_rfl) (by kernel_rfl) (fun _ _ _ h => h) (Or.inl ⟨by rfl, ?_⟩) (by assumption) ?_
 rotate_left
 ·intro w hSw
  (try dsimp only at hSw)
  go_simp
  try with_reducible rfl
 try simp only [Act.put, List.setIfInBounds_toArray, List.set_cons_zero, List.set_cons_succ]
 refine wpAnyH_ready (rs := [8]) (by kernel_rfl) (by simp) ?_
 refine AllReadyH.cons (o := { dst := some 11, op := Op.call { callee := Callee.value (Operand.func 56), args := #[Operand.tmp 6, Operand.tmp 8, Operand.tmp 10], argTypes := #[53, 2, 2] }, type := 53, pos := "l04_conjugacy.go:44", after := #[{ on := 3, ground := Ground.data }, { on := 5, ground := Ground.data }, { on := 7, ground := Ground.data }], guard := none }) rfl (fun K hK => ?_) ?_
 ·go_simp
  refine (turned_any m p row SR.out _).mono ?_
  rintro e w3 ⟨rfl, gg⟩
  replace KB := Lib.hid (below_go KB.out gg KB.out.size)
  clear gg
  obtain ⟨⟨d0, d1, d2, d3⟩, d4, d5, d6, d7⟩ := (RZ.out.below KB.out).all
  obtain ⟨⟨f0, f1, f2, f3⟩, f4, f5, f6, f7⟩ := (RZ.out.below KB.out).frees
  go_wp2_with fail
  refine hK.out _ _ ?_ (fun hHeld => ?_)
  ·first | with_reducible exact SH.out _ KB.out | with_reducible exact SZ.out _ KB.out _ _ _ _ _ _ _ _
  clear hK K
  try simp only [Act.put, List.setIfInBounds_toArray, List.set_cons_zero, List.set_cons_succ]
  refine wpAnyH_ready (rs := [9]) (by kernel_rfl) (by simp) ?_
  refine AllReadyH.cons (o := { dst := none, op := Op.store 53 (Operand.tmp 2) (Operand.tmp 11), type := 0, pos := "l04_conjugacy.go:44", after := #[{ on := 8, ground := Ground.data }, { on := 8, ground := Ground.chain }, { on := 0, ground := Ground.phase }, { on := 1, ground := Ground.phase }, { on := 2, ground := Ground.phase }, { on := 3, ground := Ground.phase }, { on := 4, ground := Ground.phase }, { on := 5, ground := Ground.phase }, { on := 6, ground := Ground.phase }, { on := 7, ground := Ground.phase }, { on := 8, ground := Ground.phase }], guard := none }) rfl (fun K hK => ?_) ?_
  ·go_simp
   refine hK.out _ _ ?_ (fun hHeld => ?_)
   ·first | with_reducible exact SH.out _ KB.out | with_reducible exact SZ.out _ KB.out _ _ _ _ _ _ _ _
   clear hK K
   try simp only [Act.put, List.setIfInBounds_toArray, List.set_cons_zero, List.set_cons_succ]
   refine wpAnyH_done (by kernel_rfl) ?_ _
   go_wp2_with fail
   try rw [Exit.noGoto_ret]
   obtain ⟨⟨e0, e1, e2, e3⟩, e4, e5, e6, e7⟩ := ((RZ.out.below KB.out).fill (turnK m p row) HT8.out).all
   refine bodyPost_ret (v := arr8 .u8 (turnK m p row)) (by simp [results, Try.results71, go_sem, e0, e1, e2, e3, e4, e5, e6, e7]) rfl ⟨rfl, ?_⟩
   exact below_fill8 (below_go B.out KB.out (by have := zz.out; omega)) _ (by omega) _ _ _ _ _ _ _ _
  exact AllReadyH.nil
 exact AllReadyH.nil

set_option maxRecDepth 100000 in
set_option maxHeartbeats 2000000 in
theorem cycled_any (m : Nat) (m1 : 1 ≤ m) (m8 : m ≤ 8) (p : Int) (hp : -100000 ≤ p ∧ p ≤ 100000) (a : Option Addr) (n cap : Nat) (hcap : n ≤ cap) (l : List (List Int)) (w : World) (hr : ReadsA w a n l) (hl : Nl m l) (hn : n ≤ 50000) (e : Int) (kf : List (List Int)) (hM : cycN m p l = (e, kf)) :
  Calls Try.prog 50 #[.agg #[.int .i64 m, .int .i64 p, .slice a n cap]] w (RetNS w.heap.size w m e kf) := by
 have HN := Lib.hid hr.len
 have R := Lib.hid hr
 have HL := Lib.hid hl
 clear hr hl
 go_enter Try.func50, Try.ntmps50
 have A := Lib.hid ((At3.place w (.int .i64 m) (.int .i64 p) (.slice a n cap) 28 w.heap.size rfl).alloc (.cells #[.int .i64 0, .int .i64 0, .slice none 0 0] 28))
 have Z := Lib.hid (At3.place (w.alloc (.cells #[.int .i64 m, .int .i64 p, .slice a n cap] 28)) (.int .i64 0) (.int .i64 0) (.slice none 0 0) 28 (w.heap.size + 1) (by simp))
 have B := Lib.hid ((below1 w (.cells #[.int .i64 m, .int .i64 p, .slice a n cap] 28)).alloc (by simp) (.cells #[.int .i64 0, .int .i64 0, .slice none 0 0] 28))
 replace R := Lib.hid ((R.out.alloc (.cells #[.int .i64 m, .int .i64 p, .slice a n cap] 28)).alloc (.cells #[.int .i64 0, .int .i64 0, .slice none 0 0] 28))
 have zz : Hid (((w.alloc (.cells #[.int .i64 m, .int .i64 p, .slice a n cap] 28)).alloc (.cells #[.int .i64 0, .int .i64 0, .slice none 0 0] 28)).heap.size = w.heap.size + 1 + 1) := Lib.hid (by simp)
 obtain ⟨q1, q2, q3⟩ := A.out.all
 by_cases h0 : n = 0
 ·subst h0
  obtain rfl : l = [] := List.eq_nil_of_length_eq_zero HN.out
  simp only [cycN, Prod.mk.injEq] at hM
  obtain ⟨rfl, rfl⟩ := hM
  go_wp2_with fail
  refine (copied_any m p a 0 cap [] _ R.out (by omega)).mono ?_
  rintro e w3 ⟨b, d, rfl, ho, gg⟩
  have hz3 : w.heap.size + 1 + 1 ≤ w3.heap.size := by rw [← zz.out]; exact gg.size
  replace Z := Lib.hid (Z.out.below gg)
  replace B := Lib.hid (below_go B.out gg B.out.size)
  clear gg q1 q2 q3
  obtain ⟨x0, ⟨x1, x2, x3⟩, y1, y2, y3⟩ := Z.out
  obtain ⟨_, ⟨e1, e2, e3⟩, _⟩ := Z.out.fill (.int .i64 m) (.int .i64 p) (.slice b 0 d)
  go_wp2
  try rw [Exit.noGoto_ret]
  exact bodyPost_ret (v := .agg #[.int .i64 m, .int .i64 p, .slice b 0 d]) (by simp [results, Try.results50, go_sem, e1, e2, e3]) rfl ⟨b, 0, d, rfl, Nat.zero_le _, OwnS.nil _ _ _, below_set3 B.out (by omega) _ _ _⟩
 ·have hz : ((n : Int) == 0) = false := by simpa using h0
  go_upto_region 3 with fail
  obtain ⟨n', rfl⟩ : ∃ n', n = n' + 1 := ⟨n - 1, by omega⟩
  obtain ⟨c', rfl⟩ : ∃ c', cap = c' + 1 := ⟨cap - 1, by omega⟩
  clear q1 q2 q3
  obtain ⟨ba, off, rfl, hbl, hcl⟩ := R.out.cells (by omega)
  clear hbl hcl
  have hi1 : (1 : Int) ≤ ((n' + 1 : Nat) : Int) := by omega
  have hi2 : (1 : Int) ≤ (n' : Int) + 1 := by omega
  have m2 := nl_two m1 HL.out (j := 0) (by rw [HN.out]; omega)
  have HM : Hid (mkN m p (l.drop 1 ++ [turnK m p (rowAt l 0)]) = (e, kf)) := Lib.hid (by
   cases l with
   | nil => have := HN.out; simp at this
   | cons f l => exact hM)
  clear hM
  obtain ⟨sl, hsl⟩ : ∃ sl : Option Addr, sl = if c' = 0 then some ⟨ba, off, none⟩ else some ⟨ba, off + 8, none⟩ := ⟨_, rfl⟩
  have HSL := Lib.hid hsl
  clear hsl
  obtain ⟨W0, hW0⟩ : ∃ W0, W0 = ((w.alloc (.cells #[.int .i64 m, .int .i64 p, .slice (some ⟨ba, off, none⟩) (n' + 1) (c' + 1)] 28)).alloc (.cells #[.int .i64 0, .int .i64 0, .slice none 0 0] 28)) := ⟨_, rfl⟩
  rw [← hW0] at A Z B R zz ⊢
  clear hW0
  have RT : Hid (∀ W, Below W0.heap.size W0 W → ReadsA W sl n' (l.drop 1)) := Lib.hid fun W h => by rw [HSL.out]; exact (R.out.below h).tail c' (by omega)
  have KB : Hid (Below W0.heap.size W0 W0.drew) := Lib.hid (Below.refl W0.heap.size W0).drew
  have SH : Hid (∀ W, Below W0.heap.size W0 W → W.cell? ⟨w.heap.size, 0, none⟩ = some (.int .i64 m) ∧ W.cell? ⟨w.heap.size, 1, none⟩ = some (.int .i64 p) ∧ W.cell? ⟨w.heap.size, 2, none⟩ = some (.slice (some ⟨ba, off, none⟩) (n' + 1) (c' + 1))) := Lib.hid fun W h => (A.out.below h).all
  have SZ : Hid (∀ W, Below W0.heap.size W0 W → ∀ g, W0.heap.size ≤ g → ∀ u v x, (((W.setCell ⟨g, 0, none⟩ u).setCell ⟨g, 1, none⟩ v).setCell ⟨g, 2, none⟩ x).cell? ⟨w.heap.size, 0, none⟩ = some (.int .i64 m) ∧ (((W.setCell ⟨g, 0, none⟩ u).setCell ⟨g, 1, none⟩ v).setCell ⟨g, 2, none⟩ x).cell? ⟨w.heap.size, 1, none⟩ = some (.int .i64 p) ∧ (((W.setCell ⟨g, 0, none⟩ u).setCell ⟨g, 1, none⟩ v).setCell ⟨g, 2, none⟩ x).cell? ⟨w.heap.size, 2, none⟩ = some (.slice (some ⟨ba, off, none⟩) (n' + 1) (c' + 1))) := Lib.hid fun W h g hg u v x => ((A.out.below h).set3 (g2 := g) (by have := zz.out; omega) u v x).all
  refine wp_region_held_drew (S := (fun w' => w'.cell? ⟨w.heap.size, 0, none⟩ = some (.int .i64 m) ∧ w'.cell? ⟨w.heap.size, 1, none⟩ = some (.int .i64 p) ∧ w'.cell? ⟨w.heap.size, 2, none⟩ = some (.slice (some ⟨ba, off, none⟩) (n' + 1) (c' + 1)))) (by kernel_rfl) ?_ (fun hHeld => ?_)
  ·first | with_reducible exact SH.out _ KB.out | with_reducible exact SZ.out _ KB.out _ (Nat.le_refl _) _ _ _
  refine wpAnyH_take (i := 0) (oi := { dst := some 10, op := Op.fieldAddr 28 (Operand.tmp 1) 0, type := 0, pos := "l04_conjugacy.go:57", after := #[], guard := none }) (v := ?_) rfl (by kernel_rfl) (by kernel_rfl) (by kernel_rfl) (fun _ _ _ h => h) (Or.inl ⟨by rfl, ?_⟩) (by assumption) ?_
  rotate_left
  ·intro w hSw
   (try dsimp only at hSw)
   go_simp
   try with_reducible rfl
  try simp only [Act.put, List.setIfInBounds_toArray, List.set_cons_zero, List.set_cons_succ]
  refine wpAnyH_take (i := 1) (oi := { dst := some 11, op := Op.load 2 (Operand.tmp 10), type := 2, pos := "l04_conjugacy.go:57", after := #[{ on := 0, ground := Ground.data }], guard := none }) (v := ?_) rfl (by kernel_rfl) (by kernel_rfl) (by kernel_rfl) (fun _ _ _ h => h) (Or.inl ⟨by rfl, ?_⟩) (by assumption) ?_
  rotate_left
  ·intro w hSw
   (try dsimp only at hSw)
   go_simp
   try with_reducible rfl
  try simp only [Act.put, List.setIfInBounds_toArray, List.set_cons_zero, List.set_cons_succ]
  refine wpAnyH_take (i := 2) (oi := { dst := some 12, op := Op.fieldAddr 28 (Operand.tmp 1) 1, type := 0, pos := "l04_conjugacy.go:57", after := #[], guard := none }) (v := ?_) rfl (by kernel_rfl) (by kernel_rfl) (by kernel_rfl) (fun _ _ _ h => h) (Or.inl ⟨by rfl, ?_⟩) (by assumption) ?_
  rotate_left
  ·intro w hSw
   (try dsimp only at hSw)
   go_simp
   try with_reducible rfl
  try simp only [Act.put, List.setIfInBounds_toArray, List.set_cons_zero, List.set_cons_succ]
  refine wpAnyH_take (i := 3) (oi := { dst := some 13, op := Op.load 2 (Operand.tmp 12), type := 2, pos := "l04_conjugacy.go:57", after := #[{ on := 2, ground := Ground.data }], guard := none }) (v := ?_) rfl (by kernel_rfl) (by kernel_rfl) (by kernel_rfl) (fun _ _ _ h => h) (Or.inl ⟨by rfl, ?_⟩) (by assumption) ?_
  rotate_left
  ·intro w hSw
   (try dsimp only at hSw)
   go_simp
   try with_reducible rfl
  try simp only [Act.put, List.setIfInBounds_toArray, List.set_cons_zero, List.set_cons_succ]
  refine wpAnyH_take (i := 4) (oi := { dst := some 14, op := Op.fieldAddr 28 (Operand.tmp 1) 2, type := 0, pos := "l04_conjugacy.go:57", after := #[], guard := none }) (v := ?_) rfl (by kernel_rfl) (by kernel_rfl) (by kernel_rfl) (fun _ _ _ h => h) (Or.inl ⟨by rfl, ?_⟩) (by assumption) ?_
  rotate_left
  ·intro w hSw
   (try dsimp only at hSw)
   go_simp
   try with_reducible rfl
  try simp only [Act.put, List.setIfInBounds_toArray, List.set_cons_zero, List.set_cons_succ]
  refine wpAnyH_take (i := 5) (oi := { dst := some 15, op := Op.load 26 (Operand.tmp 14), type := 26, pos := "l04_conjugacy.go:57", after := #[{ on := 4, ground := Ground.data }], guard := none }) (v := ?_) rfl (by kernel_rfl) (by kernel_rfl) (by kernel_rfl) (fun _ _ _ h => h) (Or.inl ⟨by rfl, ?_⟩) (by assumption) ?_
  rotate_left
  ·intro w hSw
   (try dsimp only at hSw)
   go_simp
   try with_reducible rfl
  try simp only [Act.put, List.setIfInBounds_toArray, List.set_cons_zero, List.set_cons_succ]
  refine wpAnyH_take (i := 6) (oi := { dst := some 16, op := Op.slice 26 (Operand.tmp 15) (some (Operand.const (Value.int IntKind.i64 1))) none none, type := 26, pos := "l04_conjugacy.go:57", after := #[{ on := 5, ground := Ground.data }], guard := none }) (v := ?_) rfl (by kernel_rfl) (by kernel_rfl) (by kernel_rfl) (fun _ _ _ h => h) (Or.inl ⟨by rfl, ?_⟩) (by assumption) ?_
  rotate_left
  ·intro w hSw
   (try dsimp only at hSw)
   go_simp
   try with_reducible rfl
  try simp only [Act.put, List.setIfInBounds_toArray, List.set_cons_zero, List.set_cons_succ]
  rw [← HSL.out]
  refine wpAnyH_take (i := 7) (oi := { dst := some 17, op := Op.build 28 #[(0, Operand.tmp 11), (1, Operand.tmp 13), (2, Operand.tmp 16)], type := 28, pos := "l04_conjugacy.go:57", after := #[{ on := 1, ground := Ground.data }, { on := 3, ground := Ground.data }, { on := 6, ground := Ground.data }], guard := none }) (v := ?_) rfl (by kernel_rfl) (by kernel_rfl) (by kernel_rfl) (fun _ _ _ h => h) (Or.inl ⟨by rfl, ?_⟩) (by assumption) ?_
  rotate_left
  ·intro w hSw
   (try dsimp only at hSw)
   go_simp
   try with_reducible rfl
  try simp only [Act.put, List.setIfInBounds_toArray, List.set_cons_zero, List.set_cons_succ]
  refine wpAnyH_ready (rs := [8]) (by kernel_rfl) (by simp) ?_
  refine AllReadyH.cons (o := { dst := some 3, op := Op.alloc 28, type := 0, pos := "l04_conjugacy.go:57", after := #[], guard := none }) rfl (fun K hK => ?_) ?_
  ·go_simp
   have ZR := Lib.hid ((At3.place W0 (.int .i64 0) (.int .i64 0) (.slice none 0 0) 28 W0.heap.size rfl).drew)
   replace KB : Hid (Below W0.heap.size W0 (W0.alloc (.cells #[.int .i64 0, .int .i64 0, .slice none 0 0] 28)).drew) := Lib.hid (below1 W0 (.cells #[.int .i64 0, .int .i64 0, .slice none 0 0] 28)).drew
   obtain ⟨V8, hV8⟩ : ∃ V, V = (W0.alloc (.cells #[.int .i64 0, .int .i64 0, .slice none 0 0] 28)).drew := ⟨_, rfl⟩
   rw [← hV8] at ZR KB ⊢
   clear hV8
   refine hK.out _ _ ?_ (fun hHeld => ?_)
   ·first | with_reducible exact SH.out _ KB.out | with_reducible exact SZ.out _ KB.out _ (Nat.le_refl _) _ _ _
   clear hK K
   try simp only [Act.put, List.setIfInBounds_toArray, List.set_cons_zero, List.set_cons_succ]
   refine wpAnyH_ready (rs := [9]) (by kernel_rfl) (by simp) ?_
   refine AllReadyH.cons (o := { dst := none, op := Op.store 28 (Operand.tmp 3) (Operand.tmp 17), type := 0, pos := "l04_conjugacy.go:57", after := #[{ on := 8, ground := Ground.data }, { on := 7, ground := Ground.data }, { on := 0, ground := Ground.phase }, { on := 1, ground := Ground.phase }, { on := 2, ground := Ground.phase }, { on := 3, ground := Ground.phase }, { on := 4, ground := Ground.phase }, { on := 5, ground := Ground.phase }, { on := 6, ground := Ground.phase }, { on := 7, ground := Ground.phase }, { on := 8, ground := Ground.phase }], guard := none }) rfl (fun K hK => ?_) ?_
   ·obtain ⟨x0, ⟨x1, x2, x3⟩, y1, y2, y3⟩ := ZR.out
    go_simp
    clear x0 x1 x2 x3 y1 y2 y3
    replace ZR := Lib.hid (ZR.out.fill (.int .i64 m) (.int .i64 p) (.slice sl n' c'))
    replace KB := Lib.hid (below_set3 KB.out (Nat.le_refl _) (.int .i64 m) (.int .i64 p) (.slice sl n' c'))
    obtain ⟨V9, hV9⟩ : ∃ V, V = (((V8.setCell ⟨W0.heap.size, 0, none⟩ (.int .i64 m)).setCell ⟨W0.heap.size, 1, none⟩ (.int .i64 p)).setCell ⟨W0.heap.size, 2, none⟩ (.slice sl n' c')) := ⟨_, rfl⟩
    rw [← hV9] at ZR KB ⊢
    clear hV9
    refine hK.out _ _ ?_ (fun hHeld => ?_)
    ·first | with_reducible exact SH.out _ KB.out | with_reducible exact SZ.out _ KB.out _ (Nat.le_refl _) _ _ _
    clear hK K
    try simp only [Act.put, List.setIfInBounds_toArray, List.set_cons_zero, List.set_cons_succ]
    refine wpAnyH_done (by kernel_rfl) ?_ _
    go_upto_region 4 with fail
    clear SH SZ
    replace A := Lib.hid (A.out.below KB.out)
    replace Z := Lib.hid (Z.out.below KB.out)
    replace B := Lib.hid (below_go B.out KB.out (by have := zz.out; omega))
    replace R := Lib.hid (R.out.below KB.out)
    have RT9 := Lib.hid (RT.out _ KB.out)
    have hz9 : w.heap.size + 1 + 1 ≤ V9.heap.size := by rw [← zz.out]; exact KB.out.size
    have hzw : W0.heap.size = w.heap.size + 1 + 1 := zz.out
    have HZW := Lib.hid hzw
    clear hzw
    replace KB : Hid (Below V9.heap.size V9 V9.drew) := Lib.hid (Below.refl V9.heap.size V9).drew
    have SH : Hid (∀ W, Below V9.heap.size V9 W → (W.cell? ⟨w.heap.size, 0, none⟩ = some (.int .i64 m) ∧ W.cell? ⟨w.heap.size, 1, none⟩ = some (.int .i64 p) ∧ W.cell? ⟨w.heap.size, 2, none⟩ = some (.slice (some ⟨ba, off, none⟩) (n' + 1) (c' + 1))) ∧ (W.cell? ⟨W0.heap.size, 0, none⟩ = some (.int .i64 m) ∧ W.cell? ⟨W0.heap.size, 1, none⟩ = some (.int .i64 p) ∧ W.cell? ⟨W0.heap.size, 2, none⟩ = some (.slice sl n' c'))) := Lib.hid fun W h => ⟨(A.out.below h).all, (ZR.out.below h).all⟩
    have SZ : Hid (∀ W, Below V9.heap.size V9 W → ∀ u v x, ((((W.setCell ⟨w.heap.size + 1, 0, none⟩ u).setCell ⟨w.heap.size + 1, 1, none⟩ v).setCell ⟨w.heap.size + 1, 2, none⟩ x).cell? ⟨w.heap.size, 0, none⟩ = some (.int .i64 m) ∧ (((W.setCell ⟨w.heap.size + 1, 0, none⟩ u).setCell ⟨w.heap.size + 1, 1, none⟩ v).setCell ⟨w.heap.size + 1, 2, none⟩ x).cell? ⟨w.heap.size, 1, none⟩ = some (.int .i64 p) ∧ (((W.setCell ⟨w.heap.size + 1, 0, none⟩ u).setCell ⟨w.heap.size + 1, 1, none⟩ v).setCell ⟨w.heap.size + 1, 2, none⟩ x).cell? ⟨w.heap.size, 2, none⟩ = some (.slice (some ⟨ba, off, none⟩) (n' + 1) (c' + 1))) ∧ ((((W.setCell ⟨w.heap.size + 1, 0, none⟩ u).setCell ⟨w.heap.size + 1, 1, none⟩ v).setCell ⟨w.heap.size + 1, 2, none⟩ x).cell? ⟨W0.heap.size, 0, none⟩ = some (.int .i64 m) ∧ (((W.setCell ⟨w.heap.size + 1, 0, none⟩ u).setCell ⟨w.heap.size + 1, 1, none⟩ v).setCell ⟨w.heap.size + 1, 2, none⟩ x).cell? ⟨W0.heap.size, 1, none⟩ = some (.int .i64 p) ∧ (((W.setCell ⟨w.heap.size + 1, 0, none⟩ u).setCell ⟨w.heap.size + 1, 1, none⟩ v).setCell ⟨w.heap.size + 1, 2, none⟩ x).cell? ⟨W0.heap.size, 2, none⟩ = some (.slice sl n' c'))) := Lib.hid fun W h u v x => ⟨((A.out.below h).set3 (g2 := w.heap.size + 1) (by omega) u v x).all, ((ZR.out.below h).set3 (g2 := w.heap.size + 1) (by have := HZW.out; omega) u v x).all⟩
    refine wp_region_held_drew (S := (fun w' => (w'.cell? ⟨w.heap.size, 0, none⟩ = some (.int .i64 m) ∧ w'.cell? ⟨w.heap.size, 1, none⟩ = some (.int .i64 p) ∧ w'.cell? ⟨w.heap.size, 2, none⟩ = some (.slice (some ⟨ba, off, none⟩) (n' + 1) (c' + 1))) ∧ (w'.cell? ⟨W0.heap.size, 0, none⟩ = some (.int .i64 m) ∧ w'.cell? ⟨W0.heap.size, 1, none⟩ = some (.int .i64 p) ∧ w'.cell? ⟨W0.heap.size, 2, none⟩ = some (.slice sl n' c')))) (by kernel_rfl) ?_ (fun hHeld => ?_)
    ·first | with_reducible exact SH.out _ KB.out | with_reducible exact SZ.out _ KB.out _ _ _
    refine wpAnyH_take (i := 0) (oi := { dst := some 18, op := Op.load 28 (Operand.tmp 3), type := 28, pos := "l04_conjugacy.go:58", after := #[], guard := none }) (v := ?_) rfl (by kernel_rfl) (by kernel_rfl) (by kernel_rfl) (fun _ _ _ h => h) (Or.inl ⟨by rfl, ?_⟩) (by assumption) ?_
    rotate_left
    ·intro w hSw
     (try dsimp only at hSw)
     go_simp
     try with_reducible rfl
    try simp only [Act.put, List.setIfInBounds_toArray, List.set_cons_zero, List.set_cons_succ]
    refine wpAnyH_take (i := 1) (oi := { dst := some 19, op := Op.load 28 (Operand.tmp 1), type := 28, pos := "l04_conjugacy.go:58", after := #[], guard := none }) (v := ?_) rfl (by kernel_rfl) (by kernel_rfl) (by kernel_rfl) (fun _ _ _ h => h) (Or.inl ⟨by rfl, ?_⟩) (by assumption) ?_
    rotate_left
    ·intro w hSw
     (try dsimp only at hSw)
     go_simp
     try with_reducible rfl
    try simp only [Act.put, List.setIfInBounds_toArray, List.set_cons_zero, List.set_cons_succ]
    refine wpAnyH_ready (rs := [2]) (by kernel_rfl) (by simp) ?_
    refine AllReadyH.cons (o := { dst := some 20, op := Op.call { callee := Callee.value (Operand.func 71), args := #[Operand.tmp 19], argTypes := #[28] }, type := 53, pos := "l04_conjugacy.go:58", after := #[{ on := 1, ground := Ground.data }], guard := none }) rfl (fun K hK => ?_) ?_
    ·go_simp
     refine (firstPart_any m p (some ⟨ba, off, none⟩) (n' + 1) (c' + 1) l _ (R.out.below KB.out) HL.out.sims (by omega) (by omega)).mono ?_
     rintro e5 w5 ⟨rfl, gg⟩
     replace KB := Lib.hid (below_go KB.out gg KB.out.size)
     clear gg
     go_wp2_with fail
     refine hK.out _ _ ?_ (fun hHeld => ?_)
     ·first | with_reducible exact SH.out _ KB.out | with_reducible exact SZ.out _ KB.out _ _ _
     clear hK K
     try simp only [Act.put, List.setIfInBounds_toArray, List.set_cons_zero, List.set_cons_succ]
     refine wpAnyH_ready (rs := [3]) (by kernel_rfl) (by simp) ?_
     refine AllReadyH.cons (o := { dst := some 21, op := Op.call { callee := Callee.value (Operand.func 57), args := #[Operand.tmp 18, Operand.tmp 20], argTypes := #[28, 53] }, type := 28, pos := "l04_conjugacy.go:58", after := #[{ on := 0, ground := Ground.data }, { on := 2, ground := Ground.data }, { on := 2, ground := Ground.chain }], guard := none }) rfl (fun K hK => ?_) ?_
     ·go_simp
      refine (thenSimple_any m m2 m8 p (by omega) sl n' c' (l.drop 1) (turnK m p (rowAt l 0)) _ (RT9.out.below KB.out) (by omega) (HL.out.drop 1) (turnK_sim p (HL.out.sims _ (rowAt_getElem (by rw [HN.out]; omega)))) (by omega) e kf HM.out).mono ?_
      rintro e6 w6 ⟨a6, n6, c6, rfl, hc6, ho, gg⟩
      have O6 := Lib.hid (ho.mono KB.out.size)
      replace KB := Lib.hid (below_go KB.out gg KB.out.size)
      clear gg ho
      obtain ⟨x0, ⟨x1, x2, x3⟩, y1, y2, y3⟩ := Z.out.below KB.out
      go_wp2_with fail
      refine hK.out _ _ ?_ (fun hHeld => ?_)
      ·first | with_reducible exact SH.out _ KB.out | with_reducible exact SZ.out _ KB.out _ _ _
      clear hK K
      try simp only [Act.put, List.setIfInBounds_toArray, List.set_cons_zero, List.set_cons_succ]
      refine wpAnyH_ready (rs := [4]) (by kernel_rfl) (by simp) ?_
      refine AllReadyH.cons (o := { dst := none, op := Op.store 28 (Operand.tmp 2) (Operand.tmp 21), type := 0, pos := "l04_conjugacy.go:58", after := #[{ on := 3, ground := Ground.data }, { on := 3, ground := Ground.chain }, { on := 0, ground := Ground.phase }, { on := 1, ground := Ground.phase }, { on := 2, ground := Ground.phase }, { on := 3, ground := Ground.phase }], guard := none }) rfl (fun K hK => ?_) ?_
      ·go_simp
       refine hK.out _ _ ?_ (fun hHeld => ?_)
       ·first | with_reducible exact SH.out _ KB.out | with_reducible exact SZ.out _ KB.out _ _ _
       clear hK K
       try simp only [Act.put, List.setIfInBounds_toArray, List.set_cons_zero, List.set_cons_succ]
       refine wpAnyH_done (by kernel_rfl) ?_ _
       go_wp2_with fail
       try rw [Exit.noGoto_ret]
       obtain ⟨_, ⟨e1, e2, e3⟩, _⟩ := (Z.out.below KB.out).fill (.int .i64 m) (.int .i64 e) (.slice a6 n6 c6)
       exact bodyPost_ret (v := .agg #[.int .i64 m, .int .i64 e, .slice a6 n6 c6]) (by simp [results, Try.results50, go_sem, e1, e2, e3]) rfl ⟨a6, n6, c6, rfl, hc6, (O6.out.set3 (by omega) _ _ _).mono (by omega), below_set3 (below_go B.out KB.out (by omega)) (by omega) _ _ _⟩
      exact AllReadyH.nil
     exact AllReadyH.nil
    exact AllReadyH.nil
   exact AllReadyH.nil
  exact AllReadyH.nil

end Go.Proofs.Ytpkhddndapcpjaa

