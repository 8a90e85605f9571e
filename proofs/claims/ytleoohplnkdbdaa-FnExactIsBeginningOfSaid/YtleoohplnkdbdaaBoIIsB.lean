/- Is one positive braid a beginning of another: the program. -/
import Derived.Test.YtleoohplnkdbdaaBoSIsB
namespace Go.Proofs.Ytleoohplnkdbdaa
open Go.RowKit Go.ChangeShapes

set_option maxRecDepth 100000 in
set_option maxHeartbeats 800000 in
theorem implIsBeginningOf_any (s p : Int) (a : Option Addr) (n cap : Nat) (rs : List (List Int)) (t q : Int) (b : Option Addr) (nb capb : Nat) (ts : List (List Int)) (w : World) (hr : ReadsA w a n rs) (hy : BytesA rs) (hn : n ≤ 1048576) (hr2 : ReadsA w b nb ts) (hy2 : BytesA ts) (hn2 : nb ≤ 1048576) (fb : Bool) (fc : Int) (hM : mIsB s p rs t q ts = (fb, fc)) :
  Calls Try.prog 21 #[.agg #[.int .i64 s, .int .i64 p, .slice a n cap], .agg #[.int .i64 t, .int .i64 q, .slice b nb capb]] w (fun e w' => e = .returned (.tuple #[.bool fb, .int .i64 fc]) ∧ Below w.heap.size w w') := by
 have HL := Lib.hid hr.len
 have HL2 := Lib.hid hr2.len
 have HR := Lib.hid hr; clear hr
 have HR2 := Lib.hid hr2; clear hr2
 have HY0 := Lib.hid hy; clear hy
 have HY1 := Lib.hid hy2; clear hy2
 unfold mIsB at hM
 by_cases hc0 : posC s p rs t q ts = 0
 ·obtain ⟨hpc, hp0, hq0⟩ := posC_ok hc0
  obtain ⟨hB, hB2, rfl⟩ := pairC_ok hpc
  rw [if_pos hc0] at hM
  obtain ⟨m, rfl, m1, m8, hnl, hp, hlen⟩ := norm_nl HR.out.rows hB
  obtain ⟨m', hm', _, _, hnl2, hq, hlen2⟩ := norm_nl HR2.out.rows hB2
  obtain rfl : m = m' := by omega
  clear hm'
  rw [Int.toNat_natCast] at hM
  rw [HL.out] at hlen
  rw [HL2.out] at hlen2
  have HN := Lib.hid hnl; clear hnl
  have HN2 := Lib.hid hnl2; clear hnl2
  obtain ⟨i1, hi1⟩ : ∃ x, x = -(n : Int) - p := ⟨_, rfl⟩
  obtain ⟨d0, df, hd⟩ : ∃ d0 df, mkN m (i1 + q) (turns m q (turns m p (invL m rs)) ++ ts) = (d0, df) := ⟨_, _, rfl⟩
  have hd2 : mulN m (invN m (p, rs)) (q, ts) = (d0, df) := by
   rw [← hd, hi1, ← HL.out]
   rfl
  rw [hd2] at hM
  simp only [Prod.mk.injEq] at hM
  obtain ⟨rfl, rfl⟩ := hM
  have HD := Lib.hid hd; clear hd hd2
  have HC0 := Lib.hid hc0; clear hc0
  have hi2 : -400 ≤ i1 ∧ i1 ≤ 400 := by omega
  have HI := Lib.hid hi1; clear hi1
  clear hpc hB hB2
  have A := Lib.hid ((At3.place w (.int .i64 m) (.int .i64 p) (.slice a n cap) 28 w.heap.size rfl).alloc (.cells #[.int .i64 m, .int .i64 q, .slice b nb capb] 28))
  have X := Lib.hid (At3.place (w.alloc (.cells #[.int .i64 m, .int .i64 p, .slice a n cap] 28)) (.int .i64 m) (.int .i64 q) (.slice b nb capb) 28 (w.heap.size + 1) (by simp))
  have K := Lib.hid ((below1 w (.cells #[.int .i64 m, .int .i64 p, .slice a n cap] 28)).alloc (by simp) (.cells #[.int .i64 m, .int .i64 q, .slice b nb capb] 28))
  go_enter Try.func21, Try.ntmps21
  go_wp2_with fail
  refine (positivePairCode_any m p m q a b n cap nb capb rs ts _ ((HR.out.alloc _).alloc _) HY0.out hn ((HR2.out.alloc _).alloc _) HY1.out hn2).mono ?_
  rintro e w1 ⟨rfl, hb⟩
  have hz1 : w.heap.size + 1 + 1 ≤ w1.heap.size := by have := hb.size; simp at this; omega
  replace A := Lib.hid (A.out.below hb)
  replace X := Lib.hid (X.out.below hb)
  replace K := Lib.hid (below_go K.out hb (by simp; omega))
  clear hb
  rw [HC0.out]
  obtain ⟨x0, ⟨x1, x2, x3⟩, x4, x5, x6⟩ := A.out
  obtain ⟨y0, ⟨y1, y2, y3⟩, y4, y5, y6⟩ := X.out
  go_wp2_with fail
  clear x0 x1 x2 x3 x4 x5 x6 y0 y1 y2 y3 y4 y5 y6
  have R1 := Lib.hid (HR.out.below K.out)
  have R2 := Lib.hid (HR2.out.below K.out)
  have hfl : ∀ (u v x : Value) (W : World), Sem.run Try.prog (Instr.field 28 (.agg #[u, v, x]) 1) W = .ok v W := fun _ _ _ _ => by kernel_rfl
  have KB : Hid (Below w1.heap.size w1 w1.drew) := Lib.hid ((Below.refl w1.heap.size w1).drew)
  have SH : Hid (∀ X, Below w1.heap.size w1 X → (X.cell? ⟨w.heap.size, 0, none⟩ = some (.int .i64 m) ∧ X.cell? ⟨w.heap.size, 1, none⟩ = some (.int .i64 p) ∧ X.cell? ⟨w.heap.size, 2, none⟩ = some (.slice a n cap)) ∧ (X.cell? ⟨(w.heap.size + 1), 0, none⟩ = some (.int .i64 m) ∧ X.cell? ⟨(w.heap.size + 1), 1, none⟩ = some (.int .i64 q) ∧ X.cell? ⟨(w.heap.size + 1), 2, none⟩ = some (.slice b nb capb))) := Lib.hid fun Y h => ⟨(A.out.below h).cells, (X.out.below h).cells⟩
  refine wp_region_held_drew (S := (fun w' => (w'.cell? ⟨w.heap.size, 0, none⟩ = some (.int .i64 m) ∧ w'.cell? ⟨w.heap.size, 1, none⟩ = some (.int .i64 p) ∧ w'.cell? ⟨w.heap.size, 2, none⟩ = some (.slice a n cap)) ∧ (w'.cell? ⟨(w.heap.size + 1), 0, none⟩ = some (.int .i64 m) ∧ w'.cell? ⟨(w.heap.size + 1), 1, none⟩ = some (.int .i64 q) ∧ w'.cell? ⟨(w.heap.size + 1), 2, none⟩ = some (.slice b nb capb)))) (by kernel_rfl) ?_ (fun hHeld => ?_)
  ·with_reducible exact SH.out _ KB.out
  refine wpAnyH_take (i := 0) (oi := { dst := some 13, op := Op.load 28 (Operand.tmp 2), type := 28, pos := "l03_normal.go:341", after := #[], guard := none }) (v := ?_) rfl (by kernel_rfl) (by kernel_rfl) (by kernel_rfl) (fun _ _ _ h => h) (Or.inl ⟨by rfl, ?_⟩) (by assumption) ?_
  rotate_left
  ·intro w hSw
   (try dsimp only at hSw)
   go_simp
   try with_reducible rfl
  try simp only [Act.put, List.setIfInBounds_toArray, List.set_cons_zero, List.set_cons_succ]
  refine wpAnyH_take (i := 2) (oi := { dst := some 15, op := Op.load 28 (Operand.tmp 3), type := 28, pos := "l03_normal.go:341", after := #[], guard := none }) (v := ?_) rfl (by kernel_rfl) (by kernel_rfl) (by kernel_rfl) (fun _ _ _ h => h) (Or.inl ⟨by rfl, ?_⟩) (by assumption) ?_
  rotate_left
  ·intro w hSw
   (try dsimp only at hSw)
   go_simp
   try with_reducible rfl
  try simp only [Act.put, List.setIfInBounds_toArray, List.set_cons_zero, List.set_cons_succ]
  refine wpAnyH_ready (rs := [1]) (by kernel_rfl) (by simp) ?_
  refine AllReadyH.cons (o := { dst := some 14, op := Op.call { callee := Callee.value (Operand.func 44), args := #[Operand.tmp 13], argTypes := #[28] }, type := 28, pos := "l03_normal.go:341", after := #[{ on := 0, ground := Ground.data }], guard := none }) rfl (fun K hK => ?_) ?_
  ·go_simp
   refine (inverse_any m p (by omega) a n cap rs _ (R1.out.below KB.out) HN.out.sims (by omega)).mono ?_
   rintro e u1 ⟨a2, n2, c2, rfl, ho, gg⟩
   have hsz := KB.out.size
   replace KB := Lib.hid (below_go KB.out gg (by omega))
   have O2 := Lib.hid ho.reads
   have hn2 : n2 ≤ 200 := by have h9 := ho.len; rw [invL_len2, HL.out] at h9; omega
   rw [← HI.out]
   clear gg ho hsz
   go_wp2_with fail
   refine hK.out _ _ ?_ (fun hHeld => ?_)
   ·with_reducible exact SH.out _ KB.out
   clear hK K
   try simp only [Act.put, List.setIfInBounds_toArray, List.set_cons_zero, List.set_cons_succ]
   refine wpAnyH_ready (rs := [3]) (by kernel_rfl) (by simp) ?_
   refine AllReadyH.cons (o := { dst := some 16, op := Op.call { callee := Callee.value (Operand.func 37), args := #[Operand.tmp 14, Operand.tmp 15], argTypes := #[28, 28] }, type := 28, pos := "l03_normal.go:341", after := #[{ on := 1, ground := Ground.data }, { on := 2, ground := Ground.data }, { on := 1, ground := Ground.chain }], guard := none }) rfl (fun K hK => ?_) ?_
   ·go_simp
    have hi9 := HI.out
    refine (times_any m m1 m8 i1 q (by omega) (by omega) a2 b n2 c2 nb capb _ ts _ O2.out (R2.out.below KB.out) ((invL_nl HN.out).turns p) HN2.out (by omega) (by omega) d0 df HD.out).mono ?_
    rintro e u2 ⟨a3, n3, c3, rfl, _, _, gg⟩
    have hsz := KB.out.size
    replace KB := Lib.hid (below_go KB.out gg (by omega))
    clear gg hsz hi9
    go_wp2_with fail
    refine hK.out _ _ ?_ (fun hHeld => ?_)
    ·with_reducible exact SH.out _ KB.out
    clear hK K
    try simp only [Act.put, List.setIfInBounds_toArray, List.set_cons_zero, List.set_cons_succ]
    refine wpAnyH_take (i := 4) (oi := { dst := some 17, op := Op.field 28 (Operand.tmp 16) 1, type := 2, pos := "l03_normal.go:341", after := #[{ on := 3, ground := Ground.data }], guard := none }) (v := ?_) rfl (by kernel_rfl) (by kernel_rfl) (by kernel_rfl) (fun _ _ _ h => h) (Or.inl ⟨by rfl, ?_⟩) (by assumption) ?_
    rotate_left
    ·intro w hSw
     (try dsimp only at hSw)
     go_simp
     try with_reducible rfl
    try simp only [Act.put, List.setIfInBounds_toArray, List.set_cons_zero, List.set_cons_succ]
    refine wpAnyH_take (i := 5) (oi := { dst := some 18, op := Op.binOp BinOp.geq 2 (Operand.tmp 17) (Operand.const (Value.int IntKind.i64 0)) 2, type := 4, pos := "l03_normal.go:341", after := #[{ on := 4, ground := Ground.data }], guard := none }) (v := ?_) rfl (by kernel_rfl) (by kernel_rfl) (by kernel_rfl) (fun _ _ _ h => h) (Or.inl ⟨by rfl, ?_⟩) (by assumption) ?_
    rotate_left
    ·intro w hSw
     (try dsimp only at hSw)
     go_simp
     try with_reducible rfl
    try simp only [Act.put, List.setIfInBounds_toArray, List.set_cons_zero, List.set_cons_succ]
    refine wpAnyH_take (i := 6) (oi := { dst := some 4, op := Op.assign (Operand.tmp 18), type := 4, pos := "l03_normal.go:341", after := #[{ on := 5, ground := Ground.data }, { on := 3, ground := Ground.chain }, { on := 0, ground := Ground.phase }, { on := 1, ground := Ground.phase }, { on := 2, ground := Ground.phase }, { on := 3, ground := Ground.phase }, { on := 4, ground := Ground.phase }, { on := 5, ground := Ground.phase }], guard := none }) (v := ?_) rfl (by kernel_rfl) (by kernel_rfl) (by kernel_rfl) (fun _ _ _ h => h) (Or.inl ⟨by rfl, ?_⟩) (by assumption) ?_
    rotate_left
    ·intro w hSw
     (try dsimp only at hSw)
     go_simp
     try with_reducible rfl
    try simp only [Act.put, List.setIfInBounds_toArray, List.set_cons_zero, List.set_cons_succ]
    refine wpAnyH_take (i := 7) (oi := { dst := some 5, op := Op.assign (Operand.const (Value.int IntKind.i64 0)), type := 2, pos := "l03_normal.go:341", after := #[{ on := 6, ground := Ground.chain }, { on := 0, ground := Ground.phase }, { on := 1, ground := Ground.phase }, { on := 2, ground := Ground.phase }, { on := 3, ground := Ground.phase }, { on := 4, ground := Ground.phase }, { on := 5, ground := Ground.phase }, { on := 6, ground := Ground.phase }], guard := none }) (v := ?_) rfl (by kernel_rfl) (by kernel_rfl) (by kernel_rfl) (fun _ _ _ h => h) (Or.inl ⟨by rfl, ?_⟩) (by assumption) ?_
    rotate_left
    ·intro w hSw
     (try dsimp only at hSw)
     go_simp
     try with_reducible rfl
    try simp only [Act.put, List.setIfInBounds_toArray, List.set_cons_zero, List.set_cons_succ]
    refine wpAnyH_done (by kernel_rfl) ?_ _
    have K9 := Lib.hid (below_go K.out KB.out K.out.size)
    go_wp2
    exact bodyPost_ret (v := .tuple #[.bool (decide (0 ≤ d0)), .int .i64 0]) (by simp [results, Try.results21, go_sem]) rfl ⟨rfl, K9.out⟩
   exact AllReadyH.nil
  exact AllReadyH.nil
 ·rw [if_neg hc0] at hM
  simp only [Prod.mk.injEq] at hM
  obtain ⟨rfl, rfl⟩ := hM
  obtain ⟨c, hc⟩ : ∃ c, c = posC s p rs t q ts := ⟨_, rfl⟩
  rw [← hc] at hc0 ⊢
  have HC := Lib.hid hc; clear hc
  have A := Lib.hid ((At3.place w (.int .i64 s) (.int .i64 p) (.slice a n cap) 28 w.heap.size rfl).alloc (.cells #[.int .i64 t, .int .i64 q, .slice b nb capb] 28))
  have X := Lib.hid (At3.place (w.alloc (.cells #[.int .i64 s, .int .i64 p, .slice a n cap] 28)) (.int .i64 t) (.int .i64 q) (.slice b nb capb) 28 (w.heap.size + 1) (by simp))
  have K := Lib.hid ((below1 w (.cells #[.int .i64 s, .int .i64 p, .slice a n cap] 28)).alloc (by simp) (.cells #[.int .i64 t, .int .i64 q, .slice b nb capb] 28))
  go_enter Try.func21, Try.ntmps21
  go_wp2_with fail
  refine (positivePairCode_any s p t q a b n cap nb capb rs ts _ ((HR.out.alloc _).alloc _) HY0.out hn ((HR2.out.alloc _).alloc _) HY1.out hn2).mono ?_
  rintro e w1 ⟨rfl, hb⟩
  have hz1 : w.heap.size + 1 + 1 ≤ w1.heap.size := by have := hb.size; simp at this; omega
  replace A := Lib.hid (A.out.below hb)
  replace X := Lib.hid (X.out.below hb)
  replace K := Lib.hid (below_go K.out hb (by simp; omega))
  clear hb
  rw [← HC.out]
  obtain ⟨x0, ⟨x1, x2, x3⟩, x4, x5, x6⟩ := A.out
  obtain ⟨y0, ⟨y1, y2, y3⟩, y4, y5, y6⟩ := X.out
  go_wp2
  exact bodyPost_ret (v := .tuple #[.bool false, .int .i64 c]) (by simp [results, Try.results21, go_sem]) rfl ⟨rfl, K.out⟩

end Go.Proofs.Ytleoohplnkdbdaa

