/- The fraction of a normal form: the program's exported function. -/
import Derived.Test.YthpmehhfhngnbaaFrIFra
import Derived.Test.YthpmehhfhngnbaaFrINorm2
namespace Go.Proofs.Ythpmehhfhngnbaa
open Go.RowKit Go.ChangeShapes

theorem OwnA.shape {B : Nat} {w : World} {a : Option Addr} {n cap : Nat} {rs : List (List Int)} (h : OwnA B w a n cap rs) : (a = none ∧ n = 0 ∧ cap = 0) ∨ ∃ ba off, a = some ⟨ba, off, none⟩ := by
 rcases h.2.2 with ⟨hv, h0⟩ | ⟨g, c, cur, hv, _⟩
 ·cases hv
  exact .inl ⟨rfl, rfl, rfl⟩
 ·cases hv
  exact .inr ⟨_, _, rfl⟩

/-- What FractionOf hands back, the one behind the other in memory. -/
def RetFraA (w : World) (f : (Int × Int × List (List Int)) × (Int × Int × List (List Int)) × Int) (e : Ending) (w' : World) : Prop :=
 ∃ a1 n1 c1 a2 n2 c2 h, e = .returned (.tuple #[.agg #[.int .i64 f.1.1, .int .i64 f.1.2.1, .slice a1 n1 c1], .agg #[.int .i64 f.2.1.1, .int .i64 f.2.1.2.1, .slice a2 n2 c2], .int .i64 f.2.2]) ∧ n1 ≤ 1048576 ∧ n2 ≤ 1048576 ∧ w.heap.size ≤ h ∧ h ≤ w'.heap.size ∧
  OwnS h w' a1 n1 f.1.2.2 ∧ OwnSIn w.heap.size h w' a2 n2 f.2.1.2.2 ∧ Below w.heap.size w w'

set_option maxRecDepth 100000 in
set_option maxHeartbeats 8000000 in
theorem implFraction_any (s p : Int) (a : Option Addr) (n cap : Nat) (rs : List (List Int)) (w : World) (hr : ReadsA w a n rs) (hn : n ≤ 1048576) (hform : (a = none ∧ n = 0 ∧ cap = 0) ∨ ∃ ba off, a = some ⟨ba, off, none⟩) (hcap : n ≤ cap) :
  Calls Try.prog 34 #[.agg #[.int .i64 s, .int .i64 p, .slice a n cap]] w (RetFraA w (mFra s p rs)) := by
 have HL := Lib.hid hr.len
 have HR := Lib.hid hr; clear hr
 have HFM := Lib.hid hform; clear hform
 have A := Lib.hid (((At3.place w (.int .i64 s) (.int .i64 p) (.slice a n cap) 28 w.heap.size rfl).alloc (.cells #[.int .i64 0, .int .i64 0, .slice none 0 0] 28)).alloc (.cells #[.int .i64 0, .int .i64 0, .slice none 0 0] 28))
 have Z1 := Lib.hid ((At3.place (w.alloc (.cells #[.int .i64 s, .int .i64 p, .slice a n cap] 28)) (.int .i64 0) (.int .i64 0) (.slice none 0 0) 28 (w.heap.size + 1) (by simp)).alloc (.cells #[.int .i64 0, .int .i64 0, .slice none 0 0] 28))
 have Z2 := Lib.hid (At3.place ((w.alloc (.cells #[.int .i64 s, .int .i64 p, .slice a n cap] 28)).alloc (.cells #[.int .i64 0, .int .i64 0, .slice none 0 0] 28)) (.int .i64 0) (.int .i64 0) (.slice none 0 0) 28 (w.heap.size + 1 + 1) (by simp))
 have B := Lib.hid ((below2 w (.cells #[.int .i64 s, .int .i64 p, .slice a n cap] 28) (.cells #[.int .i64 0, .int .i64 0, .slice none 0 0] 28)).alloc (by simp; omega) (.cells #[.int .i64 0, .int .i64 0, .slice none 0 0] 28))
 cases hB : normB s p rs with
 | true =>
  obtain ⟨m, rfl, m1, m8, hnl, hp, hlen⟩ := norm_nl HR.out.rows hB
  have HN := Lib.hid hnl; clear hnl
  rw [HL.out] at hlen
  obtain ⟨p1, p2⟩ := hp
  go_enter Try.func34, Try.ntmps34
  go_wp2_with fail
  refine (implIsNormal_any m p a n cap rs _ (HR.out.below B.out) hn).mono ?_
  rw [hB]
  rintro e w1 ⟨rfl, hb⟩
  have hz1 : w.heap.size + 1 + 1 + 1 ≤ w1.heap.size := by have := hb.size; simp at this; omega
  replace A := Lib.hid (A.out.below hb)
  replace Z1 := Lib.hid (Z1.out.below hb)
  replace Z2 := Lib.hid (Z2.out.below hb)
  replace B := Lib.hid (below_go B.out hb B.out.size)
  clear hb
  obtain ⟨q1, q2, q3⟩ := A.out.all
  go_wp2_with fail
  refine (fraction_any m p ⟨p1, p2⟩ a n cap HFM.out hcap hlen rs _ (HR.out.below B.out) HN.out.sims).mono ?_
  rintro e v2 ⟨b2, n2, k2, b3, n3, k3, h, rfl, hh, hA, hQ, hb⟩
  have SA := Lib.hid hA
  have SB := Lib.hid hQ
  have hnA : n2 ≤ 1048576 := by
   have h1 := SA.out.len
   rw [fracA_len, HL.out] at h1
   omega
  have hnB : n3 ≤ 1048576 := by
   have h1 := SB.out.1.len
   rw [List.length_drop, HL.out] at h1
   omega
  have hh2 : h ≤ v2.heap.size ∨ n2 = 0 := by
   rcases SA.out.2.2 with h0 | ⟨g, off, _, hB', hg, _⟩
   ·exact .inr h0
   ·exact .inl (by omega)
  obtain ⟨e0, he0⟩ : ∃ e0, e0 = (negK p : Int) - (endF p rs : Nat) := ⟨_, rfl⟩
  obtain ⟨e9, he9⟩ : ∃ e9, e9 = max p 0 := ⟨_, rfl⟩
  rw [← he0, ← he9]
  have hm0 : mFra (m : Int) p rs = (((m : Int), e0, fracA m (negK p) rs (endF p rs)), ((m : Int), e9, rs.drop (endF p rs)), 0) := by unfold mFra; rw [hB, he0, he9]; rfl
  have HM0 := Lib.hid hm0
  clear hm0 he0 he9
  replace Z1 := Lib.hid (Z1.out.below hb)
  replace Z2 := Lib.hid (Z2.out.below hb)
  have hv2 := hb.size
  replace B := Lib.hid (below_go B.out hb B.out.size)
  clear hA hQ hb q1 q2 q3
  have G8 := Lib.hid ((At3.place v2 (.int .i64 0) (.int .i64 0) (.slice none 0 0) 28 v2.heap.size rfl).alloc (.cells #[.int .i64 0, .int .i64 0, .slice none 0 0] 28))
  have G9 := Lib.hid (At3.place (v2.alloc (.cells #[.int .i64 0, .int .i64 0, .slice none 0 0] 28)) (.int .i64 0) (.int .i64 0) (.slice none 0 0) 28 (v2.heap.size + 1) (by simp))
  obtain ⟨u0, ⟨u1, u2, u3⟩, t1, t2, t3⟩ := G8.out
  obtain ⟨s0, ⟨s1, s2, s3⟩, r1, r2, r3⟩ := G9.out
  go_upto_region 4 with fail
  clear u0 u1 u2 u3 t1 t2 t3 s0 s1 s2 s3 r1 r2 r3 G8 G9
  have G8 := Lib.hid ((At3.place v2 (.int .i64 m) (.int .i64 e0) (.slice b2 n2 k2) 28 v2.heap.size rfl).alloc (.cells #[.int .i64 m, .int .i64 e9, .slice b3 n3 k3] 28))
  have G9 := Lib.hid (At3.place (v2.alloc (.cells #[.int .i64 m, .int .i64 e0, .slice b2 n2 k2] 28)) (.int .i64 m) (.int .i64 e9) (.slice b3 n3 k3) 28 (v2.heap.size + 1) (by simp))
  have SQ := Lib.hid SB.out.1
  have SQ2 := Lib.hid SB.out.2
  clear SB
  replace Z1 := Lib.hid ((Z1.out.alloc (.cells #[.int .i64 m, .int .i64 e0, .slice b2 n2 k2] 28)).alloc (.cells #[.int .i64 m, .int .i64 e9, .slice b3 n3 k3] 28))
  replace Z2 := Lib.hid ((Z2.out.alloc (.cells #[.int .i64 m, .int .i64 e0, .slice b2 n2 k2] 28)).alloc (.cells #[.int .i64 m, .int .i64 e9, .slice b3 n3 k3] 28))
  replace SA := Lib.hid ((SA.out.alloc (.cells #[.int .i64 m, .int .i64 e0, .slice b2 n2 k2] 28)).alloc (.cells #[.int .i64 m, .int .i64 e9, .slice b3 n3 k3] 28))
  replace SQ := Lib.hid ((SQ.out.alloc (.cells #[.int .i64 m, .int .i64 e0, .slice b2 n2 k2] 28)).alloc (.cells #[.int .i64 m, .int .i64 e9, .slice b3 n3 k3] 28))
  replace B := Lib.hid ((B.out.alloc B.out.size (.cells #[.int .i64 m, .int .i64 e0, .slice b2 n2 k2] 28)).alloc (by have := B.out.size; simp; omega) (.cells #[.int .i64 m, .int .i64 e9, .slice b3 n3 k3] 28))
  obtain ⟨U6, hU6⟩ : ∃ U, U = ((v2.alloc (.cells #[.int .i64 m, .int .i64 e0, .slice b2 n2 k2] 28)).alloc (.cells #[.int .i64 m, .int .i64 e9, .slice b3 n3 k3] 28)) := ⟨_, rfl⟩
  rw [← hU6] at G8 G9 Z1 Z2 SA SQ B ⊢
  have hzU : v2.heap.size + 1 + 1 = U6.heap.size := by rw [hU6]; simp
  clear hU6
  replace G8 := Lib.hid (G8.out.drew)
  replace G9 := Lib.hid (G9.out.drew)
  replace Z1 := Lib.hid (Z1.out.drew)
  replace Z2 := Lib.hid (Z2.out.drew)
  replace SA := Lib.hid (SA.out.below (Below.refl U6.heap.size U6).drew)
  replace SQ := Lib.hid (SQ.out.below (Below.refl U6.heap.size U6).drew)
  replace B := Lib.hid (B.out.drew)
  refine wp_region_held_drew (S := (fun w' => (w'.cell? ⟨v2.heap.size, 0, none⟩ = some (.int .i64 m) ∧ w'.cell? ⟨v2.heap.size, 1, none⟩ = some (.int .i64 e0) ∧ w'.cell? ⟨v2.heap.size, 2, none⟩ = some (.slice b2 n2 k2)) ∧ (w'.cell? ⟨v2.heap.size + 1, 0, none⟩ = some (.int .i64 m) ∧ w'.cell? ⟨v2.heap.size + 1, 1, none⟩ = some (.int .i64 e9) ∧ w'.cell? ⟨v2.heap.size + 1, 2, none⟩ = some (.slice b3 n3 k3)))) (by kernel_rfl) ?_ (fun hHeld => ?_)
  ·with_reducible exact ⟨G8.out.cells, G9.out.cells⟩
  obtain ⟨U7, hU7⟩ : ∃ U, U = U6.drew := ⟨_, rfl⟩
  rw [← hU7] at G8 G9 Z1 Z2 SA SQ B ⊢
  have hzU7 : U7.heap.size = U6.heap.size := by rw [hU7]; rfl
  clear hU7 hHeld
  have hHeld : (U7.cell? ⟨v2.heap.size, 0, none⟩ = some (.int .i64 m) ∧ U7.cell? ⟨v2.heap.size, 1, none⟩ = some (.int .i64 e0) ∧ U7.cell? ⟨v2.heap.size, 2, none⟩ = some (.slice b2 n2 k2)) ∧ (U7.cell? ⟨v2.heap.size + 1, 0, none⟩ = some (.int .i64 m) ∧ U7.cell? ⟨v2.heap.size + 1, 1, none⟩ = some (.int .i64 e9) ∧ U7.cell? ⟨v2.heap.size + 1, 2, none⟩ = some (.slice b3 n3 k3)) := ⟨G8.out.cells, G9.out.cells⟩
  refine wpAnyH_take (i := 0) (oi := { dst := some 17, op := Op.load 28 (Operand.tmp 5), type := 28, pos := "l03_normal.go:335", after := #[], guard := none }) (v := ?_) rfl (by kernel_rfl) (by kernel_rfl) (by kernel_rfl) (fun _ _ _ h => h) (Or.inl ⟨by rfl, ?_⟩) (by assumption) ?_
  rotate_left
  ·intro w hSw
   (try dsimp only at hSw)
   go_simp
   try with_reducible rfl
  try simp only [Act.put, List.setIfInBounds_toArray, List.set_cons_zero, List.set_cons_succ]
  refine wpAnyH_take (i := 1) (oi := { dst := some 18, op := Op.load 28 (Operand.tmp 6), type := 28, pos := "l03_normal.go:335", after := #[{ on := 2, ground := Ground.gcOnly Departure.lateStores }], guard := none }) (v := ?_) rfl (by kernel_rfl) (by kernel_rfl) (by kernel_rfl) (fun _ _ _ h => h) (Or.inl ⟨by rfl, ?_⟩) (by assumption) ?_
  rotate_left
  ·intro w hSw
   (try dsimp only at hSw)
   go_simp
   try with_reducible rfl
  try simp only [Act.put, List.setIfInBounds_toArray, List.set_cons_zero, List.set_cons_succ]
  refine wpAnyH_ready (rs := [2]) (by kernel_rfl) (by simp) ?_
  refine AllReadyH.cons (o := { dst := none, op := Op.store 28 (Operand.tmp 2) (Operand.tmp 17), type := 0, pos := "l03_normal.go:335", after := #[{ on := 0, ground := Ground.data }, { on := 0, ground := Ground.phase }, { on := 1, ground := Ground.textOnly Departure.lateStores }], guard := none }) rfl (fun K hK => ?_) ?_
  ·obtain ⟨z0, ⟨z1, z2, z3⟩, z4, z5, z6⟩ := Z1.out
   go_simp
   clear z0 z1 z2 z3 z4 z5 z6
   replace G8 := Lib.hid (G8.out.set3 (g2 := w.heap.size + 1) (by omega) (.int .i64 m) (.int .i64 e0) (.slice b2 n2 k2))
   replace G9 := Lib.hid (G9.out.set3 (g2 := w.heap.size + 1) (by omega) (.int .i64 m) (.int .i64 e0) (.slice b2 n2 k2))
   replace Z1 := Lib.hid (Z1.out.fill (.int .i64 m) (.int .i64 e0) (.slice b2 n2 k2))
   replace Z2 := Lib.hid (Z2.out.set3 (g2 := w.heap.size + 1) (by omega) (.int .i64 m) (.int .i64 e0) (.slice b2 n2 k2))
   replace SA := Lib.hid (SA.out.set3 (g2 := w.heap.size + 1) (by omega) (.int .i64 m) (.int .i64 e0) (.slice b2 n2 k2))
   replace SQ := Lib.hid (SQ.out.set3 (g2 := w.heap.size + 1) (by omega) (.int .i64 m) (.int .i64 e0) (.slice b2 n2 k2))
   replace B := Lib.hid (below_set3 (g2 := w.heap.size + 1) B.out (by omega) (.int .i64 m) (.int .i64 e0) (.slice b2 n2 k2))
   obtain ⟨U8, hU8⟩ : ∃ U, U = (((U7.setCell ⟨w.heap.size + 1, 0, none⟩ (.int .i64 m)).setCell ⟨w.heap.size + 1, 1, none⟩ (.int .i64 e0)).setCell ⟨w.heap.size + 1, 2, none⟩ (.slice b2 n2 k2)) := ⟨_, rfl⟩
   rw [← hU8] at G8 G9 Z1 Z2 SA SQ B ⊢
   have hzU8 : U8.heap.size = U6.heap.size := by rw [hU8]; simp [World.setCell, hzU7]
   clear hU8
   refine hK.out _ _ ?_ (fun hHeld => ?_)
   ·with_reducible exact ⟨G8.out.cells, G9.out.cells⟩
   clear hK K
   try simp only [Act.put, List.setIfInBounds_toArray, List.set_cons_zero, List.set_cons_succ]
   refine wpAnyH_ready (rs := [3]) (by kernel_rfl) (by simp) ?_
   refine AllReadyH.cons (o := { dst := none, op := Op.store 28 (Operand.tmp 3) (Operand.tmp 18), type := 0, pos := "l03_normal.go:335", after := #[{ on := 1, ground := Ground.data }, { on := 2, ground := Ground.chain }, { on := 0, ground := Ground.phase }, { on := 1, ground := Ground.phase }, { on := 2, ground := Ground.phase }], guard := none }) rfl (fun K hK => ?_) ?_
   ·obtain ⟨z0, ⟨z1, z2, z3⟩, z4, z5, z6⟩ := Z2.out
    go_simp
    clear z0 z1 z2 z3 z4 z5 z6
    replace G8 := Lib.hid (G8.out.set3 (g2 := w.heap.size + 1 + 1) (by omega) (.int .i64 m) (.int .i64 e9) (.slice b3 n3 k3))
    replace G9 := Lib.hid (G9.out.set3 (g2 := w.heap.size + 1 + 1) (by omega) (.int .i64 m) (.int .i64 e9) (.slice b3 n3 k3))
    replace Z1 := Lib.hid (Z1.out.set3 (g2 := w.heap.size + 1 + 1) (by omega) (.int .i64 m) (.int .i64 e9) (.slice b3 n3 k3))
    replace Z2 := Lib.hid (Z2.out.fill (.int .i64 m) (.int .i64 e9) (.slice b3 n3 k3))
    replace SA := Lib.hid (SA.out.set3 (g2 := w.heap.size + 1 + 1) (by omega) (.int .i64 m) (.int .i64 e9) (.slice b3 n3 k3))
    replace SQ := Lib.hid (SQ.out.set3 (g2 := w.heap.size + 1 + 1) (by omega) (.int .i64 m) (.int .i64 e9) (.slice b3 n3 k3))
    replace B := Lib.hid (below_set3 (g2 := w.heap.size + 1 + 1) B.out (by omega) (.int .i64 m) (.int .i64 e9) (.slice b3 n3 k3))
    obtain ⟨U9, hU9⟩ : ∃ U, U = (((U8.setCell ⟨w.heap.size + 1 + 1, 0, none⟩ (.int .i64 m)).setCell ⟨w.heap.size + 1 + 1, 1, none⟩ (.int .i64 e9)).setCell ⟨w.heap.size + 1 + 1, 2, none⟩ (.slice b3 n3 k3)) := ⟨_, rfl⟩
    rw [← hU9] at G8 G9 Z1 Z2 SA SQ B ⊢
    have hzU9 : U9.heap.size = U6.heap.size := by rw [hU9]; simp [World.setCell, hzU8]
    clear hU9
    refine hK.out _ _ ?_ (fun hHeld => ?_)
    ·with_reducible exact ⟨G8.out.cells, G9.out.cells⟩
    clear hK K
    try simp only [Act.put, List.setIfInBounds_toArray, List.set_cons_zero, List.set_cons_succ]
    refine wpAnyH_ready (rs := [4]) (by kernel_rfl) (by simp) ?_
    refine AllReadyH.cons (o := { dst := some 4, op := Op.assign (Operand.const (Value.int IntKind.i64 0)), type := 2, pos := "l03_normal.go:335", after := #[{ on := 3, ground := Ground.chain }, { on := 0, ground := Ground.phase }, { on := 1, ground := Ground.phase }, { on := 2, ground := Ground.phase }, { on := 3, ground := Ground.phase }], guard := none }) rfl (fun K hK => ?_) ?_
    ·go_simp
     refine hK.out _ _ ?_ (fun hHeld => ?_)
     ·with_reducible exact ⟨G8.out.cells, G9.out.cells⟩
     clear hK K
     try simp only [Act.put, List.setIfInBounds_toArray, List.set_cons_zero, List.set_cons_succ]
     refine wpAnyH_done (by kernel_rfl) ?_ _
     go_wp2
     try rw [Exit.noGoto_ret]
     rw [HM0.out]
     have SQL : Hid (∀ y, b3 = some y → n3 = 0 ∨ y.block < U9.heap.size) := Lib.hid (fun y hy => by rcases SQ.out.2.2 with h0 | ⟨g, off, e, _, hg, _⟩; exact .inl h0; rw [e] at hy; cases hy; exact .inr hg)
     obtain ⟨e1, e2, e3⟩ := Z1.out.cells
     obtain ⟨f1, f2, f3⟩ := Z2.out.cells
     exact bodyPost_ret (v := .tuple #[.agg #[.int .i64 m, .int .i64 e0, .slice b2 n2 k2], .agg #[.int .i64 m, .int .i64 e9, .slice b3 n3 k3], .int .i64 0]) (by simp [results, Try.results34, go_sem, e1, e2, e3, f1, f2, f3]) rfl ⟨b2, n2, k2, b3, n3, k3, min h U9.heap.size, rfl, hnA, hnB, by omega, Nat.min_le_right _ _, SA.out.mono (Nat.min_le_left _ _), ⟨SQ.out.mono (by omega), by rcases Nat.eq_zero_or_pos n3 with h0 | h0; exact .inl h0; exact .inr (fun y hy => by have h1 := SQ2.out.resolve_left (by omega) y hy; have h2 := (SQL.out y hy).resolve_left (by omega); omega)⟩, B.out⟩
    exact AllReadyH.nil
   exact AllReadyH.nil
  exact AllReadyH.nil
 | false =>
  have hM : mFra s p rs = ((0, 0, []), (0, 0, []), 1) := by unfold mFra; rw [hB]; rfl
  rw [hM]
  go_enter Try.func34, Try.ntmps34
  go_wp2_with fail
  refine (implIsNormal_any s p a n cap rs _ (HR.out.below B.out) hn).mono ?_
  rw [hB]
  rintro e w1 ⟨rfl, hb⟩
  have hz1 : w.heap.size + 1 + 1 + 1 ≤ w1.heap.size := by have := hb.size; simp at this; omega
  replace Z1 := Lib.hid (Z1.out.below hb)
  replace Z2 := Lib.hid (Z2.out.below hb)
  replace B := Lib.hid (below_go B.out hb B.out.size)
  clear hb
  obtain ⟨x0, ⟨x1, x2, x3⟩, y1, y2, y3⟩ := Z1.out
  obtain ⟨u0, ⟨u1, u2, u3⟩, v1, v2, v3⟩ := Z2.out
  go_wp2
  try rw [Exit.noGoto_ret]
  obtain ⟨e1, e2, e3⟩ := ((Z1.out.fill (.int .i64 0) (.int .i64 0) (.slice none 0 0)).set3 (g2 := w.heap.size + 1 + 1) (by omega) (.int .i64 0) (.int .i64 0) (.slice none 0 0)).cells
  obtain ⟨f1, f2, f3⟩ := ((Z2.out.set3 (g2 := w.heap.size + 1) (by omega) (.int .i64 0) (.int .i64 0) (.slice none 0 0)).fill (.int .i64 0) (.int .i64 0) (.slice none 0 0)).cells
  exact bodyPost_ret (v := .tuple #[.agg #[.int .i64 0, .int .i64 0, .slice none 0 0], .agg #[.int .i64 0, .int .i64 0, .slice none 0 0], .int .i64 1]) (by simp [results, Try.results34, go_sem, e1, e2, e3, f1, f2, f3]) rfl ⟨none, 0, 0, none, 0, 0, w.heap.size, rfl, by omega, by omega, Nat.le_refl _, by simp [World.setCell]; omega, OwnS.nil _ _ _, ⟨OwnS.nil _ _ _, .inl rfl⟩, below_set3 (below_set3 B.out (by omega) _ _ _) (by omega) _ _ _⟩

end Go.Proofs.Ythpmehhfhngnbaa

