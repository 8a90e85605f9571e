/- Conjugates of normal forms: the model and the program. -/
import Derived.Test.YtleoohplnkdbdabCjNMul
import Derived.Test.YtleoohplnkdbdabCjSInv
import Derived.Test.YtleoohplnkdbdabCjIInv
namespace Go.Proofs.Ytleoohplnkdbdab
open Go.RowKit Go.ChangeShapes

theorem l03Fit_own {B : Nat} (s q : Int) (a : Option Addr) (n cap : Nat) (rs : List (List Int)) (w : World) (ho : OwnS B w a n rs) (fs fp : Int) (frs : List (List Int)) (fc : Int) (hf : fitN s q rs = (fs, fp, frs, fc)) :
  Calls Try.prog 34 #[.agg #[.int .i64 s, .int .i64 q, .slice a n cap]] w fun e w' => ∃ b m d, e = .returned (.tuple #[.agg #[.int .i64 fs, .int .i64 fp, .slice b m d], .int .i64 fc]) ∧ OwnS B w' b m frs ∧ m ≤ 200 ∧ (m = 0 ∨ b = a ∧ m = n) ∧ Below w.heap.size w w' := by
 unfold fitN at hf
 by_cases hc : -200 ≤ q ∧ q ≤ 200 ∧ n ≤ 200
 ·rw [if_pos (by rw [ho.len]; exact hc)] at hf
  simp only [Prod.mk.injEq] at hf
  obtain ⟨rfl, rfl, rfl, rfl⟩ := hf
  exact (l03Fit_yes s q a n cap w hc).mono fun e w' ⟨he, hb⟩ => ⟨a, n, cap, he, ho.below hb, hc.2.2, .inr ⟨rfl, rfl⟩, hb⟩
 ·rw [if_neg (by rw [ho.len]; exact hc)] at hf
  simp only [Prod.mk.injEq] at hf
  obtain ⟨rfl, rfl, rfl, rfl⟩ := hf
  exact (l03Fit_no s q a n cap w hc).mono fun e w' ⟨he, hb⟩ => ⟨none, 0, 0, he, OwnS.nil _ _ _, by omega, .inl rfl, hb⟩

theorem limited_own {B : Nat} (s q : Int) (a : Option Addr) (n cap : Nat) (rs : List (List Int)) (w : World) (ho : OwnS B w a n rs) (fs fp : Int) (frs : List (List Int)) (fc : Int) (hf : fitN s q rs = (fs, fp, frs, fc)) :
  Calls Try.prog 55 #[.agg #[.int .i64 s, .int .i64 q, .slice a n cap]] w fun e w' => ∃ b m d, e = .returned (.tuple #[.agg #[.int .i64 fs, .int .i64 fp, .slice b m d], .int .i64 fc]) ∧ OwnS B w' b m frs ∧ m ≤ 200 ∧ (m = 0 ∨ b = a ∧ m = n) ∧ Below w.heap.size w w' := by
 unfold fitN at hf
 by_cases hc : -200 ≤ q ∧ q ≤ 200 ∧ n ≤ 200
 ·rw [if_pos (by rw [ho.len]; exact hc)] at hf
  simp only [Prod.mk.injEq] at hf
  obtain ⟨rfl, rfl, rfl, rfl⟩ := hf
  exact (limited_yes s q a n cap w hc).mono fun e w' ⟨he, hb⟩ => ⟨a, n, cap, he, ho.below hb, hc.2.2, .inr ⟨rfl, rfl⟩, hb⟩
 ·rw [if_neg (by rw [ho.len]; exact hc)] at hf
  simp only [Prod.mk.injEq] at hf
  obtain ⟨rfl, rfl, rfl, rfl⟩ := hf
  exact (limited_no s q a n cap w hc).mono fun e w' ⟨he, hb⟩ => ⟨none, 0, 0, he, OwnS.nil _ _ _, by omega, .inl rfl, hb⟩

/-- The inverse of the second, and the first. -/
def cj1 (m : Nat) (p : Int) (rs : List (List Int)) (q : Int) (ts : List (List Int)) : Int × List (List Int) := mkN m (-(ts.length : Int) - q + p) (turns m p (turns m q (invL m ts)) ++ rs)

/-- The conjugate, or the code. -/
def mConj (s p : Int) (rs : List (List Int)) (t q : Int) (ts : List (List Int)) : Int × Int × List (List Int) × Int :=
 if pairC s p rs t q ts = 0 then
  (if (fitN s (cj1 s.toNat p rs q ts).1 (cj1 s.toNat p rs q ts).2).2.2.2 = 0 then fitN s (mkN s.toNat ((cj1 s.toNat p rs q ts).1 + q) (turns s.toNat q (cj1 s.toNat p rs q ts).2 ++ ts)).1 (mkN s.toNat ((cj1 s.toNat p rs q ts).1 + q) (turns s.toNat q (cj1 s.toNat p rs q ts).2 ++ ts)).2 else (0, 0, [], 3))
 else (0, 0, [], pairC s p rs t q ts)

theorem fitN_ok {s q : Int} {rs : List (List Int)} {fs fp : Int} {frs : List (List Int)} {fc : Int} (h : fitN s q rs = (fs, fp, frs, fc)) (h0 : fc = 0) : s = fs ∧ q = fp ∧ rs = frs ∧ -200 ≤ q ∧ q ≤ 200 ∧ rs.length ≤ 200 := by
 unfold fitN at h
 split at h
 ·rename_i hc
  simp only [Prod.mk.injEq] at h
  exact ⟨h.1, h.2.1, h.2.2.1, hc⟩
 ·simp only [Prod.mk.injEq] at h
  omega

theorem fitN_no {s q : Int} {rs : List (List Int)} {fs fp : Int} {frs : List (List Int)} {fc : Int} (h : fitN s q rs = (fs, fp, frs, fc)) (h0 : ¬ fc = 0) : fs = 0 ∧ fp = 0 ∧ frs = [] ∧ fc = 3 := by
 unfold fitN at h
 split at h
 ·simp only [Prod.mk.injEq] at h
  omega
 ·simp only [Prod.mk.injEq] at h
  exact ⟨h.1.symm, h.2.1.symm, h.2.2.1.symm, h.2.2.2.symm⟩

set_option maxRecDepth 100000 in
set_option maxHeartbeats 4000000 in
theorem specConj_any (s p : Int) (a : Option Addr) (n cap : Nat) (rs : List (List Int)) (t q : Int) (b : Option Addr) (nb capb : Nat) (ts : List (List Int)) (w : World) (hr : ReadsA w a n rs) (hy : BytesA rs) (hn : n ≤ 1048576) (hr2 : ReadsA w b nb ts) (hy2 : BytesA ts) (hn2 : nb ≤ 1048576) (fs fp : Int) (frs : List (List Int)) (fc : Int) (hM : mConj s p rs t q ts = (fs, fp, frs, fc)) :
  Calls Try.prog 21 #[.agg #[.int .i64 s, .int .i64 p, .slice a n cap], .agg #[.int .i64 t, .int .i64 q, .slice b nb capb]] w (RetNCS w fs fp frs fc) := by
 have HL := Lib.hid hr.len
 have HL2 := Lib.hid hr2.len
 have HR := Lib.hid hr; clear hr
 have HR2 := Lib.hid hr2; clear hr2
 have HY0 := Lib.hid hy; clear hy
 have HY1 := Lib.hid hy2; clear hy2
 unfold mConj at hM
 by_cases hc0 : pairC s p rs t q ts = 0
 ·obtain ⟨hB, hB2, rfl⟩ := pairC_ok hc0
  rw [if_pos hc0] at hM
  obtain ⟨m, rfl, m1, m8, hnl, hp, hlen⟩ := norm_nl HR.out.rows hB
  obtain ⟨m', hm', _, _, hnl2, hq, hlen2⟩ := norm_nl HR2.out.rows hB2
  obtain rfl : m = m' := by omega
  clear hm'
  rw [Int.toNat_natCast] at hM
  have HN := Lib.hid hnl; clear hnl
  have HN2 := Lib.hid hnl2; clear hnl2
  rw [HL.out] at hlen
  rw [HL2.out] at hlen2
  have HNI := Lib.hid ((invL_nl HN2.out).turns q)
  have HLI : Hid ((turns m q (invL m ts)).length = nb) := Lib.hid (by rw [turns_len, invL_len, HL2.out])
  obtain ⟨e1, k1, hk1⟩ : ∃ e1 k1, cj1 m p rs q ts = (e1, k1) := ⟨_, _, rfl⟩
  rw [hk1] at hM
  have HK1 : Hid (mkN m (-(nb : Int) - q + p) (turns m p (turns m q (invL m ts)) ++ rs) = (e1, k1)) := Lib.hid (by rw [← HL2.out]; exact hk1)
  have HKL : Hid (k1.length ≤ 400) := Lib.hid (by
   have := (mkN_len m (-(nb : Int) - q + p) (turns m p (turns m q (invL m ts)) ++ rs)).1
   rw [HK1.out, List.length_append, turns_len, HLI.out, HL.out] at this
   dsimp only at this
   omega)
  have HNK : Hid (Nl m k1) := Lib.hid (by
   have := mkN_nl (n := m) (p := -(nb : Int) - q + p) (l := turns m p (turns m q (invL m ts)) ++ rs) (Sims.app (HNI.out.turns p).sims HN.out.sims)
   rw [HK1.out] at this
   exact this)
  clear hk1
  obtain ⟨gs, gq, grs, gc, hg⟩ : ∃ gs gq grs gc, fitN m e1 k1 = (gs, gq, grs, gc) := ⟨_, _, _, _, rfl⟩
  dsimp only at hM
  rw [hg] at hM
  have HG := Lib.hid hg; clear hg
  have HM := Lib.hid hM; clear hM
  have HC0 := Lib.hid hc0; clear hc0
  go_enter Try.func21, Try.ntmps21
  have A := Lib.hid (((At3.place w (.int .i64 m) (.int .i64 p) (.slice a n cap) 28 w.heap.size rfl).alloc (.cells #[.int .i64 m, .int .i64 q, .slice b nb capb] 28)).alloc (.cells #[.int .i64 0, .int .i64 0, .slice none 0 0] 28))
  have X := Lib.hid ((At3.place (w.alloc (.cells #[.int .i64 m, .int .i64 p, .slice a n cap] 28)) (.int .i64 m) (.int .i64 q) (.slice b nb capb) 28 (w.heap.size + 1) (by simp)).alloc (.cells #[.int .i64 0, .int .i64 0, .slice none 0 0] 28))
  have Z := Lib.hid (At3.place ((w.alloc (.cells #[.int .i64 m, .int .i64 p, .slice a n cap] 28)).alloc (.cells #[.int .i64 m, .int .i64 q, .slice b nb capb] 28)) (.int .i64 0) (.int .i64 0) (.slice none 0 0) 28 (w.heap.size + 1 + 1) (by simp))
  have B := Lib.hid (((below1 w (.cells #[.int .i64 m, .int .i64 p, .slice a n cap] 28)).alloc (by simp) (.cells #[.int .i64 m, .int .i64 q, .slice b nb capb] 28)).alloc (by simp; omega) (.cells #[.int .i64 0, .int .i64 0, .slice none 0 0] 28))
  obtain ⟨q1, q2, q3⟩ := A.out.all
  obtain ⟨r1, r2, r3⟩ := X.out.all
  go_wp2_with fail
  refine (l03Both_any m p m q a b n cap nb capb rs ts _ (((HR.out.alloc _).alloc _).alloc _) HY0.out hn (((HR2.out.alloc _).alloc _).alloc _) HY1.out hn2).mono ?_
  rw [HC0.out]
  rintro e w1 ⟨rfl, hb⟩
  have hz1 : w.heap.size + 1 + 1 + 1 ≤ w1.heap.size := by have := hb.size; simp at this; omega
  clear q1 q2 q3 r1 r2 r3
  replace A := Lib.hid (A.out.below hb)
  replace X := Lib.hid (X.out.below hb)
  replace Z := Lib.hid (Z.out.below hb)
  replace B := Lib.hid (below_go B.out hb (by simp; omega))
  clear hb
  obtain ⟨q1, q2, q3⟩ := A.out.all
  obtain ⟨r1, r2, r3⟩ := X.out.all
  go_upto_region 4 with fail
  go_cut [7, 8] from 18 to 25 (fun x6 x7 wx => ∃ g b2 m2 d2, x6 = .pointer (some ⟨g, 0, none⟩) ∧ x7 = .int .i64 gc ∧ m2 ≤ 200 ∧ w1.heap.size ≤ g ∧ At3 wx g (.int .i64 gs) (.int .i64 gq) (.slice b2 m2 d2) ∧ OwnS w1.heap.size wx b2 m2 grs ∧ Below w1.heap.size w1 wx)
  case first =>
   have KB : Hid (Below w1.heap.size w1 w1.drew) := Lib.hid (Below.refl w1.heap.size w1).drew
   have SH : Hid (∀ W, Below w1.heap.size w1 W → (W.cell? ⟨w.heap.size, 0, none⟩ = some (.int .i64 m) ∧ W.cell? ⟨w.heap.size, 1, none⟩ = some (.int .i64 p) ∧ W.cell? ⟨w.heap.size, 2, none⟩ = some (.slice a n cap)) ∧ (W.cell? ⟨w.heap.size + 1, 0, none⟩ = some (.int .i64 m) ∧ W.cell? ⟨w.heap.size + 1, 1, none⟩ = some (.int .i64 q) ∧ W.cell? ⟨w.heap.size + 1, 2, none⟩ = some (.slice b nb capb))) := Lib.hid fun W h => ⟨(A.out.below h).all, (X.out.below h).all⟩
   have SZ : Hid (∀ W, Below w1.heap.size w1 W → ∀ g, w1.heap.size ≤ g → ∀ u v x, ((((W.setCell ⟨g, 0, none⟩ u).setCell ⟨g, 1, none⟩ v).setCell ⟨g, 2, none⟩ x).cell? ⟨w.heap.size, 0, none⟩ = some (.int .i64 m) ∧ (((W.setCell ⟨g, 0, none⟩ u).setCell ⟨g, 1, none⟩ v).setCell ⟨g, 2, none⟩ x).cell? ⟨w.heap.size, 1, none⟩ = some (.int .i64 p) ∧ (((W.setCell ⟨g, 0, none⟩ u).setCell ⟨g, 1, none⟩ v).setCell ⟨g, 2, none⟩ x).cell? ⟨w.heap.size, 2, none⟩ = some (.slice a n cap)) ∧ ((((W.setCell ⟨g, 0, none⟩ u).setCell ⟨g, 1, none⟩ v).setCell ⟨g, 2, none⟩ x).cell? ⟨w.heap.size + 1, 0, none⟩ = some (.int .i64 m) ∧ (((W.setCell ⟨g, 0, none⟩ u).setCell ⟨g, 1, none⟩ v).setCell ⟨g, 2, none⟩ x).cell? ⟨w.heap.size + 1, 1, none⟩ = some (.int .i64 q) ∧ (((W.setCell ⟨g, 0, none⟩ u).setCell ⟨g, 1, none⟩ v).setCell ⟨g, 2, none⟩ x).cell? ⟨w.heap.size + 1, 2, none⟩ = some (.slice b nb capb))) := Lib.hid fun W h g hg u v x => ⟨((A.out.below h).set3 (g2 := g) (by omega) u v x).all, ((X.out.below h).set3 (g2 := g) (by omega) u v x).all⟩
   refine wp_region_held_drew (S := (fun w' => (w'.cell? ⟨w.heap.size, 0, none⟩ = some (.int .i64 m) ∧ w'.cell? ⟨w.heap.size, 1, none⟩ = some (.int .i64 p) ∧ w'.cell? ⟨w.heap.size, 2, none⟩ = some (.slice a n cap)) ∧ (w'.cell? ⟨w.heap.size + 1, 0, none⟩ = some (.int .i64 m) ∧ w'.cell? ⟨w.heap.size + 1, 1, none⟩ = some (.int .i64 q) ∧ w'.cell? ⟨w.heap.size + 1, 2, none⟩ = some (.slice b nb capb)))) (by kernel_rfl) ?_ (fun hHeld => ?_)
   ·first | with_reducible exact SH.out _ KB.out | with_reducible exact SZ.out _ KB.out _ zG.out _ _ _
   refine wpAnyH_take (i := 0) (oi := { dst := some 19, op := Op.load 28 (Operand.tmp 3), type := 28, pos := "l04_conjugacy.go:12", after := #[], guard := none }) (v := ?_) rfl (by kernel_rfl) (by kernel_rfl) (by kernel_rfl) (fun _ _ _ h => h) (Or.inl ⟨by rfl, ?_⟩) (by assumption) ?_
   rotate_left
   ·intro w hSw
    (try dsimp only at hSw)
    go_simp
    try with_reducible rfl
   try simp only [Act.put, List.setIfInBounds_toArray, List.set_cons_zero, List.set_cons_succ]
   refine wpAnyH_take (i := 2) (oi := { dst := some 21, op := Op.load 28 (Operand.tmp 2), type := 28, pos := "l04_conjugacy.go:12", after := #[], guard := none }) (v := ?_) rfl (by kernel_rfl) (by kernel_rfl) (by kernel_rfl) (fun _ _ _ h => h) (Or.inl ⟨by rfl, ?_⟩) (by assumption) ?_
   rotate_left
   ·intro w hSw
    (try dsimp only at hSw)
    go_simp
    try with_reducible rfl
   try simp only [Act.put, List.setIfInBounds_toArray, List.set_cons_zero, List.set_cons_succ]
   refine wpAnyH_ready (rs := [1, 8]) (by kernel_rfl) (by simp) ?_
   refine AllReadyH.cons (o := { dst := some 20, op := Op.call { callee := Callee.value (Operand.func 52), args := #[Operand.tmp 19], argTypes := #[28] }, type := 28, pos := "l04_conjugacy.go:12", after := #[{ on := 0, ground := Ground.data }], guard := none }) rfl (fun K hK => ?_) ?_
   ·go_simp
    refine (l03Inverse_any m m1 m8 q (by omega) b nb capb ts _ (((HR2.out.below B.out)).below KB.out) HN2.out (by omega)).mono ?_
    rintro e u1 ⟨x1, y1, z1, rfl, ho, gg⟩
    have I : Hid (OwnS w1.heap.size u1 x1 y1 (turns m q (invL m ts))) := Lib.hid (ho.toS.mono KB.out.size)
    have HY1L : y1 = nb := by have := ho.len; rw [HLI.out] at this; exact this.symm
    replace KB := Lib.hid (below_go KB.out gg KB.out.size)
    clear ho gg
    subst HY1L
    go_wp2_with fail
    refine hK.out _ _ ?_ (fun hHeld => ?_)
    ·first | with_reducible exact SH.out _ KB.out | with_reducible exact SZ.out _ KB.out _ zG.out _ _ _
    clear hK K
    try simp only [Act.put, List.setIfInBounds_toArray, List.set_cons_zero, List.set_cons_succ]
    refine wpAnyH_ready (rs := [3, 8]) (by kernel_rfl) (by simp) ?_
    refine AllReadyH.cons (o := { dst := some 22, op := Op.call { callee := Callee.value (Operand.func 51), args := #[Operand.tmp 20, Operand.tmp 21], argTypes := #[28, 28] }, type := 28, pos := "l04_conjugacy.go:12", after := #[{ on := 1, ground := Ground.data }, { on := 2, ground := Ground.data }, { on := 1, ground := Ground.chain }], guard := none }) rfl (fun K hK => ?_) ?_
    ·go_simp
     refine (l03Product_any m m1 m8 (-(y1 : Int) - q) p (by omega) (by omega) x1 a y1 z1 n cap (turns m q (invL m ts)) rs _ I.out.reads ((HR.out.below B.out).below KB.out) HNI.out.sims HN.out.sims (by omega) (by omega) e1 k1 HK1.out).mono ?_
     rintro e u3 ⟨x3, y3, z3, rfl, ho, gg⟩
     replace I := Lib.hid (I.out.below gg)
     have P : Hid (OwnS w1.heap.size u3 x3 y3 k1) := Lib.hid (OwnS.mono (ho.toS) KB.out.size)
     replace KB := Lib.hid (below_go KB.out gg KB.out.size)
     clear ho gg
     go_wp2_with fail
     refine hK.out _ _ ?_ (fun hHeld => ?_)
     ·first | with_reducible exact SH.out _ KB.out | with_reducible exact SZ.out _ KB.out _ zG.out _ _ _
     clear hK K
     try simp only [Act.put, List.setIfInBounds_toArray, List.set_cons_zero, List.set_cons_succ]
     refine wpAnyH_ready (rs := [4, 8]) (by kernel_rfl) (by simp) ?_
     refine AllReadyH.cons (o := { dst := some 23, op := Op.call { callee := Callee.value (Operand.func 34), args := #[Operand.tmp 22], argTypes := #[28] }, type := 29, pos := "l04_conjugacy.go:12", after := #[{ on := 3, ground := Ground.data }, { on := 3, ground := Ground.chain }], guard := none }) rfl (fun K hK => ?_) ?_
     ·go_simp
      refine (l03Fit_own m e1 x3 y3 z3 k1 _ P.out _ _ _ _ HG.out).mono ?_
      rintro e u4 ⟨x4, y4, z4, rfl, ho, h200, hre, gg⟩
      replace I := Lib.hid (I.out.below gg)
      replace P := Lib.hid (P.out.below gg)
      have Q : Hid (OwnS w1.heap.size u4 x4 y4 grs) := Lib.hid ho
      replace KB := Lib.hid (below_go KB.out gg KB.out.size)
      clear ho gg
      go_wp2_with fail
      refine hK.out _ _ ?_ (fun hHeld => ?_)
      ·first | with_reducible exact SH.out _ KB.out | with_reducible exact SZ.out _ KB.out _ zG.out _ _ _
      clear hK K
      try simp only [Act.put, List.setIfInBounds_toArray, List.set_cons_zero, List.set_cons_succ]
      refine wpAnyH_take (i := 5) (oi := { dst := some 18, op := Op.move (Operand.tmp 23), type := 29, pos := "l04_conjugacy.go:12", after := #[{ on := 4, ground := Ground.data }], guard := none }) (v := ?_) rfl (by kernel_rfl) (by kernel_rfl) (by kernel_rfl) (fun _ _ _ h => h) (Or.inl ⟨by rfl, ?_⟩) (by assumption) ?_
      rotate_left
      ·intro w hSw
       (try dsimp only at hSw)
       go_simp
       try with_reducible rfl
      try simp only [Act.put, List.setIfInBounds_toArray, List.set_cons_zero, List.set_cons_succ]
      refine wpAnyH_take (i := 6) (oi := { dst := some 24, op := Op.extract (Operand.tmp 18) 0, type := 28, pos := "l04_conjugacy.go:12", after := #[{ on := 5, ground := Ground.data }], guard := none }) (v := ?_) rfl (by kernel_rfl) (by kernel_rfl) (by kernel_rfl) (fun _ _ _ h => h) (Or.inl ⟨by rfl, ?_⟩) (by assumption) ?_
      rotate_left
      ·intro w hSw
       (try dsimp only at hSw)
       go_simp
       try with_reducible rfl
      try simp only [Act.put, List.setIfInBounds_toArray, List.set_cons_zero, List.set_cons_succ]
      refine wpAnyH_take (i := 7) (oi := { dst := some 25, op := Op.extract (Operand.tmp 18) 1, type := 2, pos := "l04_conjugacy.go:12", after := #[{ on := 5, ground := Ground.data }, { on := 9, ground := Ground.gcOnly Departure.lateStores }], guard := none }) (v := ?_) rfl (by kernel_rfl) (by kernel_rfl) (by kernel_rfl) (fun _ _ _ h => h) (Or.inl ⟨by rfl, ?_⟩) (by assumption) ?_
      rotate_left
      ·intro w hSw
       (try dsimp only at hSw)
       go_simp
       try with_reducible rfl
      try simp only [Act.put, List.setIfInBounds_toArray, List.set_cons_zero, List.set_cons_succ]
      refine wpAnyH_ready (rs := [8]) (by kernel_rfl) (by simp) ?_
      refine AllReadyH.cons (o := { dst := some 7, op := Op.alloc 28, type := 0, pos := "l04_conjugacy.go:12", after := #[], guard := none }) rfl (fun K hK => ?_) ?_
      ·go_simp
       have QA := Lib.hid (Q.out.apartHi (g := u4.heap.size) (Nat.le_refl _))
       replace I : Hid (OwnS w1.heap.size (u4.alloc (.cells #[.int .i64 0, .int .i64 0, .slice none 0 0] 28)) x1 y1 (turns m q (invL m ts))) := Lib.hid (I.out.alloc (.cells #[.int .i64 0, .int .i64 0, .slice none 0 0] 28))
       replace P : Hid (OwnS w1.heap.size (u4.alloc (.cells #[.int .i64 0, .int .i64 0, .slice none 0 0] 28)) x3 y3 k1) := Lib.hid (P.out.alloc (.cells #[.int .i64 0, .int .i64 0, .slice none 0 0] 28))
       replace Q : Hid (OwnS w1.heap.size (u4.alloc (.cells #[.int .i64 0, .int .i64 0, .slice none 0 0] 28)) x4 y4 grs) := Lib.hid (Q.out.alloc (.cells #[.int .i64 0, .int .i64 0, .slice none 0 0] 28))
       have Z0 : Hid (At3 (u4.alloc (.cells #[.int .i64 0, .int .i64 0, .slice none 0 0] 28)) (u4.heap.size) (.int .i64 0) (.int .i64 0) (.slice none 0 0)) := Lib.hid ((At3.place u4 (.int .i64 0) (.int .i64 0) (.slice none 0 0) 28 (u4.heap.size) (by simp)))
       have zG : Hid (w1.heap.size ≤ u4.heap.size) := Lib.hid (by first | exact Nat.le_refl _ | exact KB.out.size)
       replace KB : Hid (Below w1.heap.size w1 (u4.alloc (.cells #[.int .i64 0, .int .i64 0, .slice none 0 0] 28))) := Lib.hid (KB.out.alloc KB.out.size (.cells #[.int .i64 0, .int .i64 0, .slice none 0 0] 28))
       obtain ⟨V8, hV8⟩ : ∃ V, V = (u4.alloc (.cells #[.int .i64 0, .int .i64 0, .slice none 0 0] 28)) := ⟨_, rfl⟩
       rw [← hV8] at KB I P Q Z0 ⊢
       clear hV8
       refine hK.out _ _ ?_ (fun hHeld => ?_)
       ·first | with_reducible exact SH.out _ KB.out | with_reducible exact SZ.out _ KB.out _ zG.out _ _ _
       clear hK K
       try simp only [Act.put, List.setIfInBounds_toArray, List.set_cons_zero, List.set_cons_succ]
       refine wpAnyH_ready (rs := [9]) (by kernel_rfl) (by simp) ?_
       refine AllReadyH.cons (o := { dst := none, op := Op.store 28 (Operand.tmp 7) (Operand.tmp 24), type := 0, pos := "l04_conjugacy.go:12", after := #[{ on := 8, ground := Ground.data }, { on := 6, ground := Ground.data }, { on := 4, ground := Ground.chain }, { on := 0, ground := Ground.phase }, { on := 1, ground := Ground.phase }, { on := 2, ground := Ground.phase }, { on := 3, ground := Ground.phase }, { on := 4, ground := Ground.phase }, { on := 5, ground := Ground.phase }, { on := 6, ground := Ground.phase }, { on := 7, ground := Ground.textOnly Departure.lateStores }, { on := 8, ground := Ground.phase }], guard := none }) rfl (fun K hK => ?_) ?_
       ·obtain ⟨w0, ⟨w1', w2', w3'⟩, w4', w5', w6'⟩ := Z0.out
        go_simp
        clear w0 w1' w2' w3' w4' w5' w6'
        replace Z0 := Lib.hid (Z0.out.fill (.int .i64 gs) (.int .i64 gq) (.slice x4 y4 z4))
        replace Q := Lib.hid (Q.out.past3 QA.out (.int .i64 gs) (.int .i64 gq) (.slice x4 y4 z4))
        replace KB := Lib.hid (below_set3 KB.out zG.out (.int .i64 gs) (.int .i64 gq) (.slice x4 y4 z4))
        obtain ⟨V9, hV9⟩ : ∃ V, V = (((V8.setCell ⟨u4.heap.size, 0, none⟩ (.int .i64 gs)).setCell ⟨u4.heap.size, 1, none⟩ (.int .i64 gq)).setCell ⟨u4.heap.size, 2, none⟩ (.slice x4 y4 z4)) := ⟨_, rfl⟩
        rw [← hV9] at Z0 Q KB ⊢
        clear hV9
        refine hK.out _ _ ?_ (fun hHeld => ?_)
        ·first | with_reducible exact SH.out _ KB.out | with_reducible exact SZ.out _ KB.out _ zG.out _ _ _
        clear hK K
        try simp only [Act.put, List.setIfInBounds_toArray, List.set_cons_zero, List.set_cons_succ]
        refine wpAnyH_ready (rs := [10]) (by kernel_rfl) (by simp) ?_
        refine AllReadyH.cons (o := { dst := some 8, op := Op.assign (Operand.tmp 25), type := 2, pos := "l04_conjugacy.go:12", after := #[{ on := 7, ground := Ground.data }, { on := 9, ground := Ground.chain }, { on := 0, ground := Ground.phase }, { on := 1, ground := Ground.phase }, { on := 2, ground := Ground.phase }, { on := 3, ground := Ground.phase }, { on := 4, ground := Ground.phase }, { on := 5, ground := Ground.phase }, { on := 6, ground := Ground.phase }, { on := 7, ground := Ground.phase }, { on := 8, ground := Ground.phase }, { on := 9, ground := Ground.phase }], guard := none }) rfl (fun K hK => ?_) ?_
        ·go_simp
         refine hK.out _ _ ?_ (fun hHeld => ?_)
         ·first | with_reducible exact SH.out _ KB.out | with_reducible exact SZ.out _ KB.out _ zG.out _ _ _
         clear hK K
         try simp only [Act.put, List.setIfInBounds_toArray, List.set_cons_zero, List.set_cons_succ]
         refine wpAnyH_done (by kernel_rfl) ?_ _
         go_wp2_with fail
         go_meet
         exact ⟨_, _, _, _, rfl, rfl, h200, zG.out, Z0.out, Q.out, KB.out⟩
        exact AllReadyH.nil
       exact AllReadyH.nil
      exact AllReadyH.nil
     refine AllReadyH.cons (o := { dst := some 7, op := Op.alloc 28, type := 0, pos := "l04_conjugacy.go:12", after := #[], guard := none }) rfl (fun K hK => ?_) ?_
     ·go_simp
      have PA := Lib.hid (P.out.apartHi (g := u3.heap.size) (Nat.le_refl _))
      replace I : Hid (OwnS w1.heap.size (u3.alloc (.cells #[.int .i64 0, .int .i64 0, .slice none 0 0] 28)) x1 y1 (turns m q (invL m ts))) := Lib.hid (I.out.alloc (.cells #[.int .i64 0, .int .i64 0, .slice none 0 0] 28))
      replace P : Hid (OwnS w1.heap.size (u3.alloc (.cells #[.int .i64 0, .int .i64 0, .slice none 0 0] 28)) x3 y3 k1) := Lib.hid (P.out.alloc (.cells #[.int .i64 0, .int .i64 0, .slice none 0 0] 28))
      have Z0 : Hid (At3 (u3.alloc (.cells #[.int .i64 0, .int .i64 0, .slice none 0 0] 28)) (u3.heap.size) (.int .i64 0) (.int .i64 0) (.slice none 0 0)) := Lib.hid ((At3.place u3 (.int .i64 0) (.int .i64 0) (.slice none 0 0) 28 (u3.heap.size) (by simp)))
      have zG : Hid (w1.heap.size ≤ u3.heap.size) := Lib.hid (by first | exact Nat.le_refl _ | exact KB.out.size)
      replace KB : Hid (Below w1.heap.size w1 (u3.alloc (.cells #[.int .i64 0, .int .i64 0, .slice none 0 0] 28))) := Lib.hid (KB.out.alloc KB.out.size (.cells #[.int .i64 0, .int .i64 0, .slice none 0 0] 28))
      obtain ⟨V8, hV8⟩ : ∃ V, V = (u3.alloc (.cells #[.int .i64 0, .int .i64 0, .slice none 0 0] 28)) := ⟨_, rfl⟩
      rw [← hV8] at KB I P Z0 ⊢
      clear hV8
      refine hK.out _ _ ?_ (fun hHeld => ?_)
      ·first | with_reducible exact SH.out _ KB.out | with_reducible exact SZ.out _ KB.out _ zG.out _ _ _
      clear hK K
      try simp only [Act.put, List.setIfInBounds_toArray, List.set_cons_zero, List.set_cons_succ]
      refine wpAnyH_ready (rs := [4]) (by kernel_rfl) (by simp) ?_
      refine AllReadyH.cons (o := { dst := some 23, op := Op.call { callee := Callee.value (Operand.func 34), args := #[Operand.tmp 22], argTypes := #[28] }, type := 29, pos := "l04_conjugacy.go:12", after := #[{ on := 3, ground := Ground.data }, { on := 3, ground := Ground.chain }], guard := none }) rfl (fun K hK => ?_) ?_
      ·go_simp
       refine (l03Fit_own m e1 x3 y3 z3 k1 _ P.out _ _ _ _ HG.out).mono ?_
       rintro e u4 ⟨x4, y4, z4, rfl, ho, h200, hre, gg⟩
       replace I := Lib.hid (I.out.below gg)
       replace P := Lib.hid (P.out.below gg)
       replace Z0 := Lib.hid (Z0.out.below gg)
       have Q : Hid (OwnS w1.heap.size u4 x4 y4 grs) := Lib.hid ho
       have QA : Hid (y4 = 0 ∨ ∀ x, x4 = some x → x.block ≠ u3.heap.size) := Lib.hid (by rcases hre with h | ⟨h, h'⟩; exact .inl h; (rw [h, h']; exact PA.out))
       replace KB := Lib.hid (below_go KB.out gg KB.out.size)
       clear ho gg
       go_wp2_with fail
       refine hK.out _ _ ?_ (fun hHeld => ?_)
       ·first | with_reducible exact SH.out _ KB.out | with_reducible exact SZ.out _ KB.out _ zG.out _ _ _
       clear hK K
       try simp only [Act.put, List.setIfInBounds_toArray, List.set_cons_zero, List.set_cons_succ]
       refine wpAnyH_take (i := 5) (oi := { dst := some 18, op := Op.move (Operand.tmp 23), type := 29, pos := "l04_conjugacy.go:12", after := #[{ on := 4, ground := Ground.data }], guard := none }) (v := ?_) rfl (by kernel_rfl) (by kernel_rfl) (by kernel_rfl) (fun _ _ _ h => h) (Or.inl ⟨by rfl, ?_⟩) (by assumption) ?_
       rotate_left
       ·intro w hSw
        (try dsimp only at hSw)
        go_simp
        try with_reducible rfl
       try simp only [Act.put, List.setIfInBounds_toArray, List.set_cons_zero, List.set_cons_succ]
       refine wpAnyH_take (i := 6) (oi := { dst := some 24, op := Op.extract (Operand.tmp 18) 0, type := 28, pos := "l04_conjugacy.go:12", after := #[{ on := 5, ground := Ground.data }], guard := none }) (v := ?_) rfl (by kernel_rfl) (by kernel_rfl) (by kernel_rfl) (fun _ _ _ h => h) (Or.inl ⟨by rfl, ?_⟩) (by assumption) ?_
       rotate_left
       ·intro w hSw
        (try dsimp only at hSw)
        go_simp
        try with_reducible rfl
       try simp only [Act.put, List.setIfInBounds_toArray, List.set_cons_zero, List.set_cons_succ]
       refine wpAnyH_take (i := 7) (oi := { dst := some 25, op := Op.extract (Operand.tmp 18) 1, type := 2, pos := "l04_conjugacy.go:12", after := #[{ on := 5, ground := Ground.data }, { on := 9, ground := Ground.gcOnly Departure.lateStores }], guard := none }) (v := ?_) rfl (by kernel_rfl) (by kernel_rfl) (by kernel_rfl) (fun _ _ _ h => h) (Or.inl ⟨by rfl, ?_⟩) (by assumption) ?_
       rotate_left
       ·intro w hSw
        (try dsimp only at hSw)
        go_simp
        try with_reducible rfl
       try simp only [Act.put, List.setIfInBounds_toArray, List.set_cons_zero, List.set_cons_succ]
       refine wpAnyH_ready (rs := [9]) (by kernel_rfl) (by simp) ?_
       refine AllReadyH.cons (o := { dst := none, op := Op.store 28 (Operand.tmp 7) (Operand.tmp 24), type := 0, pos := "l04_conjugacy.go:12", after := #[{ on := 8, ground := Ground.data }, { on := 6, ground := Ground.data }, { on := 4, ground := Ground.chain }, { on := 0, ground := Ground.phase }, { on := 1, ground := Ground.phase }, { on := 2, ground := Ground.phase }, { on := 3, ground := Ground.phase }, { on := 4, ground := Ground.phase }, { on := 5, ground := Ground.phase }, { on := 6, ground := Ground.phase }, { on := 7, ground := Ground.textOnly Departure.lateStores }, { on := 8, ground := Ground.phase }], guard := none }) rfl (fun K hK => ?_) ?_
       ·obtain ⟨w0, ⟨w1', w2', w3'⟩, w4', w5', w6'⟩ := Z0.out
        go_simp
        clear w0 w1' w2' w3' w4' w5' w6'
        replace Z0 := Lib.hid (Z0.out.fill (.int .i64 gs) (.int .i64 gq) (.slice x4 y4 z4))
        replace Q := Lib.hid (Q.out.past3 QA.out (.int .i64 gs) (.int .i64 gq) (.slice x4 y4 z4))
        replace KB := Lib.hid (below_set3 KB.out zG.out (.int .i64 gs) (.int .i64 gq) (.slice x4 y4 z4))
        obtain ⟨V9, hV9⟩ : ∃ V, V = (((u4.setCell ⟨u3.heap.size, 0, none⟩ (.int .i64 gs)).setCell ⟨u3.heap.size, 1, none⟩ (.int .i64 gq)).setCell ⟨u3.heap.size, 2, none⟩ (.slice x4 y4 z4)) := ⟨_, rfl⟩
        rw [← hV9] at Z0 Q KB ⊢
        clear hV9
        refine hK.out _ _ ?_ (fun hHeld => ?_)
        ·first | with_reducible exact SH.out _ KB.out | with_reducible exact SZ.out _ KB.out _ zG.out _ _ _
        clear hK K
        try simp only [Act.put, List.setIfInBounds_toArray, List.set_cons_zero, List.set_cons_succ]
        refine wpAnyH_ready (rs := [10]) (by kernel_rfl) (by simp) ?_
        refine AllReadyH.cons (o := { dst := some 8, op := Op.assign (Operand.tmp 25), type := 2, pos := "l04_conjugacy.go:12", after := #[{ on := 7, ground := Ground.data }, { on := 9, ground := Ground.chain }, { on := 0, ground := Ground.phase }, { on := 1, ground := Ground.phase }, { on := 2, ground := Ground.phase }, { on := 3, ground := Ground.phase }, { on := 4, ground := Ground.phase }, { on := 5, ground := Ground.phase }, { on := 6, ground := Ground.phase }, { on := 7, ground := Ground.phase }, { on := 8, ground := Ground.phase }, { on := 9, ground := Ground.phase }], guard := none }) rfl (fun K hK => ?_) ?_
        ·go_simp
         refine hK.out _ _ ?_ (fun hHeld => ?_)
         ·first | with_reducible exact SH.out _ KB.out | with_reducible exact SZ.out _ KB.out _ zG.out _ _ _
         clear hK K
         try simp only [Act.put, List.setIfInBounds_toArray, List.set_cons_zero, List.set_cons_succ]
         refine wpAnyH_done (by kernel_rfl) ?_ _
         go_wp2_with fail
         go_meet
         exact ⟨_, _, _, _, rfl, rfl, h200, zG.out, Z0.out, Q.out, KB.out⟩
        exact AllReadyH.nil
       exact AllReadyH.nil
      exact AllReadyH.nil
     exact AllReadyH.nil
    refine AllReadyH.cons (o := { dst := some 7, op := Op.alloc 28, type := 0, pos := "l04_conjugacy.go:12", after := #[], guard := none }) rfl (fun K hK => ?_) ?_
    ·go_simp
     replace I : Hid (OwnS w1.heap.size (u1.alloc (.cells #[.int .i64 0, .int .i64 0, .slice none 0 0] 28)) x1 y1 (turns m q (invL m ts))) := Lib.hid (I.out.alloc (.cells #[.int .i64 0, .int .i64 0, .slice none 0 0] 28))
     have Z0 : Hid (At3 (u1.alloc (.cells #[.int .i64 0, .int .i64 0, .slice none 0 0] 28)) (u1.heap.size) (.int .i64 0) (.int .i64 0) (.slice none 0 0)) := Lib.hid ((At3.place u1 (.int .i64 0) (.int .i64 0) (.slice none 0 0) 28 (u1.heap.size) (by simp)))
     have zG : Hid (w1.heap.size ≤ u1.heap.size) := Lib.hid (by first | exact Nat.le_refl _ | exact KB.out.size)
     replace KB : Hid (Below w1.heap.size w1 (u1.alloc (.cells #[.int .i64 0, .int .i64 0, .slice none 0 0] 28))) := Lib.hid (KB.out.alloc KB.out.size (.cells #[.int .i64 0, .int .i64 0, .slice none 0 0] 28))
     obtain ⟨V8, hV8⟩ : ∃ V, V = (u1.alloc (.cells #[.int .i64 0, .int .i64 0, .slice none 0 0] 28)) := ⟨_, rfl⟩
     rw [← hV8] at KB I Z0 ⊢
     clear hV8
     refine hK.out _ _ ?_ (fun hHeld => ?_)
     ·first | with_reducible exact SH.out _ KB.out | with_reducible exact SZ.out _ KB.out _ zG.out _ _ _
     clear hK K
     try simp only [Act.put, List.setIfInBounds_toArray, List.set_cons_zero, List.set_cons_succ]
     refine wpAnyH_ready (rs := [3]) (by kernel_rfl) (by simp) ?_
     refine AllReadyH.cons (o := { dst := some 22, op := Op.call { callee := Callee.value (Operand.func 51), args := #[Operand.tmp 20, Operand.tmp 21], argTypes := #[28, 28] }, type := 28, pos := "l04_conjugacy.go:12", after := #[{ on := 1, ground := Ground.data }, { on := 2, ground := Ground.data }, { on := 1, ground := Ground.chain }], guard := none }) rfl (fun K hK => ?_) ?_
     ·go_simp
      refine (l03Product_any m m1 m8 (-(y1 : Int) - q) p (by omega) (by omega) x1 a y1 z1 n cap (turns m q (invL m ts)) rs _ I.out.reads ((HR.out.below B.out).below KB.out) HNI.out.sims HN.out.sims (by omega) (by omega) e1 k1 HK1.out).mono ?_
      rintro e u3 ⟨x3, y3, z3, rfl, ho, gg⟩
      have PA := Lib.hid (OwnS.apart (g := u1.heap.size) (ho.toS) Z0.out.1)
      replace I := Lib.hid (I.out.below gg)
      replace Z0 := Lib.hid (Z0.out.below gg)
      have P : Hid (OwnS w1.heap.size u3 x3 y3 k1) := Lib.hid (OwnS.mono (ho.toS) KB.out.size)
      replace KB := Lib.hid (below_go KB.out gg KB.out.size)
      clear ho gg
      go_wp2_with fail
      refine hK.out _ _ ?_ (fun hHeld => ?_)
      ·first | with_reducible exact SH.out _ KB.out | with_reducible exact SZ.out _ KB.out _ zG.out _ _ _
      clear hK K
      try simp only [Act.put, List.setIfInBounds_toArray, List.set_cons_zero, List.set_cons_succ]
      refine wpAnyH_ready (rs := [4]) (by kernel_rfl) (by simp) ?_
      refine AllReadyH.cons (o := { dst := some 23, op := Op.call { callee := Callee.value (Operand.func 34), args := #[Operand.tmp 22], argTypes := #[28] }, type := 29, pos := "l04_conjugacy.go:12", after := #[{ on := 3, ground := Ground.data }, { on := 3, ground := Ground.chain }], guard := none }) rfl (fun K hK => ?_) ?_
      ·go_simp
       refine (l03Fit_own m e1 x3 y3 z3 k1 _ P.out _ _ _ _ HG.out).mono ?_
       rintro e u4 ⟨x4, y4, z4, rfl, ho, h200, hre, gg⟩
       replace I := Lib.hid (I.out.below gg)
       replace P := Lib.hid (P.out.below gg)
       replace Z0 := Lib.hid (Z0.out.below gg)
       have Q : Hid (OwnS w1.heap.size u4 x4 y4 grs) := Lib.hid ho
       have QA : Hid (y4 = 0 ∨ ∀ x, x4 = some x → x.block ≠ u1.heap.size) := Lib.hid (by rcases hre with h | ⟨h, h'⟩; exact .inl h; (rw [h, h']; exact PA.out))
       replace KB := Lib.hid (below_go KB.out gg KB.out.size)
       clear ho gg
       go_wp2_with fail
       refine hK.out _ _ ?_ (fun hHeld => ?_)
       ·first | with_reducible exact SH.out _ KB.out | with_reducible exact SZ.out _ KB.out _ zG.out _ _ _
       clear hK K
       try simp only [Act.put, List.setIfInBounds_toArray, List.set_cons_zero, List.set_cons_succ]
       refine wpAnyH_take (i := 5) (oi := { dst := some 18, op := Op.move (Operand.tmp 23), type := 29, pos := "l04_conjugacy.go:12", after := #[{ on := 4, ground := Ground.data }], guard := none }) (v := ?_) rfl (by kernel_rfl) (by kernel_rfl) (by kernel_rfl) (fun _ _ _ h => h) (Or.inl ⟨by rfl, ?_⟩) (by assumption) ?_
       rotate_left
       ·intro w hSw
        (try dsimp only at hSw)
        go_simp
        try with_reducible rfl
       try simp only [Act.put, List.setIfInBounds_toArray, List.set_cons_zero, List.set_cons_succ]
       refine wpAnyH_take (i := 6) (oi := { dst := some 24, op := Op.extract (Operand.tmp 18) 0, type := 28, pos := "l04_conjugacy.go:12", after := #[{ on := 5, ground := Ground.data }], guard := none }) (v := ?_) rfl (by kernel_rfl) (by kernel_rfl) (by kernel_rfl) (fun _ _ _ h => h) (Or.inl ⟨by rfl, ?_⟩) (by assumption) ?_
       rotate_left
       ·intro w hSw
        (try dsimp only at hSw)
        go_simp
        try with_reducible rfl
       try simp only [Act.put, List.setIfInBounds_toArray, List.set_cons_zero, List.set_cons_succ]
       refine wpAnyH_take (i := 7) (oi := { dst := some 25, op := Op.extract (Operand.tmp 18) 1, type := 2, pos := "l04_conjugacy.go:12", after := #[{ on := 5, ground := Ground.data }, { on := 9, ground := Ground.gcOnly Departure.lateStores }], guard := none }) (v := ?_) rfl (by kernel_rfl) (by kernel_rfl) (by kernel_rfl) (fun _ _ _ h => h) (Or.inl ⟨by rfl, ?_⟩) (by assumption) ?_
       rotate_left
       ·intro w hSw
        (try dsimp only at hSw)
        go_simp
        try with_reducible rfl
       try simp only [Act.put, List.setIfInBounds_toArray, List.set_cons_zero, List.set_cons_succ]
       refine wpAnyH_ready (rs := [9]) (by kernel_rfl) (by simp) ?_
       refine AllReadyH.cons (o := { dst := none, op := Op.store 28 (Operand.tmp 7) (Operand.tmp 24), type := 0, pos := "l04_conjugacy.go:12", after := #[{ on := 8, ground := Ground.data }, { on := 6, ground := Ground.data }, { on := 4, ground := Ground.chain }, { on := 0, ground := Ground.phase }, { on := 1, ground := Ground.phase }, { on := 2, ground := Ground.phase }, { on := 3, ground := Ground.phase }, { on := 4, ground := Ground.phase }, { on := 5, ground := Ground.phase }, { on := 6, ground := Ground.phase }, { on := 7, ground := Ground.textOnly Departure.lateStores }, { on := 8, ground := Ground.phase }], guard := none }) rfl (fun K hK => ?_) ?_
       ·obtain ⟨w0, ⟨w1', w2', w3'⟩, w4', w5', w6'⟩ := Z0.out
        go_simp
        clear w0 w1' w2' w3' w4' w5' w6'
        replace Z0 := Lib.hid (Z0.out.fill (.int .i64 gs) (.int .i64 gq) (.slice x4 y4 z4))
        replace Q := Lib.hid (Q.out.past3 QA.out (.int .i64 gs) (.int .i64 gq) (.slice x4 y4 z4))
        replace KB := Lib.hid (below_set3 KB.out zG.out (.int .i64 gs) (.int .i64 gq) (.slice x4 y4 z4))
        obtain ⟨V9, hV9⟩ : ∃ V, V = (((u4.setCell ⟨u1.heap.size, 0, none⟩ (.int .i64 gs)).setCell ⟨u1.heap.size, 1, none⟩ (.int .i64 gq)).setCell ⟨u1.heap.size, 2, none⟩ (.slice x4 y4 z4)) := ⟨_, rfl⟩
        rw [← hV9] at Z0 Q KB ⊢
        clear hV9
        refine hK.out _ _ ?_ (fun hHeld => ?_)
        ·first | with_reducible exact SH.out _ KB.out | with_reducible exact SZ.out _ KB.out _ zG.out _ _ _
        clear hK K
        try simp only [Act.put, List.setIfInBounds_toArray, List.set_cons_zero, List.set_cons_succ]
        refine wpAnyH_ready (rs := [10]) (by kernel_rfl) (by simp) ?_
        refine AllReadyH.cons (o := { dst := some 8, op := Op.assign (Operand.tmp 25), type := 2, pos := "l04_conjugacy.go:12", after := #[{ on := 7, ground := Ground.data }, { on := 9, ground := Ground.chain }, { on := 0, ground := Ground.phase }, { on := 1, ground := Ground.phase }, { on := 2, ground := Ground.phase }, { on := 3, ground := Ground.phase }, { on := 4, ground := Ground.phase }, { on := 5, ground := Ground.phase }, { on := 6, ground := Ground.phase }, { on := 7, ground := Ground.phase }, { on := 8, ground := Ground.phase }, { on := 9, ground := Ground.phase }], guard := none }) rfl (fun K hK => ?_) ?_
        ·go_simp
         refine hK.out _ _ ?_ (fun hHeld => ?_)
         ·first | with_reducible exact SH.out _ KB.out | with_reducible exact SZ.out _ KB.out _ zG.out _ _ _
         clear hK K
         try simp only [Act.put, List.setIfInBounds_toArray, List.set_cons_zero, List.set_cons_succ]
         refine wpAnyH_done (by kernel_rfl) ?_ _
         go_wp2_with fail
         go_meet
         exact ⟨_, _, _, _, rfl, rfl, h200, zG.out, Z0.out, Q.out, KB.out⟩
        exact AllReadyH.nil
       exact AllReadyH.nil
      exact AllReadyH.nil
     exact AllReadyH.nil
    exact AllReadyH.nil
   refine AllReadyH.cons (o := { dst := some 7, op := Op.alloc 28, type := 0, pos := "l04_conjugacy.go:12", after := #[], guard := none }) rfl (fun K hK => ?_) ?_
   ·go_simp
    have Z0 : Hid (At3 (w1.alloc (.cells #[.int .i64 0, .int .i64 0, .slice none 0 0] 28)).drew (w1.heap.size) (.int .i64 0) (.int .i64 0) (.slice none 0 0)) := Lib.hid ((At3.place w1 (.int .i64 0) (.int .i64 0) (.slice none 0 0) 28 (w1.heap.size) (by simp)).drew)
    have zG : Hid (w1.heap.size ≤ w1.heap.size) := Lib.hid (by first | exact Nat.le_refl _ | exact KB.out.size)
    replace KB : Hid (Below w1.heap.size w1 (w1.alloc (.cells #[.int .i64 0, .int .i64 0, .slice none 0 0] 28)).drew) := Lib.hid (KB.out.alloc KB.out.size (.cells #[.int .i64 0, .int .i64 0, .slice none 0 0] 28))
    refine hK.out _ _ ?_ (fun hHeld => ?_)
    ·first | with_reducible exact SH.out _ KB.out | with_reducible exact SZ.out _ KB.out _ zG.out _ _ _
    clear hK K
    try simp only [Act.put, List.setIfInBounds_toArray, List.set_cons_zero, List.set_cons_succ]
    refine wpAnyH_ready (rs := [1]) (by kernel_rfl) (by simp) ?_
    refine AllReadyH.cons (o := { dst := some 20, op := Op.call { callee := Callee.value (Operand.func 52), args := #[Operand.tmp 19], argTypes := #[28] }, type := 28, pos := "l04_conjugacy.go:12", after := #[{ on := 0, ground := Ground.data }], guard := none }) rfl (fun K hK => ?_) ?_
    ·go_simp
     refine (l03Inverse_any m m1 m8 q (by omega) b nb capb ts _ (((HR2.out.below B.out)).below KB.out) HN2.out (by omega)).mono ?_
     rintro e u1 ⟨x1, y1, z1, rfl, ho, gg⟩
     replace Z0 := Lib.hid (Z0.out.below gg)
     have I : Hid (OwnS w1.heap.size u1 x1 y1 (turns m q (invL m ts))) := Lib.hid (ho.toS.mono KB.out.size)
     have HY1L : y1 = nb := by have := ho.len; rw [HLI.out] at this; exact this.symm
     replace KB := Lib.hid (below_go KB.out gg KB.out.size)
     clear ho gg
     subst HY1L
     go_wp2_with fail
     refine hK.out _ _ ?_ (fun hHeld => ?_)
     ·first | with_reducible exact SH.out _ KB.out | with_reducible exact SZ.out _ KB.out _ zG.out _ _ _
     clear hK K
     try simp only [Act.put, List.setIfInBounds_toArray, List.set_cons_zero, List.set_cons_succ]
     refine wpAnyH_ready (rs := [3]) (by kernel_rfl) (by simp) ?_
     refine AllReadyH.cons (o := { dst := some 22, op := Op.call { callee := Callee.value (Operand.func 51), args := #[Operand.tmp 20, Operand.tmp 21], argTypes := #[28, 28] }, type := 28, pos := "l04_conjugacy.go:12", after := #[{ on := 1, ground := Ground.data }, { on := 2, ground := Ground.data }, { on := 1, ground := Ground.chain }], guard := none }) rfl (fun K hK => ?_) ?_
     ·go_simp
      refine (l03Product_any m m1 m8 (-(y1 : Int) - q) p (by omega) (by omega) x1 a y1 z1 n cap (turns m q (invL m ts)) rs _ I.out.reads ((HR.out.below B.out).below KB.out) HNI.out.sims HN.out.sims (by omega) (by omega) e1 k1 HK1.out).mono ?_
      rintro e u3 ⟨x3, y3, z3, rfl, ho, gg⟩
      have PA := Lib.hid (OwnS.apart (g := w1.heap.size) (ho.toS) Z0.out.1)
      replace I := Lib.hid (I.out.below gg)
      replace Z0 := Lib.hid (Z0.out.below gg)
      have P : Hid (OwnS w1.heap.size u3 x3 y3 k1) := Lib.hid (OwnS.mono (ho.toS) KB.out.size)
      replace KB := Lib.hid (below_go KB.out gg KB.out.size)
      clear ho gg
      go_wp2_with fail
      refine hK.out _ _ ?_ (fun hHeld => ?_)
      ·first | with_reducible exact SH.out _ KB.out | with_reducible exact SZ.out _ KB.out _ zG.out _ _ _
      clear hK K
      try simp only [Act.put, List.setIfInBounds_toArray, List.set_cons_zero, List.set_cons_succ]
      refine wpAnyH_ready (rs := [4]) (by kernel_rfl) (by simp) ?_
      refine AllReadyH.cons (o := { dst := some 23, op := Op.call { callee := Callee.value (Operand.func 34), args := #[Operand.tmp 22], argTypes := #[28] }, type := 29, pos := "l04_conjugacy.go:12", after := #[{ on := 3, ground := Ground.data }, { on := 3, ground := Ground.chain }], guard := none }) rfl (fun K hK => ?_) ?_
      ·go_simp
       refine (l03Fit_own m e1 x3 y3 z3 k1 _ P.out _ _ _ _ HG.out).mono ?_
       rintro e u4 ⟨x4, y4, z4, rfl, ho, h200, hre, gg⟩
       replace I := Lib.hid (I.out.below gg)
       replace P := Lib.hid (P.out.below gg)
       replace Z0 := Lib.hid (Z0.out.below gg)
       have Q : Hid (OwnS w1.heap.size u4 x4 y4 grs) := Lib.hid ho
       have QA : Hid (y4 = 0 ∨ ∀ x, x4 = some x → x.block ≠ w1.heap.size) := Lib.hid (by rcases hre with h | ⟨h, h'⟩; exact .inl h; (rw [h, h']; exact PA.out))
       replace KB := Lib.hid (below_go KB.out gg KB.out.size)
       clear ho gg
       go_wp2_with fail
       refine hK.out _ _ ?_ (fun hHeld => ?_)
       ·first | with_reducible exact SH.out _ KB.out | with_reducible exact SZ.out _ KB.out _ zG.out _ _ _
       clear hK K
       try simp only [Act.put, List.setIfInBounds_toArray, List.set_cons_zero, List.set_cons_succ]
       refine wpAnyH_take (i := 5) (oi := { dst := some 18, op := Op.move (Operand.tmp 23), type := 29, pos := "l04_conjugacy.go:12", after := #[{ on := 4, ground := Ground.data }], guard := none }) (v := ?_) rfl (by kernel_rfl) (by kernel_rfl) (by kernel_rfl) (fun _ _ _ h => h) (Or.inl ⟨by rfl, ?_⟩) (by assumption) ?_
       rotate_left
       ·intro w hSw
        (try dsimp only at hSw)
        go_simp
        try with_reducible rfl
       try simp only [Act.put, List.setIfInBounds_toArray, List.set_cons_zero, List.set_cons_succ]
       refine wpAnyH_take (i := 6) (oi := { dst := some 24, op := Op.extract (Operand.tmp 18) 0, type := 28, pos := "l04_conjugacy.go:12", after := #[{ on := 5, ground := Ground.data }], guard := none }) (v := ?_) rfl (by kernel_rfl) (by kernel_rfl) (by kernel_rfl) (fun _ _ _ h => h) (Or.inl ⟨by rfl, ?_⟩) (by assumption) ?_
       rotate_left
       ·intro w hSw
        (try dsimp only at hSw)
        go_simp
        try with_reducible rfl
       try simp only [Act.put, List.setIfInBounds_toArray, List.set_cons_zero, List.set_cons_succ]
       refine wpAnyH_take (i := 7) (oi := { dst := some 25, op := Op.extract (Operand.tmp 18) 1, type := 2, pos := "l04_conjugacy.go:12", after := #[{ on := 5, ground := Ground.data }, { on := 9, ground := Ground.gcOnly Departure.lateStores }], guard := none }) (v := ?_) rfl (by kernel_rfl) (by kernel_rfl) (by kernel_rfl) (fun _ _ _ h => h) (Or.inl ⟨by rfl, ?_⟩) (by assumption) ?_
       rotate_left
       ·intro w hSw
        (try dsimp only at hSw)
        go_simp
        try with_reducible rfl
       try simp only [Act.put, List.setIfInBounds_toArray, List.set_cons_zero, List.set_cons_succ]
       refine wpAnyH_ready (rs := [9]) (by kernel_rfl) (by simp) ?_
       refine AllReadyH.cons (o := { dst := none, op := Op.store 28 (Operand.tmp 7) (Operand.tmp 24), type := 0, pos := "l04_conjugacy.go:12", after := #[{ on := 8, ground := Ground.data }, { on := 6, ground := Ground.data }, { on := 4, ground := Ground.chain }, { on := 0, ground := Ground.phase }, { on := 1, ground := Ground.phase }, { on := 2, ground := Ground.phase }, { on := 3, ground := Ground.phase }, { on := 4, ground := Ground.phase }, { on := 5, ground := Ground.phase }, { on := 6, ground := Ground.phase }, { on := 7, ground := Ground.textOnly Departure.lateStores }, { on := 8, ground := Ground.phase }], guard := none }) rfl (fun K hK => ?_) ?_
       ·obtain ⟨w0, ⟨w1', w2', w3'⟩, w4', w5', w6'⟩ := Z0.out
        go_simp
        clear w0 w1' w2' w3' w4' w5' w6'
        replace Z0 := Lib.hid (Z0.out.fill (.int .i64 gs) (.int .i64 gq) (.slice x4 y4 z4))
        replace Q := Lib.hid (Q.out.past3 QA.out (.int .i64 gs) (.int .i64 gq) (.slice x4 y4 z4))
        replace KB := Lib.hid (below_set3 KB.out zG.out (.int .i64 gs) (.int .i64 gq) (.slice x4 y4 z4))
        obtain ⟨V9, hV9⟩ : ∃ V, V = (((u4.setCell ⟨w1.heap.size, 0, none⟩ (.int .i64 gs)).setCell ⟨w1.heap.size, 1, none⟩ (.int .i64 gq)).setCell ⟨w1.heap.size, 2, none⟩ (.slice x4 y4 z4)) := ⟨_, rfl⟩
        rw [← hV9] at Z0 Q KB ⊢
        clear hV9
        refine hK.out _ _ ?_ (fun hHeld => ?_)
        ·first | with_reducible exact SH.out _ KB.out | with_reducible exact SZ.out _ KB.out _ zG.out _ _ _
        clear hK K
        try simp only [Act.put, List.setIfInBounds_toArray, List.set_cons_zero, List.set_cons_succ]
        refine wpAnyH_ready (rs := [10]) (by kernel_rfl) (by simp) ?_
        refine AllReadyH.cons (o := { dst := some 8, op := Op.assign (Operand.tmp 25), type := 2, pos := "l04_conjugacy.go:12", after := #[{ on := 7, ground := Ground.data }, { on := 9, ground := Ground.chain }, { on := 0, ground := Ground.phase }, { on := 1, ground := Ground.phase }, { on := 2, ground := Ground.phase }, { on := 3, ground := Ground.phase }, { on := 4, ground := Ground.phase }, { on := 5, ground := Ground.phase }, { on := 6, ground := Ground.phase }, { on := 7, ground := Ground.phase }, { on := 8, ground := Ground.phase }, { on := 9, ground := Ground.phase }], guard := none }) rfl (fun K hK => ?_) ?_
        ·go_simp
         refine hK.out _ _ ?_ (fun hHeld => ?_)
         ·first | with_reducible exact SH.out _ KB.out | with_reducible exact SZ.out _ KB.out _ zG.out _ _ _
         clear hK K
         try simp only [Act.put, List.setIfInBounds_toArray, List.set_cons_zero, List.set_cons_succ]
         refine wpAnyH_done (by kernel_rfl) ?_ _
         go_wp2_with fail
         go_meet
         exact ⟨_, _, _, _, rfl, rfl, h200, zG.out, Z0.out, Q.out, KB.out⟩
        exact AllReadyH.nil
       exact AllReadyH.nil
      exact AllReadyH.nil
     exact AllReadyH.nil
    exact AllReadyH.nil
   exact AllReadyH.nil
  case rest =>
   obtain ⟨w2, hwc⟩ : ∃ x, x = wc := ⟨_, rfl⟩; subst hwc
   obtain ⟨g, b2, m2, d2, rfl, rfl, h200, hgl, hW, hQ, hb⟩ := hcut
   replace A := Lib.hid (A.out.below hb)
   replace X := Lib.hid (X.out.below hb)
   replace Z := Lib.hid (Z.out.below hb)
   replace B := Lib.hid (below_go B.out hb (by omega))
   have hz2 : w1.heap.size ≤ w2.heap.size := hb.size
   have FB := Lib.hid hW
   have Q := Lib.hid hQ
   clear hW hQ hb
   by_cases hgc : gc = 0
   ·obtain ⟨hf1, hf2, hf3, hf4, hf5⟩ := fitN_ok HG.out hgc
    subst hf1 hf2 hf3 hgc
    have HM2 : Hid (fitN m (mkN m (e1 + q) (turns m q k1 ++ ts)).1 (mkN m (e1 + q) (turns m q k1 ++ ts)).2 = (fs, fp, frs, fc)) := Lib.hid (by have h := HM.out; rw [if_pos rfl] at h; exact h)
    obtain ⟨e2, k2, hk2⟩ : ∃ e2 k2, mkN m (e1 + q) (turns m q k1 ++ ts) = (e2, k2) := ⟨_, _, rfl⟩
    rw [hk2] at HM2
    have HK2 := Lib.hid hk2; clear hk2
    obtain ⟨q1, q2, q3⟩ := X.out.all
    obtain ⟨r1, r2, r3⟩ := FB.out.all
    go_wp2_with fail
    refine (l03Product_any m m1 m8 e1 q (by omega) (by omega) b2 b m2 d2 nb capb k1 ts _ Q.out.reads (HR2.out.below B.out) HNK.out.sims HN2.out.sims (by omega) (by omega) e2 k2 HK2.out).mono ?_
    rintro e w3 ⟨a5, n5, c5, rfl, ho, gg⟩
    have hz3 : w2.heap.size ≤ w3.heap.size := gg.size
    replace Z := Lib.hid (Z.out.below gg)
    replace B := Lib.hid (below_go B.out gg (by omega))
    have O5 : Hid (OwnS w2.heap.size w3 a5 n5 k2) := Lib.hid (ho.toS)
    clear ho gg q1 q2 q3 r1 r2 r3
    go_wp2_with fail
    refine (l03Fit_own m e2 a5 n5 c5 k2 _ O5.out _ _ _ _ HM2.out).mono ?_
    rintro e w4 ⟨a6, n6, c6, rfl, ho, h6, _, gg⟩
    have hz4 : w3.heap.size ≤ w4.heap.size := gg.size
    replace Z := Lib.hid (Z.out.below gg)
    replace B := Lib.hid (below_go B.out gg (by omega))
    have O6 := Lib.hid ho
    clear ho gg
    obtain ⟨x0, ⟨x1, x2, x3⟩, y1, y2, y3⟩ := Z.out
    go_wp2
    try rw [Exit.noGoto_ret]
    obtain ⟨_, ⟨e1', e2', e3'⟩, _⟩ := ((Z.out.fill (.int .i64 fs) (.int .i64 fp) (.slice a6 n6 c6)).alloc (.cells #[.int .i64 fs, .int .i64 fp, .slice a6 n6 c6] 28))
    exact bodyPost_ret (v := .tuple #[.agg #[.int .i64 fs, .int .i64 fp, .slice a6 n6 c6], .int .i64 fc]) (by simp [results, Try.results21, go_sem, e1', e2', e3']) rfl ⟨_, _, _, rfl, by omega, ((((O6.out).set3 (by omega) _ _ _).alloc (.cells #[.int .i64 fs, .int .i64 fp, .slice a6 n6 c6] 28)).mono (by omega)), ((below_set3 B.out (by omega) _ _ _).alloc (by simp [World.setCell]; omega) (.cells #[.int .i64 fs, .int .i64 fp, .slice a6 n6 c6] 28))⟩
   ·obtain ⟨rfl, rfl, rfl, rfl⟩ := fitN_no HG.out hgc
    have hM2 := HM.out
    rw [if_neg hgc] at hM2
    simp only [Prod.mk.injEq] at hM2
    obtain ⟨rfl, rfl, rfl, rfl⟩ := hM2
    obtain ⟨x0, ⟨x1, x2, x3⟩, y1, y2, y3⟩ := Z.out
    go_wp2
    try rw [Exit.noGoto_ret]
    obtain ⟨_, ⟨e1, e2, e3⟩, _⟩ := Z.out.fill (.int .i64 0) (.int .i64 0) (.slice none 0 0)
    exact bodyPost_ret (v := .tuple #[.agg #[.int .i64 0, .int .i64 0, .slice none 0 0], .int .i64 3]) (by simp [results, Try.results21, go_sem, e1, e2, e3]) rfl ⟨none, 0, 0, rfl, by omega, OwnS.nil _ _ _, below_set3 B.out (by omega) _ _ _⟩
 ·rw [if_neg hc0] at hM
  simp only [Prod.mk.injEq] at hM
  obtain ⟨rfl, rfl, rfl, rfl⟩ := hM
  have hne : (pairC s p rs t q ts != 0) = true := by simpa using hc0
  go_enter Try.func21, Try.ntmps21
  have A := Lib.hid (((At3.place w (.int .i64 s) (.int .i64 p) (.slice a n cap) 28 w.heap.size rfl).alloc (.cells #[.int .i64 t, .int .i64 q, .slice b nb capb] 28)).alloc (.cells #[.int .i64 0, .int .i64 0, .slice none 0 0] 28))
  have X := Lib.hid ((At3.place (w.alloc (.cells #[.int .i64 s, .int .i64 p, .slice a n cap] 28)) (.int .i64 t) (.int .i64 q) (.slice b nb capb) 28 (w.heap.size + 1) (by simp)).alloc (.cells #[.int .i64 0, .int .i64 0, .slice none 0 0] 28))
  have Z := Lib.hid (At3.place ((w.alloc (.cells #[.int .i64 s, .int .i64 p, .slice a n cap] 28)).alloc (.cells #[.int .i64 t, .int .i64 q, .slice b nb capb] 28)) (.int .i64 0) (.int .i64 0) (.slice none 0 0) 28 (w.heap.size + 1 + 1) (by simp))
  have B := Lib.hid (((below1 w (.cells #[.int .i64 s, .int .i64 p, .slice a n cap] 28)).alloc (by simp) (.cells #[.int .i64 t, .int .i64 q, .slice b nb capb] 28)).alloc (by simp; omega) (.cells #[.int .i64 0, .int .i64 0, .slice none 0 0] 28))
  obtain ⟨q1, q2, q3⟩ := A.out.all
  obtain ⟨r1, r2, r3⟩ := X.out.all
  go_wp2_with fail
  refine (l03Both_any s p t q a b n cap nb capb rs ts _ (((HR.out.alloc _).alloc _).alloc _) HY0.out hn (((HR2.out.alloc _).alloc _).alloc _) HY1.out hn2).mono ?_
  rintro e w1 ⟨rfl, hb⟩
  have hz1 : w.heap.size + 1 + 1 + 1 ≤ w1.heap.size := by have := hb.size; simp at this; omega
  clear q1 q2 q3 r1 r2 r3
  replace A := Lib.hid (A.out.below hb)
  replace X := Lib.hid (X.out.below hb)
  replace Z := Lib.hid (Z.out.below hb)
  replace B := Lib.hid (below_go B.out hb (by simp; omega))
  clear hb
  obtain ⟨q1, q2, q3⟩ := A.out.all
  obtain ⟨r1, r2, r3⟩ := X.out.all
  obtain ⟨x0, ⟨x1, x2, x3⟩, y1, y2, y3⟩ := Z.out
  go_wp2
  try rw [Exit.noGoto_ret]
  obtain ⟨_, ⟨e1, e2, e3⟩, _⟩ := Z.out.fill (.int .i64 0) (.int .i64 0) (.slice none 0 0)
  exact bodyPost_ret (v := .tuple #[.agg #[.int .i64 0, .int .i64 0, .slice none 0 0], .int .i64 (pairC s p rs t q ts)]) (by simp [results, Try.results21, go_sem, e1, e2, e3]) rfl ⟨none, 0, 0, rfl, by omega, OwnS.nil _ _ _, below_set3 B.out (by omega) _ _ _⟩

set_option maxRecDepth 100000 in
set_option maxHeartbeats 4000000 in
theorem implConj_any (s p : Int) (a : Option Addr) (n cap : Nat) (rs : List (List Int)) (t q : Int) (b : Option Addr) (nb capb : Nat) (ts : List (List Int)) (w : World) (hr : ReadsA w a n rs) (hy : BytesA rs) (hn : n ≤ 1048576) (hr2 : ReadsA w b nb ts) (hy2 : BytesA ts) (hn2 : nb ≤ 1048576) (fs fp : Int) (frs : List (List Int)) (fc : Int) (hM : mConj s p rs t q ts = (fs, fp, frs, fc)) :
  Calls Try.prog 23 #[.agg #[.int .i64 s, .int .i64 p, .slice a n cap], .agg #[.int .i64 t, .int .i64 q, .slice b nb capb]] w (RetNCS w fs fp frs fc) := by
 have HL := Lib.hid hr.len
 have HL2 := Lib.hid hr2.len
 have HR := Lib.hid hr; clear hr
 have HR2 := Lib.hid hr2; clear hr2
 have HY0 := Lib.hid hy; clear hy
 have HY1 := Lib.hid hy2; clear hy2
 unfold mConj at hM
 by_cases hc0 : pairC s p rs t q ts = 0
 ·obtain ⟨hB, hB2, rfl⟩ := pairC_ok hc0
  rw [if_pos hc0] at hM
  obtain ⟨m, rfl, m1, m8, hnl, hp, hlen⟩ := norm_nl HR.out.rows hB
  obtain ⟨m', hm', _, _, hnl2, hq, hlen2⟩ := norm_nl HR2.out.rows hB2
  obtain rfl : m = m' := by omega
  clear hm'
  rw [Int.toNat_natCast] at hM
  have HN := Lib.hid hnl; clear hnl
  have HN2 := Lib.hid hnl2; clear hnl2
  rw [HL.out] at hlen
  rw [HL2.out] at hlen2
  have HNI := Lib.hid ((invL_nl HN2.out).turns q)
  have HLI : Hid ((turns m q (invL m ts)).length = nb) := Lib.hid (by rw [turns_len, invL_len, HL2.out])
  obtain ⟨e1, k1, hk1⟩ : ∃ e1 k1, cj1 m p rs q ts = (e1, k1) := ⟨_, _, rfl⟩
  rw [hk1] at hM
  have HK1 : Hid (mkN m (-(nb : Int) - q + p) (turns m p (turns m q (invL m ts)) ++ rs) = (e1, k1)) := Lib.hid (by rw [← HL2.out]; exact hk1)
  have HKL : Hid (k1.length ≤ 400) := Lib.hid (by
   have := (mkN_len m (-(nb : Int) - q + p) (turns m p (turns m q (invL m ts)) ++ rs)).1
   rw [HK1.out, List.length_append, turns_len, HLI.out, HL.out] at this
   dsimp only at this
   omega)
  have HNK : Hid (Nl m k1) := Lib.hid (by
   have := mkN_nl (n := m) (p := -(nb : Int) - q + p) (l := turns m p (turns m q (invL m ts)) ++ rs) (Sims.app (HNI.out.turns p).sims HN.out.sims)
   rw [HK1.out] at this
   exact this)
  clear hk1
  obtain ⟨gs, gq, grs, gc, hg⟩ : ∃ gs gq grs gc, fitN m e1 k1 = (gs, gq, grs, gc) := ⟨_, _, _, _, rfl⟩
  dsimp only at hM
  rw [hg] at hM
  have HG := Lib.hid hg; clear hg
  have HM := Lib.hid hM; clear hM
  have HC0 := Lib.hid hc0; clear hc0
  go_enter Try.func23, Try.ntmps23
  have A := Lib.hid (((At3.place w (.int .i64 m) (.int .i64 p) (.slice a n cap) 28 w.heap.size rfl).alloc (.cells #[.int .i64 m, .int .i64 q, .slice b nb capb] 28)).alloc (.cells #[.int .i64 0, .int .i64 0, .slice none 0 0] 28))
  have X := Lib.hid ((At3.place (w.alloc (.cells #[.int .i64 m, .int .i64 p, .slice a n cap] 28)) (.int .i64 m) (.int .i64 q) (.slice b nb capb) 28 (w.heap.size + 1) (by simp)).alloc (.cells #[.int .i64 0, .int .i64 0, .slice none 0 0] 28))
  have Z := Lib.hid (At3.place ((w.alloc (.cells #[.int .i64 m, .int .i64 p, .slice a n cap] 28)).alloc (.cells #[.int .i64 m, .int .i64 q, .slice b nb capb] 28)) (.int .i64 0) (.int .i64 0) (.slice none 0 0) 28 (w.heap.size + 1 + 1) (by simp))
  have B := Lib.hid (((below1 w (.cells #[.int .i64 m, .int .i64 p, .slice a n cap] 28)).alloc (by simp) (.cells #[.int .i64 m, .int .i64 q, .slice b nb capb] 28)).alloc (by simp; omega) (.cells #[.int .i64 0, .int .i64 0, .slice none 0 0] 28))
  obtain ⟨q1, q2, q3⟩ := A.out.all
  obtain ⟨r1, r2, r3⟩ := X.out.all
  go_wp2_with fail
  refine (pairCode_any m p m q a b n cap nb capb rs ts _ (((HR.out.alloc _).alloc _).alloc _) HY0.out hn (((HR2.out.alloc _).alloc _).alloc _) HY1.out hn2).mono ?_
  rw [HC0.out]
  rintro e w1 ⟨rfl, hb⟩
  have hz1 : w.heap.size + 1 + 1 + 1 ≤ w1.heap.size := by have := hb.size; simp at this; omega
  clear q1 q2 q3 r1 r2 r3
  replace A := Lib.hid (A.out.below hb)
  replace X := Lib.hid (X.out.below hb)
  replace Z := Lib.hid (Z.out.below hb)
  replace B := Lib.hid (below_go B.out hb (by simp; omega))
  clear hb
  obtain ⟨q1, q2, q3⟩ := A.out.all
  obtain ⟨r1, r2, r3⟩ := X.out.all
  go_upto_region 4 with fail
  go_cut [7, 8] from 16 to 23 (fun x6 x7 wx => ∃ g b2 m2 d2, x6 = .pointer (some ⟨g, 0, none⟩) ∧ x7 = .int .i64 gc ∧ m2 ≤ 200 ∧ w1.heap.size ≤ g ∧ At3 wx g (.int .i64 gs) (.int .i64 gq) (.slice b2 m2 d2) ∧ OwnS w1.heap.size wx b2 m2 grs ∧ Below w1.heap.size w1 wx)
  case first =>
   have KB : Hid (Below w1.heap.size w1 w1.drew) := Lib.hid (Below.refl w1.heap.size w1).drew
   have SH : Hid (∀ W, Below w1.heap.size w1 W → (W.cell? ⟨w.heap.size, 0, none⟩ = some (.int .i64 m) ∧ W.cell? ⟨w.heap.size, 1, none⟩ = some (.int .i64 p) ∧ W.cell? ⟨w.heap.size, 2, none⟩ = some (.slice a n cap)) ∧ (W.cell? ⟨w.heap.size + 1, 0, none⟩ = some (.int .i64 m) ∧ W.cell? ⟨w.heap.size + 1, 1, none⟩ = some (.int .i64 q) ∧ W.cell? ⟨w.heap.size + 1, 2, none⟩ = some (.slice b nb capb))) := Lib.hid fun W h => ⟨(A.out.below h).all, (X.out.below h).all⟩
   have SZ : Hid (∀ W, Below w1.heap.size w1 W → ∀ g, w1.heap.size ≤ g → ∀ u v x, ((((W.setCell ⟨g, 0, none⟩ u).setCell ⟨g, 1, none⟩ v).setCell ⟨g, 2, none⟩ x).cell? ⟨w.heap.size, 0, none⟩ = some (.int .i64 m) ∧ (((W.setCell ⟨g, 0, none⟩ u).setCell ⟨g, 1, none⟩ v).setCell ⟨g, 2, none⟩ x).cell? ⟨w.heap.size, 1, none⟩ = some (.int .i64 p) ∧ (((W.setCell ⟨g, 0, none⟩ u).setCell ⟨g, 1, none⟩ v).setCell ⟨g, 2, none⟩ x).cell? ⟨w.heap.size, 2, none⟩ = some (.slice a n cap)) ∧ ((((W.setCell ⟨g, 0, none⟩ u).setCell ⟨g, 1, none⟩ v).setCell ⟨g, 2, none⟩ x).cell? ⟨w.heap.size + 1, 0, none⟩ = some (.int .i64 m) ∧ (((W.setCell ⟨g, 0, none⟩ u).setCell ⟨g, 1, none⟩ v).setCell ⟨g, 2, none⟩ x).cell? ⟨w.heap.size + 1, 1, none⟩ = some (.int .i64 q) ∧ (((W.setCell ⟨g, 0, none⟩ u).setCell ⟨g, 1, none⟩ v).setCell ⟨g, 2, none⟩ x).cell? ⟨w.heap.size + 1, 2, none⟩ = some (.slice b nb capb))) := Lib.hid fun W h g hg u v x => ⟨((A.out.below h).set3 (g2 := g) (by omega) u v x).all, ((X.out.below h).set3 (g2 := g) (by omega) u v x).all⟩
   refine wp_region_held_drew (S := (fun w' => (w'.cell? ⟨w.heap.size, 0, none⟩ = some (.int .i64 m) ∧ w'.cell? ⟨w.heap.size, 1, none⟩ = some (.int .i64 p) ∧ w'.cell? ⟨w.heap.size, 2, none⟩ = some (.slice a n cap)) ∧ (w'.cell? ⟨w.heap.size + 1, 0, none⟩ = some (.int .i64 m) ∧ w'.cell? ⟨w.heap.size + 1, 1, none⟩ = some (.int .i64 q) ∧ w'.cell? ⟨w.heap.size + 1, 2, none⟩ = some (.slice b nb capb)))) (by kernel_rfl) ?_ (fun hHeld => ?_)
   ·first | with_reducible exact SH.out _ KB.out | with_reducible exact SZ.out _ KB.out _ zG.out _ _ _
   refine wpAnyH_take (i := 0) (oi := { dst := some 17, op := Op.load 28 (Operand.tmp 3), type := 28, pos := "l04_conjugacy.go:245", after := #[], guard := none }) (v := ?_) rfl (by kernel_rfl) (by kernel_rfl) (by kernel_rfl) (fun _ _ _ h => h) (Or.inl ⟨by rfl, ?_⟩) (by assumption) ?_
   rotate_left
   ·intro w hSw
    (try dsimp only at hSw)
    go_simp
    try with_reducible rfl
   try simp only [Act.put, List.setIfInBounds_toArray, List.set_cons_zero, List.set_cons_succ]
   refine wpAnyH_take (i := 2) (oi := { dst := some 19, op := Op.load 28 (Operand.tmp 2), type := 28, pos := "l04_conjugacy.go:245", after := #[], guard := none }) (v := ?_) rfl (by kernel_rfl) (by kernel_rfl) (by kernel_rfl) (fun _ _ _ h => h) (Or.inl ⟨by rfl, ?_⟩) (by assumption) ?_
   rotate_left
   ·intro w hSw
    (try dsimp only at hSw)
    go_simp
    try with_reducible rfl
   try simp only [Act.put, List.setIfInBounds_toArray, List.set_cons_zero, List.set_cons_succ]
   refine wpAnyH_ready (rs := [1, 8]) (by kernel_rfl) (by simp) ?_
   refine AllReadyH.cons (o := { dst := some 18, op := Op.call { callee := Callee.value (Operand.func 56), args := #[Operand.tmp 17], argTypes := #[28] }, type := 28, pos := "l04_conjugacy.go:245", after := #[{ on := 0, ground := Ground.data }], guard := none }) rfl (fun K hK => ?_) ?_
   ·go_simp
    refine (inverse_any m q (by omega) b nb capb ts _ (((HR2.out.below B.out)).below KB.out) HN2.out.sims (by omega)).mono ?_
    rintro e u1 ⟨x1, y1, z1, rfl, ho, gg⟩
    have I : Hid (OwnS w1.heap.size u1 x1 y1 (turns m q (invL m ts))) := Lib.hid (ho.toS.mono KB.out.size)
    have HY1L : y1 = nb := by have := ho.len; rw [HLI.out] at this; exact this.symm
    replace KB := Lib.hid (below_go KB.out gg KB.out.size)
    clear ho gg
    subst HY1L
    go_wp2_with fail
    refine hK.out _ _ ?_ (fun hHeld => ?_)
    ·first | with_reducible exact SH.out _ KB.out | with_reducible exact SZ.out _ KB.out _ zG.out _ _ _
    clear hK K
    try simp only [Act.put, List.setIfInBounds_toArray, List.set_cons_zero, List.set_cons_succ]
    refine wpAnyH_ready (rs := [3, 8]) (by kernel_rfl) (by simp) ?_
    refine AllReadyH.cons (o := { dst := some 20, op := Op.call { callee := Callee.value (Operand.func 57), args := #[Operand.tmp 18, Operand.tmp 19], argTypes := #[28, 28] }, type := 28, pos := "l04_conjugacy.go:245", after := #[{ on := 1, ground := Ground.data }, { on := 2, ground := Ground.data }, { on := 1, ground := Ground.chain }], guard := none }) rfl (fun K hK => ?_) ?_
    ·go_simp
     refine (times_any m m1 m8 (-(y1 : Int) - q) p (by omega) (by omega) x1 a y1 z1 n cap (turns m q (invL m ts)) rs _ I.out.reads ((HR.out.below B.out).below KB.out) HNI.out HN.out (by omega) (by omega) e1 k1 HK1.out).mono ?_
     rintro e u3 ⟨x3, y3, z3, rfl, hcp, ho, gg⟩
     replace I := Lib.hid (I.out.below gg)
     have P : Hid (OwnS w1.heap.size u3 x3 y3 k1) := Lib.hid (OwnS.mono (ho) KB.out.size)
     replace KB := Lib.hid (below_go KB.out gg KB.out.size)
     clear ho gg
     go_wp2_with fail
     refine hK.out _ _ ?_ (fun hHeld => ?_)
     ·first | with_reducible exact SH.out _ KB.out | with_reducible exact SZ.out _ KB.out _ zG.out _ _ _
     clear hK K
     try simp only [Act.put, List.setIfInBounds_toArray, List.set_cons_zero, List.set_cons_succ]
     refine wpAnyH_ready (rs := [4, 8]) (by kernel_rfl) (by simp) ?_
     refine AllReadyH.cons (o := { dst := some 21, op := Op.call { callee := Callee.value (Operand.func 55), args := #[Operand.tmp 20], argTypes := #[28] }, type := 29, pos := "l04_conjugacy.go:245", after := #[{ on := 3, ground := Ground.data }, { on := 3, ground := Ground.chain }], guard := none }) rfl (fun K hK => ?_) ?_
     ·go_simp
      refine (limited_own m e1 x3 y3 z3 k1 _ P.out _ _ _ _ HG.out).mono ?_
      rintro e u4 ⟨x4, y4, z4, rfl, ho, h200, hre, gg⟩
      replace I := Lib.hid (I.out.below gg)
      replace P := Lib.hid (P.out.below gg)
      have Q : Hid (OwnS w1.heap.size u4 x4 y4 grs) := Lib.hid ho
      replace KB := Lib.hid (below_go KB.out gg KB.out.size)
      clear ho gg
      go_wp2_with fail
      refine hK.out _ _ ?_ (fun hHeld => ?_)
      ·first | with_reducible exact SH.out _ KB.out | with_reducible exact SZ.out _ KB.out _ zG.out _ _ _
      clear hK K
      try simp only [Act.put, List.setIfInBounds_toArray, List.set_cons_zero, List.set_cons_succ]
      refine wpAnyH_take (i := 5) (oi := { dst := some 16, op := Op.move (Operand.tmp 21), type := 29, pos := "l04_conjugacy.go:245", after := #[{ on := 4, ground := Ground.data }], guard := none }) (v := ?_) rfl (by kernel_rfl) (by kernel_rfl) (by kernel_rfl) (fun _ _ _ h => h) (Or.inl ⟨by rfl, ?_⟩) (by assumption) ?_
      rotate_left
      ·intro w hSw
       (try dsimp only at hSw)
       go_simp
       try with_reducible rfl
      try simp only [Act.put, List.setIfInBounds_toArray, List.set_cons_zero, List.set_cons_succ]
      refine wpAnyH_take (i := 6) (oi := { dst := some 22, op := Op.extract (Operand.tmp 16) 0, type := 28, pos := "l04_conjugacy.go:245", after := #[{ on := 5, ground := Ground.data }], guard := none }) (v := ?_) rfl (by kernel_rfl) (by kernel_rfl) (by kernel_rfl) (fun _ _ _ h => h) (Or.inl ⟨by rfl, ?_⟩) (by assumption) ?_
      rotate_left
      ·intro w hSw
       (try dsimp only at hSw)
       go_simp
       try with_reducible rfl
      try simp only [Act.put, List.setIfInBounds_toArray, List.set_cons_zero, List.set_cons_succ]
      refine wpAnyH_take (i := 7) (oi := { dst := some 23, op := Op.extract (Operand.tmp 16) 1, type := 2, pos := "l04_conjugacy.go:245", after := #[{ on := 5, ground := Ground.data }, { on := 9, ground := Ground.gcOnly Departure.lateStores }], guard := none }) (v := ?_) rfl (by kernel_rfl) (by kernel_rfl) (by kernel_rfl) (fun _ _ _ h => h) (Or.inl ⟨by rfl, ?_⟩) (by assumption) ?_
      rotate_left
      ·intro w hSw
       (try dsimp only at hSw)
       go_simp
       try with_reducible rfl
      try simp only [Act.put, List.setIfInBounds_toArray, List.set_cons_zero, List.set_cons_succ]
      refine wpAnyH_ready (rs := [8]) (by kernel_rfl) (by simp) ?_
      refine AllReadyH.cons (o := { dst := some 7, op := Op.alloc 28, type := 0, pos := "l04_conjugacy.go:245", after := #[], guard := none }) rfl (fun K hK => ?_) ?_
      ·go_simp
       have QA := Lib.hid (Q.out.apartHi (g := u4.heap.size) (Nat.le_refl _))
       replace I : Hid (OwnS w1.heap.size (u4.alloc (.cells #[.int .i64 0, .int .i64 0, .slice none 0 0] 28)) x1 y1 (turns m q (invL m ts))) := Lib.hid (I.out.alloc (.cells #[.int .i64 0, .int .i64 0, .slice none 0 0] 28))
       replace P : Hid (OwnS w1.heap.size (u4.alloc (.cells #[.int .i64 0, .int .i64 0, .slice none 0 0] 28)) x3 y3 k1) := Lib.hid (P.out.alloc (.cells #[.int .i64 0, .int .i64 0, .slice none 0 0] 28))
       replace Q : Hid (OwnS w1.heap.size (u4.alloc (.cells #[.int .i64 0, .int .i64 0, .slice none 0 0] 28)) x4 y4 grs) := Lib.hid (Q.out.alloc (.cells #[.int .i64 0, .int .i64 0, .slice none 0 0] 28))
       have Z0 : Hid (At3 (u4.alloc (.cells #[.int .i64 0, .int .i64 0, .slice none 0 0] 28)) (u4.heap.size) (.int .i64 0) (.int .i64 0) (.slice none 0 0)) := Lib.hid ((At3.place u4 (.int .i64 0) (.int .i64 0) (.slice none 0 0) 28 (u4.heap.size) (by simp)))
       have zG : Hid (w1.heap.size ≤ u4.heap.size) := Lib.hid (by first | exact Nat.le_refl _ | exact KB.out.size)
       replace KB : Hid (Below w1.heap.size w1 (u4.alloc (.cells #[.int .i64 0, .int .i64 0, .slice none 0 0] 28))) := Lib.hid (KB.out.alloc KB.out.size (.cells #[.int .i64 0, .int .i64 0, .slice none 0 0] 28))
       obtain ⟨V8, hV8⟩ : ∃ V, V = (u4.alloc (.cells #[.int .i64 0, .int .i64 0, .slice none 0 0] 28)) := ⟨_, rfl⟩
       rw [← hV8] at KB I P Q Z0 ⊢
       clear hV8
       refine hK.out _ _ ?_ (fun hHeld => ?_)
       ·first | with_reducible exact SH.out _ KB.out | with_reducible exact SZ.out _ KB.out _ zG.out _ _ _
       clear hK K
       try simp only [Act.put, List.setIfInBounds_toArray, List.set_cons_zero, List.set_cons_succ]
       refine wpAnyH_ready (rs := [9]) (by kernel_rfl) (by simp) ?_
       refine AllReadyH.cons (o := { dst := none, op := Op.store 28 (Operand.tmp 7) (Operand.tmp 22), type := 0, pos := "l04_conjugacy.go:245", after := #[{ on := 8, ground := Ground.data }, { on := 6, ground := Ground.data }, { on := 4, ground := Ground.chain }, { on := 0, ground := Ground.phase }, { on := 1, ground := Ground.phase }, { on := 2, ground := Ground.phase }, { on := 3, ground := Ground.phase }, { on := 4, ground := Ground.phase }, { on := 5, ground := Ground.phase }, { on := 6, ground := Ground.phase }, { on := 7, ground := Ground.textOnly Departure.lateStores }, { on := 8, ground := Ground.phase }], guard := none }) rfl (fun K hK => ?_) ?_
       ·obtain ⟨w0, ⟨w1', w2', w3'⟩, w4', w5', w6'⟩ := Z0.out
        go_simp
        clear w0 w1' w2' w3' w4' w5' w6'
        replace Z0 := Lib.hid (Z0.out.fill (.int .i64 gs) (.int .i64 gq) (.slice x4 y4 z4))
        replace Q := Lib.hid (Q.out.past3 QA.out (.int .i64 gs) (.int .i64 gq) (.slice x4 y4 z4))
        replace KB := Lib.hid (below_set3 KB.out zG.out (.int .i64 gs) (.int .i64 gq) (.slice x4 y4 z4))
        obtain ⟨V9, hV9⟩ : ∃ V, V = (((V8.setCell ⟨u4.heap.size, 0, none⟩ (.int .i64 gs)).setCell ⟨u4.heap.size, 1, none⟩ (.int .i64 gq)).setCell ⟨u4.heap.size, 2, none⟩ (.slice x4 y4 z4)) := ⟨_, rfl⟩
        rw [← hV9] at Z0 Q KB ⊢
        clear hV9
        refine hK.out _ _ ?_ (fun hHeld => ?_)
        ·first | with_reducible exact SH.out _ KB.out | with_reducible exact SZ.out _ KB.out _ zG.out _ _ _
        clear hK K
        try simp only [Act.put, List.setIfInBounds_toArray, List.set_cons_zero, List.set_cons_succ]
        refine wpAnyH_ready (rs := [10]) (by kernel_rfl) (by simp) ?_
        refine AllReadyH.cons (o := { dst := some 8, op := Op.assign (Operand.tmp 23), type := 2, pos := "l04_conjugacy.go:245", after := #[{ on := 7, ground := Ground.data }, { on := 9, ground := Ground.chain }, { on := 0, ground := Ground.phase }, { on := 1, ground := Ground.phase }, { on := 2, ground := Ground.phase }, { on := 3, ground := Ground.phase }, { on := 4, ground := Ground.phase }, { on := 5, ground := Ground.phase }, { on := 6, ground := Ground.phase }, { on := 7, ground := Ground.phase }, { on := 8, ground := Ground.phase }, { on := 9, ground := Ground.phase }], guard := none }) rfl (fun K hK => ?_) ?_
        ·go_simp
         refine hK.out _ _ ?_ (fun hHeld => ?_)
         ·first | with_reducible exact SH.out _ KB.out | with_reducible exact SZ.out _ KB.out _ zG.out _ _ _
         clear hK K
         try simp only [Act.put, List.setIfInBounds_toArray, List.set_cons_zero, List.set_cons_succ]
         refine wpAnyH_done (by kernel_rfl) ?_ _
         go_wp2_with fail
         go_meet
         exact ⟨_, _, _, _, rfl, rfl, h200, zG.out, Z0.out, Q.out, KB.out⟩
        exact AllReadyH.nil
       exact AllReadyH.nil
      exact AllReadyH.nil
     refine AllReadyH.cons (o := { dst := some 7, op := Op.alloc 28, type := 0, pos := "l04_conjugacy.go:245", after := #[], guard := none }) rfl (fun K hK => ?_) ?_
     ·go_simp
      have PA := Lib.hid (P.out.apartHi (g := u3.heap.size) (Nat.le_refl _))
      replace I : Hid (OwnS w1.heap.size (u3.alloc (.cells #[.int .i64 0, .int .i64 0, .slice none 0 0] 28)) x1 y1 (turns m q (invL m ts))) := Lib.hid (I.out.alloc (.cells #[.int .i64 0, .int .i64 0, .slice none 0 0] 28))
      replace P : Hid (OwnS w1.heap.size (u3.alloc (.cells #[.int .i64 0, .int .i64 0, .slice none 0 0] 28)) x3 y3 k1) := Lib.hid (P.out.alloc (.cells #[.int .i64 0, .int .i64 0, .slice none 0 0] 28))
      have Z0 : Hid (At3 (u3.alloc (.cells #[.int .i64 0, .int .i64 0, .slice none 0 0] 28)) (u3.heap.size) (.int .i64 0) (.int .i64 0) (.slice none 0 0)) := Lib.hid ((At3.place u3 (.int .i64 0) (.int .i64 0) (.slice none 0 0) 28 (u3.heap.size) (by simp)))
      have zG : Hid (w1.heap.size ≤ u3.heap.size) := Lib.hid (by first | exact Nat.le_refl _ | exact KB.out.size)
      replace KB : Hid (Below w1.heap.size w1 (u3.alloc (.cells #[.int .i64 0, .int .i64 0, .slice none 0 0] 28))) := Lib.hid (KB.out.alloc KB.out.size (.cells #[.int .i64 0, .int .i64 0, .slice none 0 0] 28))
      obtain ⟨V8, hV8⟩ : ∃ V, V = (u3.alloc (.cells #[.int .i64 0, .int .i64 0, .slice none 0 0] 28)) := ⟨_, rfl⟩
      rw [← hV8] at KB I P Z0 ⊢
      clear hV8
      refine hK.out _ _ ?_ (fun hHeld => ?_)
      ·first | with_reducible exact SH.out _ KB.out | with_reducible exact SZ.out _ KB.out _ zG.out _ _ _
      clear hK K
      try simp only [Act.put, List.setIfInBounds_toArray, List.set_cons_zero, List.set_cons_succ]
      refine wpAnyH_ready (rs := [4]) (by kernel_rfl) (by simp) ?_
      refine AllReadyH.cons (o := { dst := some 21, op := Op.call { callee := Callee.value (Operand.func 55), args := #[Operand.tmp 20], argTypes := #[28] }, type := 29, pos := "l04_conjugacy.go:245", after := #[{ on := 3, ground := Ground.data }, { on := 3, ground := Ground.chain }], guard := none }) rfl (fun K hK => ?_) ?_
      ·go_simp
       refine (limited_own m e1 x3 y3 z3 k1 _ P.out _ _ _ _ HG.out).mono ?_
       rintro e u4 ⟨x4, y4, z4, rfl, ho, h200, hre, gg⟩
       replace I := Lib.hid (I.out.below gg)
       replace P := Lib.hid (P.out.below gg)
       replace Z0 := Lib.hid (Z0.out.below gg)
       have Q : Hid (OwnS w1.heap.size u4 x4 y4 grs) := Lib.hid ho
       have QA : Hid (y4 = 0 ∨ ∀ x, x4 = some x → x.block ≠ u3.heap.size) := Lib.hid (by rcases hre with h | ⟨h, h'⟩; exact .inl h; (rw [h, h']; exact PA.out))
       replace KB := Lib.hid (below_go KB.out gg KB.out.size)
       clear ho gg
       go_wp2_with fail
       refine hK.out _ _ ?_ (fun hHeld => ?_)
       ·first | with_reducible exact SH.out _ KB.out | with_reducible exact SZ.out _ KB.out _ zG.out _ _ _
       clear hK K
       try simp only [Act.put, List.setIfInBounds_toArray, List.set_cons_zero, List.set_cons_succ]
       refine wpAnyH_take (i := 5) (oi := { dst := some 16, op := Op.move (Operand.tmp 21), type := 29, pos := "l04_conjugacy.go:245", after := #[{ on := 4, ground := Ground.data }], guard := none }) (v := ?_) rfl (by kernel_rfl) (by kernel_rfl) (by kernel_rfl) (fun _ _ _ h => h) (Or.inl ⟨by rfl, ?_⟩) (by assumption) ?_
       rotate_left
       ·intro w hSw
        (try dsimp only at hSw)
        go_simp
        try with_reducible rfl
       try simp only [Act.put, List.setIfInBounds_toArray, List.set_cons_zero, List.set_cons_succ]
       refine wpAnyH_take (i := 6) (oi := { dst := some 22, op := Op.extract (Operand.tmp 16) 0, type := 28, pos := "l04_conjugacy.go:245", after := #[{ on := 5, ground := Ground.data }], guard := none }) (v := ?_) rfl (by kernel_rfl) (by kernel_rfl) (by kernel_rfl) (fun _ _ _ h => h) (Or.inl ⟨by rfl, ?_⟩) (by assumption) ?_
       rotate_left
       ·intro w hSw
        (try dsimp only at hSw)
        go_simp
        try with_reducible rfl
       try simp only [Act.put, List.setIfInBounds_toArray, List.set_cons_zero, List.set_cons_succ]
       refine wpAnyH_take (i := 7) (oi := { dst := some 23, op := Op.extract (Operand.tmp 16) 1, type := 2, pos := "l04_conjugacy.go:245", after := #[{ on := 5, ground := Ground.data }, { on := 9, ground := Ground.gcOnly Departure.lateStores }], guard := none }) (v := ?_) rfl (by kernel_rfl) (by kernel_rfl) (by kernel_rfl) (fun _ _ _ h => h) (Or.inl ⟨by rfl, ?_⟩) (by assumption) ?_
       rotate_left
       ·intro w hSw
        (try dsimp only at hSw)
        go_simp
        try with_reducible rfl
       try simp only [Act.put, List.setIfInBounds_toArray, List.set_cons_zero, List.set_cons_succ]
       refine wpAnyH_ready (rs := [9]) (by kernel_rfl) (by simp) ?_
       refine AllReadyH.cons (o := { dst := none, op := Op.store 28 (Operand.tmp 7) (Operand.tmp 22), type := 0, pos := "l04_conjugacy.go:245", after := #[{ on := 8, ground := Ground.data }, { on := 6, ground := Ground.data }, { on := 4, ground := Ground.chain }, { on := 0, ground := Ground.phase }, { on := 1, ground := Ground.phase }, { on := 2, ground := Ground.phase }, { on := 3, ground := Ground.phase }, { on := 4, ground := Ground.phase }, { on := 5, ground := Ground.phase }, { on := 6, ground := Ground.phase }, { on := 7, ground := Ground.textOnly Departure.lateStores }, { on := 8, ground := Ground.phase }], guard := none }) rfl (fun K hK => ?_) ?_
       ·obtain ⟨w0, ⟨w1', w2', w3'⟩, w4', w5', w6'⟩ := Z0.out
        go_simp
        clear w0 w1' w2' w3' w4' w5' w6'
        replace Z0 := Lib.hid (Z0.out.fill (.int .i64 gs) (.int .i64 gq) (.slice x4 y4 z4))
        replace Q := Lib.hid (Q.out.past3 QA.out (.int .i64 gs) (.int .i64 gq) (.slice x4 y4 z4))
        replace KB := Lib.hid (below_set3 KB.out zG.out (.int .i64 gs) (.int .i64 gq) (.slice x4 y4 z4))
        obtain ⟨V9, hV9⟩ : ∃ V, V = (((u4.setCell ⟨u3.heap.size, 0, none⟩ (.int .i64 gs)).setCell ⟨u3.heap.size, 1, none⟩ (.int .i64 gq)).setCell ⟨u3.heap.size, 2, none⟩ (.slice x4 y4 z4)) := ⟨_, rfl⟩
        rw [← hV9] at Z0 Q KB ⊢
        clear hV9
        refine hK.out _ _ ?_ (fun hHeld => ?_)
        ·first | with_reducible exact SH.out _ KB.out | with_reducible exact SZ.out _ KB.out _ zG.out _ _ _
        clear hK K
        try simp only [Act.put, List.setIfInBounds_toArray, List.set_cons_zero, List.set_cons_succ]
        refine wpAnyH_ready (rs := [10]) (by kernel_rfl) (by simp) ?_
        refine AllReadyH.cons (o := { dst := some 8, op := Op.assign (Operand.tmp 23), type := 2, pos := "l04_conjugacy.go:245", after := #[{ on := 7, ground := Ground.data }, { on := 9, ground := Ground.chain }, { on := 0, ground := Ground.phase }, { on := 1, ground := Ground.phase }, { on := 2, ground := Ground.phase }, { on := 3, ground := Ground.phase }, { on := 4, ground := Ground.phase }, { on := 5, ground := Ground.phase }, { on := 6, ground := Ground.phase }, { on := 7, ground := Ground.phase }, { on := 8, ground := Ground.phase }, { on := 9, ground := Ground.phase }], guard := none }) rfl (fun K hK => ?_) ?_
        ·go_simp
         refine hK.out _ _ ?_ (fun hHeld => ?_)
         ·first | with_reducible exact SH.out _ KB.out | with_reducible exact SZ.out _ KB.out _ zG.out _ _ _
         clear hK K
         try simp only [Act.put, List.setIfInBounds_toArray, List.set_cons_zero, List.set_cons_succ]
         refine wpAnyH_done (by kernel_rfl) ?_ _
         go_wp2_with fail
         go_meet
         exact ⟨_, _, _, _, rfl, rfl, h200, zG.out, Z0.out, Q.out, KB.out⟩
        exact AllReadyH.nil
       exact AllReadyH.nil
      exact AllReadyH.nil
     exact AllReadyH.nil
    refine AllReadyH.cons (o := { dst := some 7, op := Op.alloc 28, type := 0, pos := "l04_conjugacy.go:245", after := #[], guard := none }) rfl (fun K hK => ?_) ?_
    ·go_simp
     replace I : Hid (OwnS w1.heap.size (u1.alloc (.cells #[.int .i64 0, .int .i64 0, .slice none 0 0] 28)) x1 y1 (turns m q (invL m ts))) := Lib.hid (I.out.alloc (.cells #[.int .i64 0, .int .i64 0, .slice none 0 0] 28))
     have Z0 : Hid (At3 (u1.alloc (.cells #[.int .i64 0, .int .i64 0, .slice none 0 0] 28)) (u1.heap.size) (.int .i64 0) (.int .i64 0) (.slice none 0 0)) := Lib.hid ((At3.place u1 (.int .i64 0) (.int .i64 0) (.slice none 0 0) 28 (u1.heap.size) (by simp)))
     have zG : Hid (w1.heap.size ≤ u1.heap.size) := Lib.hid (by first | exact Nat.le_refl _ | exact KB.out.size)
     replace KB : Hid (Below w1.heap.size w1 (u1.alloc (.cells #[.int .i64 0, .int .i64 0, .slice none 0 0] 28))) := Lib.hid (KB.out.alloc KB.out.size (.cells #[.int .i64 0, .int .i64 0, .slice none 0 0] 28))
     obtain ⟨V8, hV8⟩ : ∃ V, V = (u1.alloc (.cells #[.int .i64 0, .int .i64 0, .slice none 0 0] 28)) := ⟨_, rfl⟩
     rw [← hV8] at KB I Z0 ⊢
     clear hV8
     refine hK.out _ _ ?_ (fun hHeld => ?_)
     ·first | with_reducible exact SH.out _ KB.out | with_reducible exact SZ.out _ KB.out _ zG.out _ _ _
     clear hK K
     try simp only [Act.put, List.setIfInBounds_toArray, List.set_cons_zero, List.set_cons_succ]
     refine wpAnyH_ready (rs := [3]) (by kernel_rfl) (by simp) ?_
     refine AllReadyH.cons (o := { dst := some 20, op := Op.call { callee := Callee.value (Operand.func 57), args := #[Operand.tmp 18, Operand.tmp 19], argTypes := #[28, 28] }, type := 28, pos := "l04_conjugacy.go:245", after := #[{ on := 1, ground := Ground.data }, { on := 2, ground := Ground.data }, { on := 1, ground := Ground.chain }], guard := none }) rfl (fun K hK => ?_) ?_
     ·go_simp
      refine (times_any m m1 m8 (-(y1 : Int) - q) p (by omega) (by omega) x1 a y1 z1 n cap (turns m q (invL m ts)) rs _ I.out.reads ((HR.out.below B.out).below KB.out) HNI.out HN.out (by omega) (by omega) e1 k1 HK1.out).mono ?_
      rintro e u3 ⟨x3, y3, z3, rfl, hcp, ho, gg⟩
      have PA := Lib.hid (OwnS.apart (g := u1.heap.size) (ho) Z0.out.1)
      replace I := Lib.hid (I.out.below gg)
      replace Z0 := Lib.hid (Z0.out.below gg)
      have P : Hid (OwnS w1.heap.size u3 x3 y3 k1) := Lib.hid (OwnS.mono (ho) KB.out.size)
      replace KB := Lib.hid (below_go KB.out gg KB.out.size)
      clear ho gg
      go_wp2_with fail
      refine hK.out _ _ ?_ (fun hHeld => ?_)
      ·first | with_reducible exact SH.out _ KB.out | with_reducible exact SZ.out _ KB.out _ zG.out _ _ _
      clear hK K
      try simp only [Act.put, List.setIfInBounds_toArray, List.set_cons_zero, List.set_cons_succ]
      refine wpAnyH_ready (rs := [4]) (by kernel_rfl) (by simp) ?_
      refine AllReadyH.cons (o := { dst := some 21, op := Op.call { callee := Callee.value (Operand.func 55), args := #[Operand.tmp 20], argTypes := #[28] }, type := 29, pos := "l04_conjugacy.go:245", after := #[{ on := 3, ground := Ground.data }, { on := 3, ground := Ground.chain }], guard := none }) rfl (fun K hK => ?_) ?_
      ·go_simp
       refine (limited_own m e1 x3 y3 z3 k1 _ P.out _ _ _ _ HG.out).mono ?_
       rintro e u4 ⟨x4, y4, z4, rfl, ho, h200, hre, gg⟩
       replace I := Lib.hid (I.out.below gg)
       replace P := Lib.hid (P.out.below gg)
       replace Z0 := Lib.hid (Z0.out.below gg)
       have Q : Hid (OwnS w1.heap.size u4 x4 y4 grs) := Lib.hid ho
       have QA : Hid (y4 = 0 ∨ ∀ x, x4 = some x → x.block ≠ u1.heap.size) := Lib.hid (by rcases hre with h | ⟨h, h'⟩; exact .inl h; (rw [h, h']; exact PA.out))
       replace KB := Lib.hid (below_go KB.out gg KB.out.size)
       clear ho gg
       go_wp2_with fail
       refine hK.out _ _ ?_ (fun hHeld => ?_)
       ·first | with_reducible exact SH.out _ KB.out | with_reducible exact SZ.out _ KB.out _ zG.out _ _ _
       clear hK K
       try simp only [Act.put, List.setIfInBounds_toArray, List.set_cons_zero, List.set_cons_succ]
       refine wpAnyH_take (i := 5) (oi := { dst := some 16, op := Op.move (Operand.tmp 21), type := 29, pos := "l04_conjugacy.go:245", after := #[{ on := 4, ground := Ground.data }], guard := none }) (v := ?_) rfl (by kernel_rfl) (by kernel_rfl) (by kernel_rfl) (fun _ _ _ h => h) (Or.inl ⟨by rfl, ?_⟩) (by assumption) ?_
       rotate_left
       ·intro w hSw
        (try dsimp only at hSw)
        go_simp
        try with_reducible rfl
       try simp only [Act.put, List.setIfInBounds_toArray, List.set_cons_zero, List.set_cons_succ]
       refine wpAnyH_take (i := 6) (oi := { dst := some 22, op := Op.extract (Operand.tmp 16) 0, type := 28, pos := "l04_conjugacy.go:245", after := #[{ on := 5, ground := Ground.data }], guard := none }) (v := ?_) rfl (by kernel_rfl) (by kernel_rfl) (by kernel_rfl) (fun _ _ _ h => h) (Or.inl ⟨by rfl, ?_⟩) (by assumption) ?_
       rotate_left
       ·intro w hSw
        (try dsimp only at hSw)
        go_simp
        try with_reducible rfl
       try simp only [Act.put, List.setIfInBounds_toArray, List.set_cons_zero, List.set_cons_succ]
       refine wpAnyH_take (i := 7) (oi := { dst := some 23, op := Op.extract (Operand.tmp 16) 1, type := 2, pos := "l04_conjugacy.go:245", after := #[{ on := 5, ground := Ground.data }, { on := 9, ground := Ground.gcOnly Departure.lateStores }], guard := none }) (v := ?_) rfl (by kernel_rfl) (by kernel_rfl) (by kernel_rfl) (fun _ _ _ h => h) (Or.inl ⟨by rfl, ?_⟩) (by assumption) ?_
       rotate_left
       ·intro w hSw
        (try dsimp only at hSw)
        go_simp
        try with_reducible rfl
       try simp only [Act.put, List.setIfInBounds_toArray, List.set_cons_zero, List.set_cons_succ]
       refine wpAnyH_ready (rs := [9]) (by kernel_rfl) (by simp) ?_
       refine AllReadyH.cons (o := { dst := none, op := Op.store 28 (Operand.tmp 7) (Operand.tmp 22), type := 0, pos := "l04_conjugacy.go:245", after := #[{ on := 8, ground := Ground.data }, { on := 6, ground := Ground.data }, { on := 4, ground := Ground.chain }, { on := 0, ground := Ground.phase }, { on := 1, ground := Ground.phase }, { on := 2, ground := Ground.phase }, { on := 3, ground := Ground.phase }, { on := 4, ground := Ground.phase }, { on := 5, ground := Ground.phase }, { on := 6, ground := Ground.phase }, { on := 7, ground := Ground.textOnly Departure.lateStores }, { on := 8, ground := Ground.phase }], guard := none }) rfl (fun K hK => ?_) ?_
       ·obtain ⟨w0, ⟨w1', w2', w3'⟩, w4', w5', w6'⟩ := Z0.out
        go_simp
        clear w0 w1' w2' w3' w4' w5' w6'
        replace Z0 := Lib.hid (Z0.out.fill (.int .i64 gs) (.int .i64 gq) (.slice x4 y4 z4))
        replace Q := Lib.hid (Q.out.past3 QA.out (.int .i64 gs) (.int .i64 gq) (.slice x4 y4 z4))
        replace KB := Lib.hid (below_set3 KB.out zG.out (.int .i64 gs) (.int .i64 gq) (.slice x4 y4 z4))
        obtain ⟨V9, hV9⟩ : ∃ V, V = (((u4.setCell ⟨u1.heap.size, 0, none⟩ (.int .i64 gs)).setCell ⟨u1.heap.size, 1, none⟩ (.int .i64 gq)).setCell ⟨u1.heap.size, 2, none⟩ (.slice x4 y4 z4)) := ⟨_, rfl⟩
        rw [← hV9] at Z0 Q KB ⊢
        clear hV9
        refine hK.out _ _ ?_ (fun hHeld => ?_)
        ·first | with_reducible exact SH.out _ KB.out | with_reducible exact SZ.out _ KB.out _ zG.out _ _ _
        clear hK K
        try simp only [Act.put, List.setIfInBounds_toArray, List.set_cons_zero, List.set_cons_succ]
        refine wpAnyH_ready (rs := [10]) (by kernel_rfl) (by simp) ?_
        refine AllReadyH.cons (o := { dst := some 8, op := Op.assign (Operand.tmp 23), type := 2, pos := "l04_conjugacy.go:245", after := #[{ on := 7, ground := Ground.data }, { on := 9, ground := Ground.chain }, { on := 0, ground := Ground.phase }, { on := 1, ground := Ground.phase }, { on := 2, ground := Ground.phase }, { on := 3, ground := Ground.phase }, { on := 4, ground := Ground.phase }, { on := 5, ground := Ground.phase }, { on := 6, ground := Ground.phase }, { on := 7, ground := Ground.phase }, { on := 8, ground := Ground.phase }, { on := 9, ground := Ground.phase }], guard := none }) rfl (fun K hK => ?_) ?_
        ·go_simp
         refine hK.out _ _ ?_ (fun hHeld => ?_)
         ·first | with_reducible exact SH.out _ KB.out | with_reducible exact SZ.out _ KB.out _ zG.out _ _ _
         clear hK K
         try simp only [Act.put, List.setIfInBounds_toArray, List.set_cons_zero, List.set_cons_succ]
         refine wpAnyH_done (by kernel_rfl) ?_ _
         go_wp2_with fail
         go_meet
         exact ⟨_, _, _, _, rfl, rfl, h200, zG.out, Z0.out, Q.out, KB.out⟩
        exact AllReadyH.nil
       exact AllReadyH.nil
      exact AllReadyH.nil
     exact AllReadyH.nil
    exact AllReadyH.nil
   refine AllReadyH.cons (o := { dst := some 7, op := Op.alloc 28, type := 0, pos := "l04_conjugacy.go:245", after := #[], guard := none }) rfl (fun K hK => ?_) ?_
   ·go_simp
    have Z0 : Hid (At3 (w1.alloc (.cells #[.int .i64 0, .int .i64 0, .slice none 0 0] 28)).drew (w1.heap.size) (.int .i64 0) (.int .i64 0) (.slice none 0 0)) := Lib.hid ((At3.place w1 (.int .i64 0) (.int .i64 0) (.slice none 0 0) 28 (w1.heap.size) (by simp)).drew)
    have zG : Hid (w1.heap.size ≤ w1.heap.size) := Lib.hid (by first | exact Nat.le_refl _ | exact KB.out.size)
    replace KB : Hid (Below w1.heap.size w1 (w1.alloc (.cells #[.int .i64 0, .int .i64 0, .slice none 0 0] 28)).drew) := Lib.hid (KB.out.alloc KB.out.size (.cells #[.int .i64 0, .int .i64 0, .slice none 0 0] 28))
    refine hK.out _ _ ?_ (fun hHeld => ?_)
    ·first | with_reducible exact SH.out _ KB.out | with_reducible exact SZ.out _ KB.out _ zG.out _ _ _
    clear hK K
    try simp only [Act.put, List.setIfInBounds_toArray, List.set_cons_zero, List.set_cons_succ]
    refine wpAnyH_ready (rs := [1]) (by kernel_rfl) (by simp) ?_
    refine AllReadyH.cons (o := { dst := some 18, op := Op.call { callee := Callee.value (Operand.func 56), args := #[Operand.tmp 17], argTypes := #[28] }, type := 28, pos := "l04_conjugacy.go:245", after := #[{ on := 0, ground := Ground.data }], guard := none }) rfl (fun K hK => ?_) ?_
    ·go_simp
     refine (inverse_any m q (by omega) b nb capb ts _ (((HR2.out.below B.out)).below KB.out) HN2.out.sims (by omega)).mono ?_
     rintro e u1 ⟨x1, y1, z1, rfl, ho, gg⟩
     replace Z0 := Lib.hid (Z0.out.below gg)
     have I : Hid (OwnS w1.heap.size u1 x1 y1 (turns m q (invL m ts))) := Lib.hid (ho.toS.mono KB.out.size)
     have HY1L : y1 = nb := by have := ho.len; rw [HLI.out] at this; exact this.symm
     replace KB := Lib.hid (below_go KB.out gg KB.out.size)
     clear ho gg
     subst HY1L
     go_wp2_with fail
     refine hK.out _ _ ?_ (fun hHeld => ?_)
     ·first | with_reducible exact SH.out _ KB.out | with_reducible exact SZ.out _ KB.out _ zG.out _ _ _
     clear hK K
     try simp only [Act.put, List.setIfInBounds_toArray, List.set_cons_zero, List.set_cons_succ]
     refine wpAnyH_ready (rs := [3]) (by kernel_rfl) (by simp) ?_
     refine AllReadyH.cons (o := { dst := some 20, op := Op.call { callee := Callee.value (Operand.func 57), args := #[Operand.tmp 18, Operand.tmp 19], argTypes := #[28, 28] }, type := 28, pos := "l04_conjugacy.go:245", after := #[{ on := 1, ground := Ground.data }, { on := 2, ground := Ground.data }, { on := 1, ground := Ground.chain }], guard := none }) rfl (fun K hK => ?_) ?_
     ·go_simp
      refine (times_any m m1 m8 (-(y1 : Int) - q) p (by omega) (by omega) x1 a y1 z1 n cap (turns m q (invL m ts)) rs _ I.out.reads ((HR.out.below B.out).below KB.out) HNI.out HN.out (by omega) (by omega) e1 k1 HK1.out).mono ?_
      rintro e u3 ⟨x3, y3, z3, rfl, hcp, ho, gg⟩
      have PA := Lib.hid (OwnS.apart (g := w1.heap.size) (ho) Z0.out.1)
      replace I := Lib.hid (I.out.below gg)
      replace Z0 := Lib.hid (Z0.out.below gg)
      have P : Hid (OwnS w1.heap.size u3 x3 y3 k1) := Lib.hid (OwnS.mono (ho) KB.out.size)
      replace KB := Lib.hid (below_go KB.out gg KB.out.size)
      clear ho gg
      go_wp2_with fail
      refine hK.out _ _ ?_ (fun hHeld => ?_)
      ·first | with_reducible exact SH.out _ KB.out | with_reducible exact SZ.out _ KB.out _ zG.out _ _ _
      clear hK K
      try simp only [Act.put, List.setIfInBounds_toArray, List.set_cons_zero, List.set_cons_succ]
      refine wpAnyH_ready (rs := [4]) (by kernel_rfl) (by simp) ?_
      refine AllReadyH.cons (o := { dst := some 21, op := Op.call { callee := Callee.value (Operand.func 55), args := #[Operand.tmp 20], argTypes := #[28] }, type := 29, pos := "l04_conjugacy.go:245", after := #[{ on := 3, ground := Ground.data }, { on := 3, ground := Ground.chain }], guard := none }) rfl (fun K hK => ?_) ?_
      ·go_simp
       refine (limited_own m e1 x3 y3 z3 k1 _ P.out _ _ _ _ HG.out).mono ?_
       rintro e u4 ⟨x4, y4, z4, rfl, ho, h200, hre, gg⟩
       replace I := Lib.hid (I.out.below gg)
       replace P := Lib.hid (P.out.below gg)
       replace Z0 := Lib.hid (Z0.out.below gg)
       have Q : Hid (OwnS w1.heap.size u4 x4 y4 grs) := Lib.hid ho
       have QA : Hid (y4 = 0 ∨ ∀ x, x4 = some x → x.block ≠ w1.heap.size) := Lib.hid (by rcases hre with h | ⟨h, h'⟩; exact .inl h; (rw [h, h']; exact PA.out))
       replace KB := Lib.hid (below_go KB.out gg KB.out.size)
       clear ho gg
       go_wp2_with fail
       refine hK.out _ _ ?_ (fun hHeld => ?_)
       ·first | with_reducible exact SH.out _ KB.out | with_reducible exact SZ.out _ KB.out _ zG.out _ _ _
       clear hK K
       try simp only [Act.put, List.setIfInBounds_toArray, List.set_cons_zero, List.set_cons_succ]
       refine wpAnyH_take (i := 5) (oi := { dst := some 16, op := Op.move (Operand.tmp 21), type := 29, pos := "l04_conjugacy.go:245", after := #[{ on := 4, ground := Ground.data }], guard := none }) (v := ?_) rfl (by kernel_rfl) (by kernel_rfl) (by kernel_rfl) (fun _ _ _ h => h) (Or.inl ⟨by rfl, ?_⟩) (by assumption) ?_
       rotate_left
       ·intro w hSw
        (try dsimp only at hSw)
        go_simp
        try with_reducible rfl
       try simp only [Act.put, List.setIfInBounds_toArray, List.set_cons_zero, List.set_cons_succ]
       refine wpAnyH_take (i := 6) (oi := { dst := some 22, op := Op.extract (Operand.tmp 16) 0, type := 28, pos := "l04_conjugacy.go:245", after := #[{ on := 5, ground := Ground.data }], guard := none }) (v := ?_) rfl (by kernel_rfl) (by kernel_rfl) (by kernel_rfl) (fun _ _ _ h => h) (Or.inl ⟨by rfl, ?_⟩) (by assumption) ?_
       rotate_left
       ·intro w hSw
        (try dsimp only at hSw)
        go_simp
        try with_reducible rfl
       try simp only [Act.put, List.setIfInBounds_toArray, List.set_cons_zero, List.set_cons_succ]
       refine wpAnyH_take (i := 7) (oi := { dst := some 23, op := Op.extract (Operand.tmp 16) 1, type := 2, pos := "l04_conjugacy.go:245", after := #[{ on := 5, ground := Ground.data }, { on := 9, ground := Ground.gcOnly Departure.lateStores }], guard := none }) (v := ?_) rfl (by kernel_rfl) (by kernel_rfl) (by kernel_rfl) (fun _ _ _ h => h) (Or.inl ⟨by rfl, ?_⟩) (by assumption) ?_
       rotate_left
       ·intro w hSw
        (try dsimp only at hSw)
        go_simp
        try with_reducible rfl
       try simp only [Act.put, List.setIfInBounds_toArray, List.set_cons_zero, List.set_cons_succ]
       refine wpAnyH_ready (rs := [9]) (by kernel_rfl) (by simp) ?_
       refine AllReadyH.cons (o := { dst := none, op := Op.store 28 (Operand.tmp 7) (Operand.tmp 22), type := 0, pos := "l04_conjugacy.go:245", after := #[{ on := 8, ground := Ground.data }, { on := 6, ground := Ground.data }, { on := 4, ground := Ground.chain }, { on := 0, ground := Ground.phase }, { on := 1, ground := Ground.phase }, { on := 2, ground := Ground.phase }, { on := 3, ground := Ground.phase }, { on := 4, ground := Ground.phase }, { on := 5, ground := Ground.phase }, { on := 6, ground := Ground.phase }, { on := 7, ground := Ground.textOnly Departure.lateStores }, { on := 8, ground := Ground.phase }], guard := none }) rfl (fun K hK => ?_) ?_
       ·obtain ⟨w0, ⟨w1', w2', w3'⟩, w4', w5', w6'⟩ := Z0.out
        go_simp
        clear w0 w1' w2' w3' w4' w5' w6'
        replace Z0 := Lib.hid (Z0.out.fill (.int .i64 gs) (.int .i64 gq) (.slice x4 y4 z4))
        replace Q := Lib.hid (Q.out.past3 QA.out (.int .i64 gs) (.int .i64 gq) (.slice x4 y4 z4))
        replace KB := Lib.hid (below_set3 KB.out zG.out (.int .i64 gs) (.int .i64 gq) (.slice x4 y4 z4))
        obtain ⟨V9, hV9⟩ : ∃ V, V = (((u4.setCell ⟨w1.heap.size, 0, none⟩ (.int .i64 gs)).setCell ⟨w1.heap.size, 1, none⟩ (.int .i64 gq)).setCell ⟨w1.heap.size, 2, none⟩ (.slice x4 y4 z4)) := ⟨_, rfl⟩
        rw [← hV9] at Z0 Q KB ⊢
        clear hV9
        refine hK.out _ _ ?_ (fun hHeld => ?_)
        ·first | with_reducible exact SH.out _ KB.out | with_reducible exact SZ.out _ KB.out _ zG.out _ _ _
        clear hK K
        try simp only [Act.put, List.setIfInBounds_toArray, List.set_cons_zero, List.set_cons_succ]
        refine wpAnyH_ready (rs := [10]) (by kernel_rfl) (by simp) ?_
        refine AllReadyH.cons (o := { dst := some 8, op := Op.assign (Operand.tmp 23), type := 2, pos := "l04_conjugacy.go:245", after := #[{ on := 7, ground := Ground.data }, { on := 9, ground := Ground.chain }, { on := 0, ground := Ground.phase }, { on := 1, ground := Ground.phase }, { on := 2, ground := Ground.phase }, { on := 3, ground := Ground.phase }, { on := 4, ground := Ground.phase }, { on := 5, ground := Ground.phase }, { on := 6, ground := Ground.phase }, { on := 7, ground := Ground.phase }, { on := 8, ground := Ground.phase }, { on := 9, ground := Ground.phase }], guard := none }) rfl (fun K hK => ?_) ?_
        ·go_simp
         refine hK.out _ _ ?_ (fun hHeld => ?_)
         ·first | with_reducible exact SH.out _ KB.out | with_reducible exact SZ.out _ KB.out _ zG.out _ _ _
         clear hK K
         try simp only [Act.put, List.setIfInBounds_toArray, List.set_cons_zero, List.set_cons_succ]
         refine wpAnyH_done (by kernel_rfl) ?_ _
         go_wp2_with fail
         go_meet
         exact ⟨_, _, _, _, rfl, rfl, h200, zG.out, Z0.out, Q.out, KB.out⟩
        exact AllReadyH.nil
       exact AllReadyH.nil
      exact AllReadyH.nil
     exact AllReadyH.nil
    exact AllReadyH.nil
   exact AllReadyH.nil
  case rest =>
   obtain ⟨w2, hwc⟩ : ∃ x, x = wc := ⟨_, rfl⟩; subst hwc
   obtain ⟨g, b2, m2, d2, rfl, rfl, h200, hgl, hW, hQ, hb⟩ := hcut
   replace A := Lib.hid (A.out.below hb)
   replace X := Lib.hid (X.out.below hb)
   replace Z := Lib.hid (Z.out.below hb)
   replace B := Lib.hid (below_go B.out hb (by omega))
   have hz2 : w1.heap.size ≤ w2.heap.size := hb.size
   have FB := Lib.hid hW
   have Q := Lib.hid hQ
   clear hW hQ hb
   by_cases hgc : gc = 0
   ·obtain ⟨hf1, hf2, hf3, hf4, hf5⟩ := fitN_ok HG.out hgc
    subst hf1 hf2 hf3 hgc
    have HM2 : Hid (fitN m (mkN m (e1 + q) (turns m q k1 ++ ts)).1 (mkN m (e1 + q) (turns m q k1 ++ ts)).2 = (fs, fp, frs, fc)) := Lib.hid (by have h := HM.out; rw [if_pos rfl] at h; exact h)
    obtain ⟨e2, k2, hk2⟩ : ∃ e2 k2, mkN m (e1 + q) (turns m q k1 ++ ts) = (e2, k2) := ⟨_, _, rfl⟩
    rw [hk2] at HM2
    have HK2 := Lib.hid hk2; clear hk2
    obtain ⟨q1, q2, q3⟩ := X.out.all
    obtain ⟨r1, r2, r3⟩ := FB.out.all
    go_wp2_with fail
    refine (times_any m m1 m8 e1 q (by omega) (by omega) b2 b m2 d2 nb capb k1 ts _ Q.out.reads (HR2.out.below B.out) HNK.out HN2.out (by omega) (by omega) e2 k2 HK2.out).mono ?_
    rintro e w3 ⟨a5, n5, c5, rfl, hcp, ho, gg⟩
    have hz3 : w2.heap.size ≤ w3.heap.size := gg.size
    replace Z := Lib.hid (Z.out.below gg)
    replace B := Lib.hid (below_go B.out gg (by omega))
    have O5 : Hid (OwnS w2.heap.size w3 a5 n5 k2) := Lib.hid (ho)
    clear ho gg q1 q2 q3 r1 r2 r3
    go_wp2_with fail
    refine (limited_own m e2 a5 n5 c5 k2 _ O5.out _ _ _ _ HM2.out).mono ?_
    rintro e w4 ⟨a6, n6, c6, rfl, ho, h6, _, gg⟩
    have hz4 : w3.heap.size ≤ w4.heap.size := gg.size
    replace Z := Lib.hid (Z.out.below gg)
    replace B := Lib.hid (below_go B.out gg (by omega))
    have O6 := Lib.hid ho
    clear ho gg
    obtain ⟨x0, ⟨x1, x2, x3⟩, y1, y2, y3⟩ := Z.out
    go_wp2
    try rw [Exit.noGoto_ret]
    obtain ⟨_, ⟨e1', e2', e3'⟩, _⟩ := ((Z.out.fill (.int .i64 fs) (.int .i64 fp) (.slice a6 n6 c6)))
    exact bodyPost_ret (v := .tuple #[.agg #[.int .i64 fs, .int .i64 fp, .slice a6 n6 c6], .int .i64 fc]) (by simp [results, Try.results23, go_sem, e1', e2', e3']) rfl ⟨_, _, _, rfl, by omega, ((((O6.out).set3 (by omega) _ _ _)).mono (by omega)), (below_set3 B.out (by omega) _ _ _)⟩
   ·obtain ⟨rfl, rfl, rfl, rfl⟩ := fitN_no HG.out hgc
    have hM2 := HM.out
    rw [if_neg hgc] at hM2
    simp only [Prod.mk.injEq] at hM2
    obtain ⟨rfl, rfl, rfl, rfl⟩ := hM2
    obtain ⟨x0, ⟨x1, x2, x3⟩, y1, y2, y3⟩ := Z.out
    go_wp2
    try rw [Exit.noGoto_ret]
    obtain ⟨_, ⟨e1, e2, e3⟩, _⟩ := Z.out.fill (.int .i64 0) (.int .i64 0) (.slice none 0 0)
    exact bodyPost_ret (v := .tuple #[.agg #[.int .i64 0, .int .i64 0, .slice none 0 0], .int .i64 3]) (by simp [results, Try.results23, go_sem, e1, e2, e3]) rfl ⟨none, 0, 0, rfl, by omega, OwnS.nil _ _ _, below_set3 B.out (by omega) _ _ _⟩
 ·rw [if_neg hc0] at hM
  simp only [Prod.mk.injEq] at hM
  obtain ⟨rfl, rfl, rfl, rfl⟩ := hM
  have hne : (pairC s p rs t q ts != 0) = true := by simpa using hc0
  go_enter Try.func23, Try.ntmps23
  have A := Lib.hid (((At3.place w (.int .i64 s) (.int .i64 p) (.slice a n cap) 28 w.heap.size rfl).alloc (.cells #[.int .i64 t, .int .i64 q, .slice b nb capb] 28)).alloc (.cells #[.int .i64 0, .int .i64 0, .slice none 0 0] 28))
  have X := Lib.hid ((At3.place (w.alloc (.cells #[.int .i64 s, .int .i64 p, .slice a n cap] 28)) (.int .i64 t) (.int .i64 q) (.slice b nb capb) 28 (w.heap.size + 1) (by simp)).alloc (.cells #[.int .i64 0, .int .i64 0, .slice none 0 0] 28))
  have Z := Lib.hid (At3.place ((w.alloc (.cells #[.int .i64 s, .int .i64 p, .slice a n cap] 28)).alloc (.cells #[.int .i64 t, .int .i64 q, .slice b nb capb] 28)) (.int .i64 0) (.int .i64 0) (.slice none 0 0) 28 (w.heap.size + 1 + 1) (by simp))
  have B := Lib.hid (((below1 w (.cells #[.int .i64 s, .int .i64 p, .slice a n cap] 28)).alloc (by simp) (.cells #[.int .i64 t, .int .i64 q, .slice b nb capb] 28)).alloc (by simp; omega) (.cells #[.int .i64 0, .int .i64 0, .slice none 0 0] 28))
  obtain ⟨q1, q2, q3⟩ := A.out.all
  obtain ⟨r1, r2, r3⟩ := X.out.all
  go_wp2_with fail
  refine (pairCode_any s p t q a b n cap nb capb rs ts _ (((HR.out.alloc _).alloc _).alloc _) HY0.out hn (((HR2.out.alloc _).alloc _).alloc _) HY1.out hn2).mono ?_
  rintro e w1 ⟨rfl, hb⟩
  have hz1 : w.heap.size + 1 + 1 + 1 ≤ w1.heap.size := by have := hb.size; simp at this; omega
  clear q1 q2 q3 r1 r2 r3
  replace A := Lib.hid (A.out.below hb)
  replace X := Lib.hid (X.out.below hb)
  replace Z := Lib.hid (Z.out.below hb)
  replace B := Lib.hid (below_go B.out hb (by simp; omega))
  clear hb
  obtain ⟨q1, q2, q3⟩ := A.out.all
  obtain ⟨r1, r2, r3⟩ := X.out.all
  obtain ⟨x0, ⟨x1, x2, x3⟩, y1, y2, y3⟩ := Z.out
  go_wp2
  try rw [Exit.noGoto_ret]
  obtain ⟨_, ⟨e1, e2, e3⟩, _⟩ := Z.out.fill (.int .i64 0) (.int .i64 0) (.slice none 0 0)
  exact bodyPost_ret (v := .tuple #[.agg #[.int .i64 0, .int .i64 0, .slice none 0 0], .int .i64 (pairC s p rs t q ts)]) (by simp [results, Try.results23, go_sem, e1, e2, e3]) rfl ⟨none, 0, 0, rfl, by omega, OwnS.nil _ _ _, below_set3 B.out (by omega) _ _ _⟩

end Go.Proofs.Ytleoohplnkdbdab

