/- Products of normal forms: the model and the program. -/
import Derived.Test.YtleoohplnkdbdaaMsNPair
import Derived.Test.YtleoohplnkdbdaaMsSPro
import Derived.Test.YtleoohplnkdbdaaMsITms
import Derived.Test.YtleoohplnkdbdaaMsSFit
import Derived.Test.YtleoohplnkdbdaaMsIFit
namespace Go.Proofs.Ytleoohplnkdbdaa
open Go.RowKit Go.ChangeShapes

theorem pairC_ok {s p t q : Int} {rs ts : List (List Int)} (h : pairC s p rs t q ts = 0) : normB s p rs = true ∧ normB t q ts = true ∧ s = t := by
 unfold pairC at h
 split at h
 ·rename_i h1
  split at h
  ·exact ⟨h1.1, h1.2, by assumption⟩
  ·cases h
 ·cases h

/-- What the program hands back: a normal form, its factors the call's own, and a code. -/
def RetNCS (w : World) (s p : Int) (rs : List (List Int)) (c : Int) (e : Ending) (w' : World) : Prop :=
 ∃ a n cap, e = .returned (.tuple #[.agg #[.int .i64 s, .int .i64 p, .slice a n cap], .int .i64 c]) ∧ n ≤ 1048576 ∧ OwnS w.heap.size w' a n rs ∧ Below w.heap.size w w'

theorem OwnS.apartHi {B g : Nat} {w : World} {a : Option Addr} {n : Nat} {rs : List (List Int)} (h : OwnS B w a n rs) (hg : w.heap.size ≤ g) : n = 0 ∨ ∀ x, a = some x → x.block ≠ g := by
 rcases h.2.2 with h0 | ⟨g2, off, rfl, _, hB, _⟩
 ·exact .inl h0
 ·exact .inr fun x hx => by cases hx; simp; omega

/-- The product of two normal forms, or the code. -/
def mMulN (s p : Int) (rs : List (List Int)) (t q : Int) (ts : List (List Int)) : Int × Int × List (List Int) × Int := if pairC s p rs t q ts = 0 then fitN s (mkN s.toNat (p + q) (turns s.toNat q rs ++ ts)).1 (mkN s.toNat (p + q) (turns s.toNat q rs ++ ts)).2 else (0, 0, [], pairC s p rs t q ts)

set_option maxRecDepth 100000 in
set_option maxHeartbeats 2000000 in
theorem specMultiply_any (s p : Int) (a : Option Addr) (n cap : Nat) (rs : List (List Int)) (t q : Int) (b : Option Addr) (nb capb : Nat) (ts : List (List Int)) (w : World) (hr : ReadsA w a n rs) (hy : BytesA rs) (hn : n ≤ 1048576) (hr2 : ReadsA w b nb ts) (hy2 : BytesA ts) (hn2 : nb ≤ 1048576) (fs fp : Int) (frs : List (List Int)) (fc : Int) (hM : mMulN s p rs t q ts = (fs, fp, frs, fc)) :
  Calls Try.prog 10 #[.agg #[.int .i64 s, .int .i64 p, .slice a n cap], .agg #[.int .i64 t, .int .i64 q, .slice b nb capb]] w (RetNC w fs fp frs fc) := by
 have HL := Lib.hid hr.len
 have HL2 := Lib.hid hr2.len
 have HR := Lib.hid hr; clear hr
 have HR2 := Lib.hid hr2; clear hr2
 have HY0 := Lib.hid hy; clear hy
 have HY1 := Lib.hid hy2; clear hy2
 unfold mMulN at hM
 by_cases hc0 : pairC s p rs t q ts = 0
 ·obtain ⟨hB, hB2, rfl⟩ := pairC_ok hc0
  rw [if_pos hc0] at hM
  obtain ⟨m, rfl, m1, m8, hnl, hp, hlen⟩ := norm_nl HR.out.rows hB
  obtain ⟨m', hm', _, _, hnl2, hq, hlen2⟩ := norm_nl HR2.out.rows hB2
  obtain rfl : m = m' := by omega
  clear hm'
  rw [Int.toNat_natCast] at hM
  have HN := Lib.hid hnl; clear hnl
  have HN2 := Lib.hid hnl2; clear hnl2
  rw [HL.out] at hlen
  rw [HL2.out] at hlen2
  obtain ⟨e0, kf, hmk⟩ : ∃ e0 kf, mkN m (p + q) (turns m q rs ++ ts) = (e0, kf) := ⟨_, _, rfl⟩
  rw [hmk] at hM
  have HMK := Lib.hid hmk; clear hmk
  have HM := Lib.hid hM; clear hM
  have HC0 := Lib.hid hc0; clear hc0
  go_enter Try.func10, Try.ntmps10
  have A := Lib.hid (((At3.place w (.int .i64 m) (.int .i64 p) (.slice a n cap) 28 w.heap.size rfl).alloc (.cells #[.int .i64 m, .int .i64 q, .slice b nb capb] 28)).alloc (.cells #[.int .i64 0, .int .i64 0, .slice none 0 0] 28))
  have X := Lib.hid ((At3.place (w.alloc (.cells #[.int .i64 m, .int .i64 p, .slice a n cap] 28)) (.int .i64 m) (.int .i64 q) (.slice b nb capb) 28 (w.heap.size + 1) (by simp)).alloc (.cells #[.int .i64 0, .int .i64 0, .slice none 0 0] 28))
  have Z := Lib.hid (At3.place ((w.alloc (.cells #[.int .i64 m, .int .i64 p, .slice a n cap] 28)).alloc (.cells #[.int .i64 m, .int .i64 q, .slice b nb capb] 28)) (.int .i64 0) (.int .i64 0) (.slice none 0 0) 28 (w.heap.size + 1 + 1) (by simp))
  have B := Lib.hid (((below1 w (.cells #[.int .i64 m, .int .i64 p, .slice a n cap] 28)).alloc (by simp) (.cells #[.int .i64 m, .int .i64 q, .slice b nb capb] 28)).alloc (by simp; omega) (.cells #[.int .i64 0, .int .i64 0, .slice none 0 0] 28))
  obtain ⟨q1, q2, q3⟩ := A.out.all
  obtain ⟨r1, r2, r3⟩ := X.out.all
  go_wp2_with fail
  refine (l03Both_any m p m q a b n cap nb capb rs ts _ (((HR.out.alloc _).alloc _).alloc _) HY0.out hn (((HR2.out.alloc _).alloc _).alloc _) HY1.out hn2).mono ?_
  rw [HC0.out]
  rintro e w1 ⟨rfl, hb⟩
  have hz1 : w.heap.size + 1 + 1 + 1 ≤ w1.heap.size := by have := hb.size; simp at this; omega
  clear q1 q2 q3 r1 r2 r3
  replace A := Lib.hid (A.out.below hb)
  replace X := Lib.hid (X.out.below hb)
  replace Z := Lib.hid (Z.out.below hb)
  replace B := Lib.hid (below_go B.out hb (by simp; omega))
  clear hb
  obtain ⟨q1, q2, q3⟩ := A.out.all
  obtain ⟨r1, r2, r3⟩ := X.out.all
  go_wp2_with fail
  refine (l03Product_any m m1 m8 p q (by omega) (by omega) a b n cap nb capb rs ts _ (HR.out.below B.out) (HR2.out.below B.out) HN.out.sims HN2.out.sims (by omega) (by omega) e0 kf HMK.out).mono ?_
  rintro e w2 ⟨a2, n2, c2, rfl, ho, hb⟩
  have hz2 : w1.heap.size ≤ w2.heap.size := hb.size
  have O := Lib.hid ho
  have ON := Lib.hid ho.len
  replace Z := Lib.hid (Z.out.below hb)
  replace B := Lib.hid (below_go B.out hb (by omega))
  clear hb ho q1 q2 q3 r1 r2 r3 A X
  by_cases hfit : -200 ≤ e0 ∧ e0 ≤ 200 ∧ n2 ≤ 200
  ·have hM2 := HM.out
   unfold fitN at hM2
   rw [if_pos (by rw [ON.out]; exact hfit)] at hM2
   simp only [Prod.mk.injEq] at hM2
   obtain ⟨rfl, rfl, rfl, rfl⟩ := hM2
   go_wp2_with fail
   refine (l03Fit_yes m e0 a2 n2 c2 _ hfit).mono ?_
   rintro e w3 ⟨rfl, hb⟩
   have hz3 : w2.heap.size ≤ w3.heap.size := hb.size
   replace O := Lib.hid (O.out.below hb)
   replace Z := Lib.hid (Z.out.below hb)
   replace B := Lib.hid (below_go B.out hb (by omega))
   clear hb
   obtain ⟨x0, ⟨x1, x2, x3⟩, y1, y2, y3⟩ := Z.out
   go_wp2
   try rw [Exit.noGoto_ret]
   obtain ⟨_, ⟨e1, e2, e3⟩, _⟩ := ((Z.out.fill (.int .i64 (m)) (.int .i64 (e0)) (.slice a2 n2 c2)).alloc (.cells #[.int .i64 m, .int .i64 e0, .slice a2 n2 c2] 28))
   exact bodyPost_ret (v := .tuple #[.agg #[.int .i64 (m), .int .i64 (e0), .slice a2 n2 c2], .int .i64 0]) (by simp [results, Try.results10, go_sem, e1, e2, e3]) rfl ⟨_, _, _, rfl, by omega, ((((O.out).set3 (by omega) _ _ _).alloc (.cells #[.int .i64 m, .int .i64 e0, .slice a2 n2 c2] 28)).mono (by omega)), ((below_set3 B.out (by omega) _ _ _).alloc (by simp [World.setCell]; omega) (.cells #[.int .i64 m, .int .i64 e0, .slice a2 n2 c2] 28))⟩
  ·have hM2 := HM.out
   unfold fitN at hM2
   rw [if_neg (by rw [ON.out]; exact hfit)] at hM2
   simp only [Prod.mk.injEq] at hM2
   obtain ⟨rfl, rfl, rfl, rfl⟩ := hM2
   go_wp2_with fail
   refine (l03Fit_no m e0 a2 n2 c2 _ hfit).mono ?_
   rintro e w3 ⟨rfl, hb⟩
   have hz3 : w2.heap.size ≤ w3.heap.size := hb.size
   replace O := Lib.hid (O.out.below hb)
   replace Z := Lib.hid (Z.out.below hb)
   replace B := Lib.hid (below_go B.out hb (by omega))
   clear hb
   obtain ⟨x0, ⟨x1, x2, x3⟩, y1, y2, y3⟩ := Z.out
   go_wp2
   try rw [Exit.noGoto_ret]
   obtain ⟨_, ⟨e1, e2, e3⟩, _⟩ := ((Z.out.fill (.int .i64 (0)) (.int .i64 (0)) (.slice none 0 0)).alloc (.cells #[.int .i64 0, .int .i64 0, .slice none 0 0] 28))
   exact bodyPost_ret (v := .tuple #[.agg #[.int .i64 (0), .int .i64 (0), .slice none 0 0], .int .i64 3]) (by simp [results, Try.results10, go_sem, e1, e2, e3]) rfl ⟨_, _, _, rfl, by omega, (OwnA.nil _ _), ((below_set3 B.out (by omega) _ _ _).alloc (by simp [World.setCell]; omega) (.cells #[.int .i64 0, .int .i64 0, .slice none 0 0] 28))⟩
 ·rw [if_neg hc0] at hM
  simp only [Prod.mk.injEq] at hM
  obtain ⟨rfl, rfl, rfl, rfl⟩ := hM
  have hne : (pairC s p rs t q ts != 0) = true := by simpa using hc0
  go_enter Try.func10, Try.ntmps10
  have A := Lib.hid (((At3.place w (.int .i64 s) (.int .i64 p) (.slice a n cap) 28 w.heap.size rfl).alloc (.cells #[.int .i64 t, .int .i64 q, .slice b nb capb] 28)).alloc (.cells #[.int .i64 0, .int .i64 0, .slice none 0 0] 28))
  have X := Lib.hid ((At3.place (w.alloc (.cells #[.int .i64 s, .int .i64 p, .slice a n cap] 28)) (.int .i64 t) (.int .i64 q) (.slice b nb capb) 28 (w.heap.size + 1) (by simp)).alloc (.cells #[.int .i64 0, .int .i64 0, .slice none 0 0] 28))
  have Z := Lib.hid (At3.place ((w.alloc (.cells #[.int .i64 s, .int .i64 p, .slice a n cap] 28)).alloc (.cells #[.int .i64 t, .int .i64 q, .slice b nb capb] 28)) (.int .i64 0) (.int .i64 0) (.slice none 0 0) 28 (w.heap.size + 1 + 1) (by simp))
  have B := Lib.hid (((below1 w (.cells #[.int .i64 s, .int .i64 p, .slice a n cap] 28)).alloc (by simp) (.cells #[.int .i64 t, .int .i64 q, .slice b nb capb] 28)).alloc (by simp; omega) (.cells #[.int .i64 0, .int .i64 0, .slice none 0 0] 28))
  obtain ⟨q1, q2, q3⟩ := A.out.all
  obtain ⟨r1, r2, r3⟩ := X.out.all
  go_wp2_with fail
  refine (l03Both_any s p t q a b n cap nb capb rs ts _ (((HR.out.alloc _).alloc _).alloc _) HY0.out hn (((HR2.out.alloc _).alloc _).alloc _) HY1.out hn2).mono ?_
  rintro e w1 ⟨rfl, hb⟩
  have hz1 : w.heap.size + 1 + 1 + 1 ≤ w1.heap.size := by have := hb.size; simp at this; omega
  clear q1 q2 q3 r1 r2 r3
  replace A := Lib.hid (A.out.below hb)
  replace X := Lib.hid (X.out.below hb)
  replace Z := Lib.hid (Z.out.below hb)
  replace B := Lib.hid (below_go B.out hb (by simp; omega))
  clear hb
  obtain ⟨q1, q2, q3⟩ := A.out.all
  obtain ⟨r1, r2, r3⟩ := X.out.all
  obtain ⟨x0, ⟨x1, x2, x3⟩, y1, y2, y3⟩ := Z.out
  go_wp2
  try rw [Exit.noGoto_ret]
  obtain ⟨_, ⟨e1, e2, e3⟩, _⟩ := Z.out.fill (.int .i64 0) (.int .i64 0) (.slice none 0 0)
  exact bodyPost_ret (v := .tuple #[.agg #[.int .i64 0, .int .i64 0, .slice none 0 0], .int .i64 (pairC s p rs t q ts)]) (by simp [results, Try.results10, go_sem, e1, e2, e3]) rfl ⟨none, 0, 0, rfl, by omega, OwnA.nil _ _, below_set3 B.out (by omega) _ _ _⟩

set_option maxRecDepth 100000 in
set_option maxHeartbeats 2000000 in
theorem implMultiply_any (s p : Int) (a : Option Addr) (n cap : Nat) (rs : List (List Int)) (t q : Int) (b : Option Addr) (nb capb : Nat) (ts : List (List Int)) (w : World) (hr : ReadsA w a n rs) (hy : BytesA rs) (hn : n ≤ 1048576) (hr2 : ReadsA w b nb ts) (hy2 : BytesA ts) (hn2 : nb ≤ 1048576) (fs fp : Int) (frs : List (List Int)) (fc : Int) (hM : mMulN s p rs t q ts = (fs, fp, frs, fc)) :
  Calls Try.prog 12 #[.agg #[.int .i64 s, .int .i64 p, .slice a n cap], .agg #[.int .i64 t, .int .i64 q, .slice b nb capb]] w (RetNCS w fs fp frs fc) := by
 have HL := Lib.hid hr.len
 have HL2 := Lib.hid hr2.len
 have HR := Lib.hid hr; clear hr
 have HR2 := Lib.hid hr2; clear hr2
 have HY0 := Lib.hid hy; clear hy
 have HY1 := Lib.hid hy2; clear hy2
 unfold mMulN at hM
 by_cases hc0 : pairC s p rs t q ts = 0
 ·obtain ⟨hB, hB2, rfl⟩ := pairC_ok hc0
  rw [if_pos hc0] at hM
  obtain ⟨m, rfl, m1, m8, hnl, hp, hlen⟩ := norm_nl HR.out.rows hB
  obtain ⟨m', hm', _, _, hnl2, hq, hlen2⟩ := norm_nl HR2.out.rows hB2
  obtain rfl : m = m' := by omega
  clear hm'
  rw [Int.toNat_natCast] at hM
  have HN := Lib.hid hnl; clear hnl
  have HN2 := Lib.hid hnl2; clear hnl2
  rw [HL.out] at hlen
  rw [HL2.out] at hlen2
  obtain ⟨e0, kf, hmk⟩ : ∃ e0 kf, mkN m (p + q) (turns m q rs ++ ts) = (e0, kf) := ⟨_, _, rfl⟩
  rw [hmk] at hM
  have HMK := Lib.hid hmk; clear hmk
  have HM := Lib.hid hM; clear hM
  have HC0 := Lib.hid hc0; clear hc0
  go_enter Try.func12, Try.ntmps12
  have A := Lib.hid (((At3.place w (.int .i64 m) (.int .i64 p) (.slice a n cap) 28 w.heap.size rfl).alloc (.cells #[.int .i64 m, .int .i64 q, .slice b nb capb] 28)).alloc (.cells #[.int .i64 0, .int .i64 0, .slice none 0 0] 28))
  have X := Lib.hid ((At3.place (w.alloc (.cells #[.int .i64 m, .int .i64 p, .slice a n cap] 28)) (.int .i64 m) (.int .i64 q) (.slice b nb capb) 28 (w.heap.size + 1) (by simp)).alloc (.cells #[.int .i64 0, .int .i64 0, .slice none 0 0] 28))
  have Z := Lib.hid (At3.place ((w.alloc (.cells #[.int .i64 m, .int .i64 p, .slice a n cap] 28)).alloc (.cells #[.int .i64 m, .int .i64 q, .slice b nb capb] 28)) (.int .i64 0) (.int .i64 0) (.slice none 0 0) 28 (w.heap.size + 1 + 1) (by simp))
  have B := Lib.hid (((below1 w (.cells #[.int .i64 m, .int .i64 p, .slice a n cap] 28)).alloc (by simp) (.cells #[.int .i64 m, .int .i64 q, .slice b nb capb] 28)).alloc (by simp; omega) (.cells #[.int .i64 0, .int .i64 0, .slice none 0 0] 28))
  obtain ⟨q1, q2, q3⟩ := A.out.all
  obtain ⟨r1, r2, r3⟩ := X.out.all
  go_wp2_with fail
  refine (pairCode_any m p m q a b n cap nb capb rs ts _ (((HR.out.alloc _).alloc _).alloc _) HY0.out hn (((HR2.out.alloc _).alloc _).alloc _) HY1.out hn2).mono ?_
  rw [HC0.out]
  rintro e w1 ⟨rfl, hb⟩
  have hz1 : w.heap.size + 1 + 1 + 1 ≤ w1.heap.size := by have := hb.size; simp at this; omega
  clear q1 q2 q3 r1 r2 r3
  replace A := Lib.hid (A.out.below hb)
  replace X := Lib.hid (X.out.below hb)
  replace Z := Lib.hid (Z.out.below hb)
  replace B := Lib.hid (below_go B.out hb (by simp; omega))
  clear hb
  obtain ⟨q1, q2, q3⟩ := A.out.all
  obtain ⟨r1, r2, r3⟩ := X.out.all
  go_wp2_with fail
  refine (times_any m m1 m8 p q (by omega) (by omega) a b n cap nb capb rs ts _ (HR.out.below B.out) (HR2.out.below B.out) HN.out HN2.out (by omega) (by omega) e0 kf HMK.out).mono ?_
  rintro e w2 ⟨a2, n2, c2, rfl, hnc, ho, hb⟩
  have hz2 : w1.heap.size ≤ w2.heap.size := hb.size
  have O := Lib.hid ho
  have ON := Lib.hid ho.len
  replace Z := Lib.hid (Z.out.below hb)
  replace B := Lib.hid (below_go B.out hb (by omega))
  clear hb ho q1 q2 q3 r1 r2 r3 A X
  by_cases hfit : -200 ≤ e0 ∧ e0 ≤ 200 ∧ n2 ≤ 200
  ·have hM2 := HM.out
   unfold fitN at hM2
   rw [if_pos (by rw [ON.out]; exact hfit)] at hM2
   simp only [Prod.mk.injEq] at hM2
   obtain ⟨rfl, rfl, rfl, rfl⟩ := hM2
   go_wp2_with fail
   refine (limited_yes m e0 a2 n2 c2 _ hfit).mono ?_
   rintro e w3 ⟨rfl, hb⟩
   have hz3 : w2.heap.size ≤ w3.heap.size := hb.size
   replace O := Lib.hid (O.out.below hb)
   replace Z := Lib.hid (Z.out.below hb)
   replace B := Lib.hid (below_go B.out hb (by omega))
   clear hb
   obtain ⟨x0, ⟨x1, x2, x3⟩, y1, y2, y3⟩ := Z.out
   go_wp2
   try rw [Exit.noGoto_ret]
   obtain ⟨_, ⟨e1, e2, e3⟩, _⟩ := ((Z.out.fill (.int .i64 (m)) (.int .i64 (e0)) (.slice a2 n2 c2)))
   exact bodyPost_ret (v := .tuple #[.agg #[.int .i64 (m), .int .i64 (e0), .slice a2 n2 c2], .int .i64 0]) (by simp [results, Try.results12, go_sem, e1, e2, e3]) rfl ⟨_, _, _, rfl, by omega, ((((O.out).set3 (by omega) _ _ _)).mono (by omega)), (below_set3 B.out (by omega) _ _ _)⟩
  ·have hM2 := HM.out
   unfold fitN at hM2
   rw [if_neg (by rw [ON.out]; exact hfit)] at hM2
   simp only [Prod.mk.injEq] at hM2
   obtain ⟨rfl, rfl, rfl, rfl⟩ := hM2
   go_wp2_with fail
   refine (limited_no m e0 a2 n2 c2 _ hfit).mono ?_
   rintro e w3 ⟨rfl, hb⟩
   have hz3 : w2.heap.size ≤ w3.heap.size := hb.size
   replace O := Lib.hid (O.out.below hb)
   replace Z := Lib.hid (Z.out.below hb)
   replace B := Lib.hid (below_go B.out hb (by omega))
   clear hb
   obtain ⟨x0, ⟨x1, x2, x3⟩, y1, y2, y3⟩ := Z.out
   go_wp2
   try rw [Exit.noGoto_ret]
   obtain ⟨_, ⟨e1, e2, e3⟩, _⟩ := ((Z.out.fill (.int .i64 (0)) (.int .i64 (0)) (.slice none 0 0)))
   exact bodyPost_ret (v := .tuple #[.agg #[.int .i64 (0), .int .i64 (0), .slice none 0 0], .int .i64 3]) (by simp [results, Try.results12, go_sem, e1, e2, e3]) rfl ⟨_, _, _, rfl, by omega, (OwnS.nil _ _ _), (below_set3 B.out (by omega) _ _ _)⟩
 ·rw [if_neg hc0] at hM
  simp only [Prod.mk.injEq] at hM
  obtain ⟨rfl, rfl, rfl, rfl⟩ := hM
  have hne : (pairC s p rs t q ts != 0) = true := by simpa using hc0
  go_enter Try.func12, Try.ntmps12
  have A := Lib.hid (((At3.place w (.int .i64 s) (.int .i64 p) (.slice a n cap) 28 w.heap.size rfl).alloc (.cells #[.int .i64 t, .int .i64 q, .slice b nb capb] 28)).alloc (.cells #[.int .i64 0, .int .i64 0, .slice none 0 0] 28))
  have X := Lib.hid ((At3.place (w.alloc (.cells #[.int .i64 s, .int .i64 p, .slice a n cap] 28)) (.int .i64 t) (.int .i64 q) (.slice b nb capb) 28 (w.heap.size + 1) (by simp)).alloc (.cells #[.int .i64 0, .int .i64 0, .slice none 0 0] 28))
  have Z := Lib.hid (At3.place ((w.alloc (.cells #[.int .i64 s, .int .i64 p, .slice a n cap] 28)).alloc (.cells #[.int .i64 t, .int .i64 q, .slice b nb capb] 28)) (.int .i64 0) (.int .i64 0) (.slice none 0 0) 28 (w.heap.size + 1 + 1) (by simp))
  have B := Lib.hid (((below1 w (.cells #[.int .i64 s, .int .i64 p, .slice a n cap] 28)).alloc (by simp) (.cells #[.int .i64 t, .int .i64 q, .slice b nb capb] 28)).alloc (by simp; omega) (.cells #[.int .i64 0, .int .i64 0, .slice none 0 0] 28))
  obtain ⟨q1, q2, q3⟩ := A.out.all
  obtain ⟨r1, r2, r3⟩ := X.out.all
  go_wp2_with fail
  refine (pairCode_any s p t q a b n cap nb capb rs ts _ (((HR.out.alloc _).alloc _).alloc _) HY0.out hn (((HR2.out.alloc _).alloc _).alloc _) HY1.out hn2).mono ?_
  rintro e w1 ⟨rfl, hb⟩
  have hz1 : w.heap.size + 1 + 1 + 1 ≤ w1.heap.size := by have := hb.size; simp at this; omega
  clear q1 q2 q3 r1 r2 r3
  replace A := Lib.hid (A.out.below hb)
  replace X := Lib.hid (X.out.below hb)
  replace Z := Lib.hid (Z.out.below hb)
  replace B := Lib.hid (below_go B.out hb (by simp; omega))
  clear hb
  obtain ⟨q1, q2, q3⟩ := A.out.all
  obtain ⟨r1, r2, r3⟩ := X.out.all
  obtain ⟨x0, ⟨x1, x2, x3⟩, y1, y2, y3⟩ := Z.out
  go_wp2
  try rw [Exit.noGoto_ret]
  obtain ⟨_, ⟨e1, e2, e3⟩, _⟩ := Z.out.fill (.int .i64 0) (.int .i64 0) (.slice none 0 0)
  exact bodyPost_ret (v := .tuple #[.agg #[.int .i64 0, .int .i64 0, .slice none 0 0], .int .i64 (pairC s p rs t q ts)]) (by simp [results, Try.results12, go_sem, e1, e2, e3]) rfl ⟨none, 0, 0, rfl, by omega, OwnS.nil _ _ _, below_set3 B.out (by omega) _ _ _⟩

end Go.Proofs.Ytleoohplnkdbdaa

