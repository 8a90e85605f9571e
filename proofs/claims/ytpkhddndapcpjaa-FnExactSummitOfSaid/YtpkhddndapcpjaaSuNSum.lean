/- Summits: the model and the program. -/
import Derived.Test.YtpkhddndapcpjaaSuSSum
namespace Go.Proofs.Ytpkhddndapcpjaa
open Go.RowKit Go.ChangeShapes

/-- The summit, or the code. -/
def mSum (s p : Int) (rs : List (List Int)) : Int × Int × List (List Int) × Int := if normB s p rs = true then fitN s (summitN s.toNat (stepsN s.toNat) rs.length (p, rs)).1 (summitN s.toNat (stepsN s.toNat) rs.length (p, rs)).2 else (0, 0, [], 1)

set_option maxRecDepth 100000 in
set_option maxHeartbeats 2000000 in
theorem specSummit_any (s p : Int) (a : Option Addr) (n cap : Nat) (rs : List (List Int)) (w : World) (hr : ReadsA w a n rs) (hy : BytesA rs) (hn : n ≤ 1048576) (hcap : n ≤ cap) (fs fp : Int) (frs : List (List Int)) (fc : Int) (hM : mSum s p rs = (fs, fp, frs, fc)) :
  Calls Try.prog 7 #[.agg #[.int .i64 s, .int .i64 p, .slice a n cap]] w (RetNCS w fs fp frs fc) := by
 have HL := Lib.hid hr.len
 have HR := Lib.hid hr; clear hr
 have HY := Lib.hid hy; clear hy
 have HCP := Lib.hid hcap; clear hcap
 unfold mSum at hM
 cases hB : normB s p rs with
 | true =>
  rw [hB, if_pos rfl] at hM
  obtain ⟨m, rfl, m1, m8, hnl, hp, hlen⟩ := norm_nl HR.out.rows hB
  have HN := Lib.hid hnl; clear hnl
  rw [Int.toNat_natCast] at hM
  rw [HL.out] at hlen
  obtain ⟨e0, kf, hk⟩ : ∃ e0 kf, summitN m (stepsN m) rs.length (p, rs) = (e0, kf) := ⟨_, _, rfl⟩
  rw [hk] at hM
  have HK := Lib.hid hk; clear hk
  have HM := Lib.hid hM; clear hM
  go_enter Try.func7, Try.ntmps7
  have A := Lib.hid ((At3.place w (.int .i64 m) (.int .i64 p) (.slice a n cap) 28 w.heap.size rfl).alloc (.cells #[.int .i64 0, .int .i64 0, .slice none 0 0] 28))
  have Z := Lib.hid (At3.place (w.alloc (.cells #[.int .i64 m, .int .i64 p, .slice a n cap] 28)) (.int .i64 0) (.int .i64 0) (.slice none 0 0) 28 (w.heap.size + 1) (by simp))
  have B := Lib.hid ((below1 w (.cells #[.int .i64 m, .int .i64 p, .slice a n cap] 28)).alloc (by simp) (.cells #[.int .i64 0, .int .i64 0, .slice none 0 0] 28))
  go_wp2_with fail
  refine (l03Is_any m p a n cap rs _ ((HR.out.alloc _).alloc _) HY.out hn).mono ?_
  rw [hB]
  rintro e w1 ⟨rfl, hb⟩
  have hz1 : w.heap.size + 1 + 1 ≤ w1.heap.size := by have := hb.size; simp at this; omega
  replace A := Lib.hid (A.out.below hb)
  replace Z := Lib.hid (Z.out.below hb)
  replace B := Lib.hid (below_go B.out hb (by simp; omega))
  clear hb
  have HGT : Hid (Got m (p, rs) (e0, kf)) := Lib.hid (by have h := summitN_got (m := m) (c := stepsN m) rs.length (x := (p, rs)) HN.out; rw [HK.out] at h; exact h)
  have HKN := Lib.hid HGT.out.nl
  have HKB : Hid (kf.length ≤ 202 ∧ -201 ≤ e0 ∧ e0 ≤ 401) := Lib.hid (by have h1 := HGT.out.len; have h2 := HGT.out.low; have h3 := HGT.out.top; dsimp only at h1 h2 h3; rw [HL.out] at h1 h3; omega)
  have HK2 : Hid (summitN m (stepsN m) n (p, rs) = (e0, kf)) := Lib.hid (by rw [← HL.out]; exact HK.out)
  obtain ⟨q1, q2, q3⟩ := A.out.all
  go_wp2_with fail
  refine (l04Summit_any m m1 m8 p (by omega) a n cap HCP.out rs _ (HR.out.below B.out) HN.out (by omega) e0 kf HK2.out).mono ?_
  rintro e w2 ⟨a2, n2, c2, rfl, hc2, ho, gg⟩
  have hz2 : w1.heap.size ≤ w2.heap.size := gg.size
  have hn2 : n2 = kf.length := ho.len.symm
  have HN2 := Lib.hid hn2
  clear hn2
  clear q1 q2 q3
  have I := Lib.hid (ho.alloc (.cells #[.int .i64 m, .int .i64 e0, .slice a2 n2 c2] 28))
  replace A := Lib.hid ((A.out.below gg).alloc (.cells #[.int .i64 m, .int .i64 e0, .slice a2 n2 c2] 28))
  replace Z := Lib.hid ((Z.out.below gg).alloc (.cells #[.int .i64 m, .int .i64 e0, .slice a2 n2 c2] 28))
  replace B := Lib.hid ((below_go B.out gg (by omega)).alloc (by omega) (.cells #[.int .i64 m, .int .i64 e0, .slice a2 n2 c2] 28))
  clear ho gg
  have OB := Lib.hid (At3.place w2 (.int .i64 m) (.int .i64 e0) (.slice a2 n2 c2) 28 w2.heap.size rfl)
  have zq : Hid ((w2.alloc (.cells #[.int .i64 m, .int .i64 e0, .slice a2 n2 c2] 28)).heap.size = w2.heap.size + 1) := Lib.hid (by simp)
  obtain ⟨q1, q2, q3⟩ := A.out.all
  obtain ⟨r1, r2, r3⟩ := OB.out.all
  go_wp2_with fail
  refine (l03Make_any m m1 m8 e0 (by have := HKB.out; omega) a2 n2 c2 kf _ I.out HKN.out.sims (by have := HKB.out; have := HN2.out; omega) e0 kf (mkN_id _ HKN.out)).mono ?_
  rintro e w3 ⟨a4, n4, c4, rfl, ho, gg⟩
  have hz3 : w2.heap.size + 1 ≤ w3.heap.size := by rw [← zq.out]; exact gg.size
  replace Z := Lib.hid (Z.out.below gg)
  replace B := Lib.hid (below_go B.out gg B.out.size)
  have O4 := Lib.hid ho.toS
  clear ho gg q1 q2 q3 r1 r2 r3
  go_wp2_with fail
  refine (l03Fit_own m e0 a4 n4 c4 kf _ O4.out _ _ _ _ HM.out).mono ?_
  rintro e w4 ⟨a3, n3, c3, rfl, ho, h3, _, gg⟩
  have hz4 : w3.heap.size ≤ w4.heap.size := gg.size
  replace Z := Lib.hid (Z.out.below gg)
  replace B := Lib.hid (below_go B.out gg (by omega))
  have O3 := Lib.hid (ho.mono (B' := w2.heap.size) (by rw [zq.out]; omega))
  clear ho gg
  obtain ⟨x0, ⟨x1, x2, x3⟩, y1, y2, y3⟩ := Z.out
  go_wp2
  try rw [Exit.noGoto_ret]
  obtain ⟨_, ⟨e1', e2', e3'⟩, _⟩ := ((Z.out.fill (.int .i64 fs) (.int .i64 fp) (.slice a3 n3 c3)).alloc (.cells #[.int .i64 fs, .int .i64 fp, .slice a3 n3 c3] 28))
  exact bodyPost_ret (v := .tuple #[.agg #[.int .i64 fs, .int .i64 fp, .slice a3 n3 c3], .int .i64 fc]) (by simp [results, Try.results7, go_sem, e1', e2', e3']) rfl ⟨_, _, _, rfl, by omega, ((((O3.out).set3 (by omega) _ _ _).alloc (.cells #[.int .i64 fs, .int .i64 fp, .slice a3 n3 c3] 28)).mono (by omega)), ((below_set3 B.out (by omega) _ _ _).alloc (by simp [World.setCell]; omega) (.cells #[.int .i64 fs, .int .i64 fp, .slice a3 n3 c3] 28))⟩
 | false =>
  rw [hB, if_neg (by simp)] at hM
  simp only [Prod.mk.injEq] at hM
  obtain ⟨rfl, rfl, rfl, rfl⟩ := hM
  go_enter Try.func7, Try.ntmps7
  have A := Lib.hid ((At3.place w (.int .i64 s) (.int .i64 p) (.slice a n cap) 28 w.heap.size rfl).alloc (.cells #[.int .i64 0, .int .i64 0, .slice none 0 0] 28))
  have Z := Lib.hid (At3.place (w.alloc (.cells #[.int .i64 s, .int .i64 p, .slice a n cap] 28)) (.int .i64 0) (.int .i64 0) (.slice none 0 0) 28 (w.heap.size + 1) (by simp))
  have B := Lib.hid ((below1 w (.cells #[.int .i64 s, .int .i64 p, .slice a n cap] 28)).alloc (by simp) (.cells #[.int .i64 0, .int .i64 0, .slice none 0 0] 28))
  go_wp2_with fail
  refine (l03Is_any s p a n cap rs _ ((HR.out.alloc _).alloc _) HY.out hn).mono ?_
  rw [hB]
  rintro e w1 ⟨rfl, hb⟩
  have hz1 : w.heap.size + 1 + 1 ≤ w1.heap.size := by have := hb.size; simp at this; omega
  replace A := Lib.hid (A.out.below hb)
  replace Z := Lib.hid (Z.out.below hb)
  replace B := Lib.hid (below_go B.out hb (by simp; omega))
  clear hb
  obtain ⟨x0, ⟨x1, x2, x3⟩, y1, y2, y3⟩ := Z.out
  go_wp2
  try rw [Exit.noGoto_ret]
  obtain ⟨_, ⟨e1, e2, e3⟩, _⟩ := Z.out.fill (.int .i64 0) (.int .i64 0) (.slice none 0 0)
  exact bodyPost_ret (v := .tuple #[.agg #[.int .i64 0, .int .i64 0, .slice none 0 0], .int .i64 1]) (by simp [results, Try.results7, go_sem, e1, e2, e3]) rfl ⟨none, 0, 0, rfl, by omega, OwnS.nil _ _ _, below_set3 B.out (by omega) _ _ _⟩

set_option maxRecDepth 100000 in
set_option maxHeartbeats 2000000 in
theorem implSummit_any (s p : Int) (a : Option Addr) (n cap : Nat) (rs : List (List Int)) (w : World) (hr : ReadsA w a n rs) (_hy : BytesA rs) (hn : n ≤ 1048576) (hcap : n ≤ cap) (fs fp : Int) (frs : List (List Int)) (fc : Int) (hM : mSum s p rs = (fs, fp, frs, fc)) :
  Calls Try.prog 9 #[.agg #[.int .i64 s, .int .i64 p, .slice a n cap]] w (RetNCS w fs fp frs fc) := by
 have HL := Lib.hid hr.len
 have HR := Lib.hid hr; clear hr
 have HCP := Lib.hid hcap; clear hcap
 unfold mSum at hM
 cases hB : normB s p rs with
 | true =>
  rw [hB, if_pos rfl] at hM
  obtain ⟨m, rfl, m1, m8, hnl, hp, hlen⟩ := norm_nl HR.out.rows hB
  have HN := Lib.hid hnl; clear hnl
  rw [Int.toNat_natCast] at hM
  rw [HL.out] at hlen
  obtain ⟨e0, kf, hk⟩ : ∃ e0 kf, summitN m (stepsN m) rs.length (p, rs) = (e0, kf) := ⟨_, _, rfl⟩
  rw [hk] at hM
  have HK := Lib.hid hk; clear hk
  have HM := Lib.hid hM; clear hM
  go_enter Try.func9, Try.ntmps9
  have A := Lib.hid ((At3.place w (.int .i64 m) (.int .i64 p) (.slice a n cap) 28 w.heap.size rfl).alloc (.cells #[.int .i64 0, .int .i64 0, .slice none 0 0] 28))
  have Z := Lib.hid (At3.place (w.alloc (.cells #[.int .i64 m, .int .i64 p, .slice a n cap] 28)) (.int .i64 0) (.int .i64 0) (.slice none 0 0) 28 (w.heap.size + 1) (by simp))
  have B := Lib.hid ((below1 w (.cells #[.int .i64 m, .int .i64 p, .slice a n cap] 28)).alloc (by simp) (.cells #[.int .i64 0, .int .i64 0, .slice none 0 0] 28))
  go_wp2_with fail
  refine (implIsNormal_any m p a n cap rs _ ((HR.out.alloc _).alloc _) hn).mono ?_
  rw [hB]
  rintro e w1 ⟨rfl, hb⟩
  have hz1 : w.heap.size + 1 + 1 ≤ w1.heap.size := by have := hb.size; simp at this; omega
  replace A := Lib.hid (A.out.below hb)
  replace Z := Lib.hid (Z.out.below hb)
  replace B := Lib.hid (below_go B.out hb (by simp; omega))
  clear hb
  have HK2 : Hid (summitN m (stepsN m) n (p, rs) = (e0, kf)) := Lib.hid (by rw [← HL.out]; exact HK.out)
  obtain ⟨q1, q2, q3⟩ := A.out.all
  go_wp2_with fail
  refine (summit_any m m1 m8 p (by omega) a n cap rs _ (HR.out.below B.out) HN.out (by omega) e0 kf HK2.out).mono ?_
  rintro e w2 ⟨a2, n2, c2, rfl, hc2, ho, gg⟩
  have hz2 : w1.heap.size ≤ w2.heap.size := gg.size
  replace Z := Lib.hid (Z.out.below gg)
  replace B := Lib.hid (below_go B.out gg (by omega))
  have O2 : Hid (OwnS w1.heap.size w2 a2 n2 kf) := Lib.hid (ho)
  clear ho gg q1 q2 q3
  go_wp2_with fail
  refine (limited_own m e0 a2 n2 c2 kf _ O2.out _ _ _ _ HM.out).mono ?_
  rintro e w3 ⟨a3, n3, c3, rfl, ho, h3, _, gg⟩
  have hz3 : w2.heap.size ≤ w3.heap.size := gg.size
  replace Z := Lib.hid (Z.out.below gg)
  replace B := Lib.hid (below_go B.out gg (by omega))
  have O3 := Lib.hid ho
  clear ho gg
  obtain ⟨x0, ⟨x1, x2, x3⟩, y1, y2, y3⟩ := Z.out
  go_wp2
  try rw [Exit.noGoto_ret]
  obtain ⟨_, ⟨e1', e2', e3'⟩, _⟩ := ((Z.out.fill (.int .i64 fs) (.int .i64 fp) (.slice a3 n3 c3)))
  exact bodyPost_ret (v := .tuple #[.agg #[.int .i64 fs, .int .i64 fp, .slice a3 n3 c3], .int .i64 fc]) (by simp [results, Try.results9, go_sem, e1', e2', e3']) rfl ⟨_, _, _, rfl, by omega, ((((O3.out).set3 (by omega) _ _ _)).mono (by omega)), (below_set3 B.out (by omega) _ _ _)⟩
 | false =>
  rw [hB, if_neg (by simp)] at hM
  simp only [Prod.mk.injEq] at hM
  obtain ⟨rfl, rfl, rfl, rfl⟩ := hM
  go_enter Try.func9, Try.ntmps9
  have A := Lib.hid ((At3.place w (.int .i64 s) (.int .i64 p) (.slice a n cap) 28 w.heap.size rfl).alloc (.cells #[.int .i64 0, .int .i64 0, .slice none 0 0] 28))
  have Z := Lib.hid (At3.place (w.alloc (.cells #[.int .i64 s, .int .i64 p, .slice a n cap] 28)) (.int .i64 0) (.int .i64 0) (.slice none 0 0) 28 (w.heap.size + 1) (by simp))
  have B := Lib.hid ((below1 w (.cells #[.int .i64 s, .int .i64 p, .slice a n cap] 28)).alloc (by simp) (.cells #[.int .i64 0, .int .i64 0, .slice none 0 0] 28))
  go_wp2_with fail
  refine (implIsNormal_any s p a n cap rs _ ((HR.out.alloc _).alloc _) hn).mono ?_
  rw [hB]
  rintro e w1 ⟨rfl, hb⟩
  have hz1 : w.heap.size + 1 + 1 ≤ w1.heap.size := by have := hb.size; simp at this; omega
  replace A := Lib.hid (A.out.below hb)
  replace Z := Lib.hid (Z.out.below hb)
  replace B := Lib.hid (below_go B.out hb (by simp; omega))
  clear hb
  obtain ⟨x0, ⟨x1, x2, x3⟩, y1, y2, y3⟩ := Z.out
  go_wp2
  try rw [Exit.noGoto_ret]
  obtain ⟨_, ⟨e1, e2, e3⟩, _⟩ := Z.out.fill (.int .i64 0) (.int .i64 0) (.slice none 0 0)
  exact bodyPost_ret (v := .tuple #[.agg #[.int .i64 0, .int .i64 0, .slice none 0 0], .int .i64 1]) (by simp [results, Try.results9, go_sem, e1, e2, e3]) rfl ⟨none, 0, 0, rfl, by omega, OwnS.nil _ _ _, below_set3 B.out (by omega) _ _ _⟩

end Go.Proofs.Ytpkhddndapcpjaa

