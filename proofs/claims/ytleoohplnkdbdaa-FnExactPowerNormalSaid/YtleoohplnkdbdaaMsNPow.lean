/- Powers of normal forms: the model and the program. -/
import Derived.Test.YtleoohplnkdbdaaMsPowP
import Derived.Test.YtleoohplnkdbdaaMsNConj
namespace Go.Proofs.Ytleoohplnkdbdaa
open Go.RowKit Go.ChangeShapes

/-- What is multiplied. -/
def ownP (m : Nat) (p : Int) (rs : List (List Int)) (k : Int) : Int × List (List Int) := if k < 0 then (-(rs.length : Int) - p, turns m p (invL m rs)) else (p, rs)

/-- The power of a normal form, or the code. -/
def mPow (s p : Int) (rs : List (List Int)) (k : Int) : Int × Int × List (List Int) × Int :=
 if normB s p rs = true then (if -50 ≤ k ∧ k ≤ 50 then (match powL s.toNat (ownP s.toNat p rs k).1 (ownP s.toNat p rs k).2 k.natAbs with | some r => (s, r.1, r.2, 0) | none => (0, 0, [], 3)) else (0, 0, [], 2)) else (0, 0, [], 1)

/-- The power as it grows. -/
structure AtP2 (W0 wx : World) (m gp : Nat) (e : Int) (ak : Option Addr) (nk ck : Nat) (lk : List (List Int)) : Prop where
 pr : At3 wx gp (.int .i64 m) (.int .i64 e) (.slice ak nk ck)
 own : OwnS W0.heap.size wx ak nk lk
 kb : Below W0.heap.size W0 wx
 lo : W0.heap.size ≤ gp

theorem AtP2.below {W0 wx W : World} {m gp : Nat} {e : Int} {ak : Option Addr} {nk ck : Nat} {lk : List (List Int)} (h : AtP2 W0 wx m gp e ak nk ck lk) (k : Below wx.heap.size wx W) : AtP2 W0 W m gp e ak nk ck lk :=
 ⟨h.pr.below k, h.own.below k, h.kb.trans (k.mono h.kb.size), h.lo⟩

theorem AtP2.next {W0 wx : World} {m gp : Nat} {e : Int} {ak : Option Addr} {nk ck : Nat} {lk : List (List Int)} (h : AtP2 W0 wx m gp e ak nk ck lk) (e2 : Int) {a2 : Option Addr} {n2 : Nat} (c2 : Nat) {l2 : List (List Int)} (ho : OwnS W0.heap.size wx a2 n2 l2) (ha : n2 = 0 ∨ ∀ x, a2 = some x → x.block ≠ gp) :
  AtP2 W0 (((wx.setCell ⟨gp, 0, none⟩ (.int .i64 m)).setCell ⟨gp, 1, none⟩ (.int .i64 e2)).setCell ⟨gp, 2, none⟩ (.slice a2 n2 c2)) m gp e2 a2 n2 c2 l2 :=
 ⟨h.pr.fill _ _ _, ho.past3 ha _ _ _, below_set3 h.kb h.lo _ _ _, h.lo⟩

set_option maxRecDepth 100000 in
set_option maxHeartbeats 2000000 in
theorem specPower_any (s p : Int) (a : Option Addr) (n cap : Nat) (rs : List (List Int)) (k : Int) (w : World) (hr : ReadsA w a n rs) (hy : BytesA rs) (hn : n ≤ 1048576) (_hk : (Lit.int .i64 k).wf = true) (fs fp : Int) (frs : List (List Int)) (fc : Int) (hM : mPow s p rs k = (fs, fp, frs, fc)) :
  Calls Try.prog 18 #[.agg #[.int .i64 s, .int .i64 p, .slice a n cap], .int .i64 k] w (RetNCS w fs fp frs fc) := by
 obtain ⟨i0, hi, hz0, hz1', hz2⟩ := info_parts infoSimple
 have HL := Lib.hid hr.len
 have HR := Lib.hid hr; clear hr
 have HY := Lib.hid hy; clear hy
 unfold mPow at hM
 cases hB : normB s p rs with
 | true =>
  rw [hB, if_pos rfl] at hM
  obtain ⟨m, rfl, m1, m8, hnl, hp, hlen⟩ := norm_nl HR.out.rows hB
  have HN := Lib.hid hnl; clear hnl
  rw [Int.toNat_natCast] at hM
  rw [HL.out] at hlen
  by_cases hr50 : -50 ≤ k ∧ k ≤ 50
  ·rw [if_pos hr50] at hM
   obtain ⟨pe, le, hpe⟩ : ∃ pe le, ownP m p rs k = (pe, le) := ⟨_, _, rfl⟩
   rw [hpe] at hM
   have HPE := Lib.hid hpe; clear hpe
   have HM := Lib.hid hM; clear hM
   go_enter Try.func18, Try.ntmps18
   have A := Lib.hid ((At3.place w (.int .i64 m) (.int .i64 p) (.slice a n cap) 28 w.heap.size rfl).alloc (.cells #[.int .i64 0, .int .i64 0, .slice none 0 0] 28))
   have Z := Lib.hid (At3.place (w.alloc (.cells #[.int .i64 m, .int .i64 p, .slice a n cap] 28)) (.int .i64 0) (.int .i64 0) (.slice none 0 0) 28 (w.heap.size + 1) (by simp))
   have B := Lib.hid ((below1 w (.cells #[.int .i64 m, .int .i64 p, .slice a n cap] 28)).alloc (by simp) (.cells #[.int .i64 0, .int .i64 0, .slice none 0 0] 28))
   go_wp2_with fail
   refine (l03Is_any m p a n cap rs _ ((HR.out.alloc _).alloc _) HY.out hn).mono ?_
   rw [hB]
   rintro e w1 ⟨rfl, hb⟩
   have hz1 : w.heap.size + 1 + 1 ≤ w1.heap.size := by have := hb.size; simp at this; omega
   replace A := Lib.hid (A.out.below hb)
   replace Z := Lib.hid (Z.out.below hb)
   replace B := Lib.hid (below_go B.out hb (by simp; omega))
   clear hb
   have hin : inB k (-50) 50 = true := (inB_iff _ _ _).2 hr50
   go_wp2_with fail
   refine (l01In_any k (-50) 50 _).mono ?_
   rw [hin]
   rintro e w1' ⟨rfl, rfl⟩
   obtain ⟨q1, q2, q3⟩ := A.out.all
   have AO := Lib.hid (At3.place w1 (.int .i64 m) (.int .i64 p) (.slice a n cap) 28 w1.heap.size rfl)
   replace A := Lib.hid (A.out.alloc (.cells #[.int .i64 m, .int .i64 p, .slice a n cap] 28))
   replace Z := Lib.hid (Z.out.alloc (.cells #[.int .i64 m, .int .i64 p, .slice a n cap] 28))
   have R0 := Lib.hid ((HR.out.below B.out).alloc (.cells #[.int .i64 m, .int .i64 p, .slice a n cap] 28))
   replace B := Lib.hid (B.out.alloc B.out.size (.cells #[.int .i64 m, .int .i64 p, .slice a n cap] 28))
   have zs : Hid ((w1.alloc (.cells #[.int .i64 m, .int .i64 p, .slice a n cap] 28)).heap.size = w1.heap.size + 1) := Lib.hid (by simp)
   obtain ⟨p1, p2, p3⟩ := A.out.all
   obtain ⟨K, hKK⟩ : ∃ K : Nat, k.natAbs = K := ⟨_, rfl⟩
   have HK := Lib.hid hKK; clear hKK
   by_cases hk : k < 0
   ·have hwk : IntKind.i64.wrap (-k) = (K : Int) := by rw [show -k = (K : Int) by have := HK.out; omega]; exact IntWalk.i64_in _ (by have := HK.out; omega)
    go_wp2_with fail
    refine (l03Inverse_any m m1 m8 p (by omega) a n cap rs _ R0.out HN.out (by omega)).mono ?_
    rintro e w2 ⟨b2, n2, c2, rfl, ho, gg⟩
    have hz2 : w1.heap.size + 1 ≤ w2.heap.size := by rw [← zs.out]; exact gg.size
    have hn2 : n2 = n := by have h := ho.len; rw [turns_len, invL_len, HL.out] at h; exact h.symm
    subst hn2
    have hpe : pe = -(n2 : Int) - p ∧ le = turns m p (invL m rs) := by have h := HPE.out; unfold ownP at h; rw [if_pos hk, HL.out] at h; simp only [Prod.mk.injEq] at h; exact ⟨h.1.symm, h.2.symm⟩
    obtain ⟨rfl, rfl⟩ := hpe
    have hap := ho.toS.apart (g := w1.heap.size) (by rw [zs.out]; omega)
    have R1 := Lib.hid ((ho.toS.past3 hap (.int .i64 m) (.int .i64 (-(n2 : Int) - p)) (.slice b2 n2 c2)).reads)
    have A1 := Lib.hid ((A.out.below gg).set3 (g2 := w1.heap.size) (by omega) (.int .i64 m) (.int .i64 (-(n2 : Int) - p)) (.slice b2 n2 c2))
    have Z1 := Lib.hid ((Z.out.below gg).set3 (g2 := w1.heap.size) (by omega) (.int .i64 m) (.int .i64 (-(n2 : Int) - p)) (.slice b2 n2 c2))
    have O1 := Lib.hid ((AO.out.below gg).fill (.int .i64 m) (.int .i64 (-(n2 : Int) - p)) (.slice b2 n2 c2))
    have B1 := Lib.hid (below_set3 (below_go B.out gg B.out.size) (g2 := w1.heap.size) (by omega) (.int .i64 m) (.int .i64 (-(n2 : Int) - p)) (.slice b2 n2 c2))
    have NL := Lib.hid ((invL_nl HN.out).turns p)
    have AP := Lib.hid (AO.out.below gg)
    clear ho p1 p2 p3 q1 q2 q3
    have G1 : Hid (w1.heap.size < (((w2.setCell ⟨w1.heap.size, 0, none⟩ (.int .i64 m)).setCell ⟨w1.heap.size, 1, none⟩ (.int .i64 (-(n2 : Int) - p))).setCell ⟨w1.heap.size, 2, none⟩ (.slice b2 n2 c2)).heap.size) := Lib.hid (by simp [World.setCell]; omega)
    obtain ⟨x0, ⟨x1, x2, x3⟩, y1, y2, y3⟩ := AP.out
    go_upto_region 9 with fail
    obtain ⟨W0, hW⟩ : ∃ V, V = (((w2.setCell ⟨w1.heap.size, 0, none⟩ (.int .i64 m)).setCell ⟨w1.heap.size, 1, none⟩ (.int .i64 (-(n2 : Int) - p))).setCell ⟨w1.heap.size, 2, none⟩ (.slice b2 n2 c2)) := ⟨_, rfl⟩
    rw [← hW] at R1 A1 Z1 O1 B1 G1 ⊢
    clear hW x0 x1 x2 x3 y1 y2 y3 AP gg A Z B R0 AO zs HPE
    have HM2 : Hid ((match powL m (-(n2 : Int) - p) (turns m p (invL m rs)) K with | some r => ((m : Int), r.1, r.2, (0 : Int)) | none => (0, 0, [], 3)) = (fs, fp, frs, fc)) := Lib.hid (by have h := HM.out; rw [HK.out] at h; exact h)
    have hbz : w.heap.size + 1 + 1 ≤ w1.heap.size := hz1
    have hbw := G1.out
    obtain ⟨gp, hgp⟩ : ∃ gp, gp = W0.heap.size + 1 := ⟨_, rfl⟩
    have G : Hid (AtP2 W0 ((W0.alloc (.cells #[] 77)).alloc (.cells #[.int .i64 m, .int .i64 0, .slice (some ⟨W0.heap.size, 0, none⟩) 0 0] 28)) m gp 0 (some ⟨W0.heap.size, 0, none⟩) 0 0 []) := Lib.hid ⟨At3.place (W0.alloc (.cells #[] 77)) _ _ _ _ gp (by rw [hgp]; simp), OwnS.nil _ _ _, (below1 W0 _).alloc (by simp) _, by omega⟩
    obtain ⟨q1, q2, q3⟩ := A1.out.all
    have HK50 : K ≤ 50 := by have := HK.out; omega
    go_wp2
    rw [← hgp]
    clear q1 q2 q3 hgp A1
    go_loopg [1] K (fun g v wx => ∃ j e2 ak nk ck lk, j ≤ K ∧ g + j = K ∧ v = .int .i64 (g : Nat) ∧ AtP2 W0 wx m gp e2 ak nk ck lk ∧ powL m (-(n2 : Int) - p) (turns m p (invL m rs)) j = some (e2, lk))
    case atStart => exact ⟨0, _, _, _, _, _, Nat.zero_le _, by omega, rfl, G.out, rfl⟩
    case round =>
     obtain ⟨j, e2, ak, nk, ck, lk, hj, hgj, rfl, hG, hpw⟩ := hrel
     clear G
     have G := Lib.hid hG
     have HPW := Lib.hid hpw
     have HOK := Lib.hid (powL_ok NL.out j hpw)
     clear hG hpw
     have hok := HOK.out.2
     have hnk := G.out.own.len
     obtain ⟨r1, r2, r3⟩ := G.out.pr.all
     by_cases hlt : j < K
     ·have hg0 : (0 : Int) < (gk : Int) := by omega
      have OW := Lib.hid (O1.out.below G.out.kb)
      obtain ⟨o1, o2, o3⟩ := OW.out.all
      obtain ⟨e3, l3, h3⟩ : ∃ e3 l3, mkN m (e2 + (-(n2 : Int) - p)) (turns m (-(n2 : Int) - p) lk ++ (turns m p (invL m rs))) = (e3, l3) := ⟨_, _, rfl⟩
      have HNX := Lib.hid (powL_next HPW.out h3)
      have H3 := Lib.hid h3
      clear h3
      go_wp2_with fail
      refine (l03Product_any m m1 m8 e2 (-(n2 : Int) - p) (by omega) (by omega) ak b2 nk ck n2 c2 lk (turns m p (invL m rs)) wr G.out.own.reads (R1.out.below G.out.kb) HOK.out.1.sims NL.out.sims (by omega) (by omega) e3 l3 H3.out).mono ?_
      rintro e w5 ⟨a5, n5, c5, rfl, ho, gg⟩
      have hgl : gp < wr.heap.size := G.out.pr.1
      have hkz : W0.heap.size ≤ wr.heap.size := G.out.kb.size
      have hz5 : wr.heap.size ≤ w5.heap.size := gg.size
      replace G := Lib.hid (G.out.below gg)
      have O5 : Hid (OwnS wr.heap.size w5 a5 n5 l3) := Lib.hid (ho.toS)
      clear ho gg r1 r2 r3 o1 o2 o3 OW
      by_cases hc : -200 ≤ e3 ∧ e3 ≤ 200 ∧ l3.length ≤ 200
      ·have hP := HNX.out
       rw [if_pos hc] at hP
       have HP := Lib.hid hP; clear hP HNX
       have hfit : fitN (m : Int) e3 l3 = ((m : Int), e3, l3, 0) := if_pos hc
       go_wp2_with fail
       refine (l03Fit_own (m : Int) e3 a5 n5 c5 l3 _ O5.out _ _ _ _ hfit).mono ?_
       rintro e w6 ⟨a6, n6, c6, rfl, ho, h6, _, gg⟩
       clear hfit
       have hz6 : w5.heap.size ≤ w6.heap.size := gg.size
       replace G := Lib.hid (G.out.below gg)
       have O6 := Lib.hid ho
       clear ho gg
       have HP3 := Lib.hid (At3.place w6 (.int .i64 m) (.int .i64 e3) (.slice a6 n6 c6) 28 w6.heap.size rfl)
       replace G := Lib.hid (G.out.below ((Below.refl w6.heap.size w6).alloc (Nat.le_refl _) (.cells #[.int .i64 m, .int .i64 e3, .slice a6 n6 c6] 28)))
       replace O6 := Lib.hid (O6.out.alloc (.cells #[.int .i64 m, .int .i64 e3, .slice a6 n6 c6] 28))
       have G2 := Lib.hid (G.out.next e3 c6 (O6.out.mono (by omega)) (O6.out.apart hgl))
       obtain ⟨t1, t2, t3⟩ := HP3.out.all
       obtain ⟨x0, ⟨x1, x2, x3⟩, y1, y2, y3⟩ := G.out.pr
       go_wp2
       go_roundg (gk - 1)
       case measure => omega
       case rel => exact ⟨j + 1, e3, a6, n6, c6, l3, by omega, by omega, by go_num, G2.out, HP.out⟩
      ·have hP := HNX.out
       rw [if_neg hc] at hP
       have h4 := HM2.out
       rw [powL_none hP K (by omega)] at h4
       simp only [Prod.mk.injEq] at h4
       obtain ⟨rfl, rfl, rfl, rfl⟩ := h4
       clear hP HNX
       have hfit : fitN (m : Int) e3 l3 = (0, 0, [], 3) := if_neg hc
       go_wp2_with fail
       refine (l03Fit_own (m : Int) e3 a5 n5 c5 l3 _ O5.out _ _ _ _ hfit).mono ?_
       rintro e w6 ⟨a6, n6, c6, rfl, ho, h6, _, gg⟩
       clear hfit
       have hz6 : w5.heap.size ≤ w6.heap.size := gg.size
       replace G := Lib.hid (G.out.below gg)
       clear ho gg
       have Z := Lib.hid (Z1.out.below G.out.kb)
       have B := Lib.hid (below_go B1.out G.out.kb B1.out.size)
       replace Z := Lib.hid (Z.out.alloc (.cells #[.int .i64 0, .int .i64 0, .slice a6 n6 c6] 28))
       replace B := Lib.hid (B.out.alloc B.out.size (.cells #[.int .i64 0, .int .i64 0, .slice a6 n6 c6] 28))
       obtain ⟨x0, ⟨x1, x2, x3⟩, y1, y2, y3⟩ := Z.out
       go_wp2
       try rw [Exit.noGoto_ret]
       obtain ⟨_, ⟨e1, e2, e3⟩, _⟩ := Z.out.fill (.int .i64 0) (.int .i64 0) (.slice none 0 0)
       exact bodyPost_ret (v := .tuple #[.agg #[.int .i64 0, .int .i64 0, .slice none 0 0], .int .i64 3]) (by simp [results, Try.results18, go_sem, e1, e2, e3]) rfl ⟨none, 0, 0, rfl, by omega, OwnS.nil _ _ _, below_set3 B.out (by omega) _ _ _⟩
     ·have hjK : j = K := by omega
      have h4 := HM2.out
      rw [← hjK, HPW.out] at h4
      simp only [Prod.mk.injEq] at h4
      obtain ⟨rfl, rfl, rfl, rfl⟩ := h4
      have hg0 : ¬ (0 : Int) < (gk : Int) := by omega
      have hjK2 := Lib.hid hjK; clear hjK
      have Z := Lib.hid (Z1.out.below G.out.kb)
      have B := Lib.hid (below_go B1.out G.out.kb B1.out.size)
      obtain ⟨x0, ⟨x1, x2, x3⟩, y1, y2, y3⟩ := Z.out
      go_wp2
      try rw [Exit.noGoto_ret]
      obtain ⟨_, ⟨z1, z2, z3⟩, _⟩ := Z.out.fill (.int .i64 m) (.int .i64 e2) (.slice ak nk ck)
      exact bodyPost_ret (v := .tuple #[.agg #[.int .i64 m, .int .i64 e2, .slice ak nk ck], .int .i64 0]) (by simp [results, Try.results18, go_sem, z1, z2, z3]) rfl ⟨ak, nk, ck, rfl, by omega, ((G.out.own.set3 (g2 := w.heap.size + 1) (by omega) _ _ _).mono (by omega)), below_set3 B.out (by omega) _ _ _⟩
   ·have hwk : k = (K : Int) := by have := HK.out; omega
    subst hwk
    have hpe : pe = p ∧ le = rs := by have h := HPE.out; unfold ownP at h; rw [if_neg hk] at h; simp only [Prod.mk.injEq] at h; exact ⟨h.1.symm, h.2.symm⟩
    obtain ⟨rfl, rfl⟩ := hpe
    go_upto_region 9 with fail
    have G1 : Hid (w1.heap.size < (w1.alloc (.cells #[.int .i64 m, .int .i64 pe, .slice a n cap] 28)).heap.size) := Lib.hid (by simp)
    obtain ⟨W0, hW⟩ : ∃ V, V = w1.alloc (.cells #[.int .i64 m, .int .i64 pe, .slice a n cap] 28) := ⟨_, rfl⟩
    rw [← hW] at R0 A Z AO B G1 ⊢
    have R1 := R0
    have A1 := A
    have Z1 := Z
    have O1 := AO
    have B1 := B
    have NL := HN
    clear hW p1 p2 p3 q1 q2 q3 A Z B R0 AO zs HPE
    have HM2 : Hid ((match powL m pe le K with | some r => ((m : Int), r.1, r.2, (0 : Int)) | none => (0, 0, [], 3)) = (fs, fp, frs, fc)) := Lib.hid (by have h := HM.out; rw [HK.out] at h; exact h)
    have hbz : w.heap.size + 1 + 1 ≤ w1.heap.size := hz1
    have hbw := G1.out
    obtain ⟨gp, hgp⟩ : ∃ gp, gp = W0.heap.size + 1 := ⟨_, rfl⟩
    have G : Hid (AtP2 W0 ((W0.alloc (.cells #[] 77)).alloc (.cells #[.int .i64 m, .int .i64 0, .slice (some ⟨W0.heap.size, 0, none⟩) 0 0] 28)) m gp 0 (some ⟨W0.heap.size, 0, none⟩) 0 0 []) := Lib.hid ⟨At3.place (W0.alloc (.cells #[] 77)) _ _ _ _ gp (by rw [hgp]; simp), OwnS.nil _ _ _, (below1 W0 _).alloc (by simp) _, by omega⟩
    obtain ⟨q1, q2, q3⟩ := A1.out.all
    have HK50 : K ≤ 50 := by have := HK.out; omega
    go_wp2
    rw [← hgp]
    clear q1 q2 q3 hgp A1
    go_loopg [1] K (fun g v wx => ∃ j e2 ak nk ck lk, j ≤ K ∧ g + j = K ∧ v = .int .i64 (g : Nat) ∧ AtP2 W0 wx m gp e2 ak nk ck lk ∧ powL m pe le j = some (e2, lk))
    case atStart => exact ⟨0, _, _, _, _, _, Nat.zero_le _, by omega, rfl, G.out, rfl⟩
    case round =>
     obtain ⟨j, e2, ak, nk, ck, lk, hj, hgj, rfl, hG, hpw⟩ := hrel
     clear G
     have G := Lib.hid hG
     have HPW := Lib.hid hpw
     have HOK := Lib.hid (powL_ok NL.out j hpw)
     clear hG hpw
     have hok := HOK.out.2
     have hnk := G.out.own.len
     obtain ⟨r1, r2, r3⟩ := G.out.pr.all
     by_cases hlt : j < K
     ·have hg0 : (0 : Int) < (gk : Int) := by omega
      have OW := Lib.hid (O1.out.below G.out.kb)
      obtain ⟨o1, o2, o3⟩ := OW.out.all
      obtain ⟨e3, l3, h3⟩ : ∃ e3 l3, mkN m (e2 + pe) (turns m pe lk ++ le) = (e3, l3) := ⟨_, _, rfl⟩
      have HNX := Lib.hid (powL_next HPW.out h3)
      have H3 := Lib.hid h3
      clear h3
      go_wp2_with fail
      refine (l03Product_any m m1 m8 e2 pe (by omega) (by omega) ak a nk ck n cap lk le wr G.out.own.reads (R1.out.below G.out.kb) HOK.out.1.sims NL.out.sims (by omega) (by omega) e3 l3 H3.out).mono ?_
      rintro e w5 ⟨a5, n5, c5, rfl, ho, gg⟩
      have hgl : gp < wr.heap.size := G.out.pr.1
      have hkz : W0.heap.size ≤ wr.heap.size := G.out.kb.size
      have hz5 : wr.heap.size ≤ w5.heap.size := gg.size
      replace G := Lib.hid (G.out.below gg)
      have O5 : Hid (OwnS wr.heap.size w5 a5 n5 l3) := Lib.hid (ho.toS)
      clear ho gg r1 r2 r3 o1 o2 o3 OW
      by_cases hc : -200 ≤ e3 ∧ e3 ≤ 200 ∧ l3.length ≤ 200
      ·have hP := HNX.out
       rw [if_pos hc] at hP
       have HP := Lib.hid hP; clear hP HNX
       have hfit : fitN (m : Int) e3 l3 = ((m : Int), e3, l3, 0) := if_pos hc
       go_wp2_with fail
       refine (l03Fit_own (m : Int) e3 a5 n5 c5 l3 _ O5.out _ _ _ _ hfit).mono ?_
       rintro e w6 ⟨a6, n6, c6, rfl, ho, h6, _, gg⟩
       clear hfit
       have hz6 : w5.heap.size ≤ w6.heap.size := gg.size
       replace G := Lib.hid (G.out.below gg)
       have O6 := Lib.hid ho
       clear ho gg
       have HP3 := Lib.hid (At3.place w6 (.int .i64 m) (.int .i64 e3) (.slice a6 n6 c6) 28 w6.heap.size rfl)
       replace G := Lib.hid (G.out.below ((Below.refl w6.heap.size w6).alloc (Nat.le_refl _) (.cells #[.int .i64 m, .int .i64 e3, .slice a6 n6 c6] 28)))
       replace O6 := Lib.hid (O6.out.alloc (.cells #[.int .i64 m, .int .i64 e3, .slice a6 n6 c6] 28))
       have G2 := Lib.hid (G.out.next e3 c6 (O6.out.mono (by omega)) (O6.out.apart hgl))
       obtain ⟨t1, t2, t3⟩ := HP3.out.all
       obtain ⟨x0, ⟨x1, x2, x3⟩, y1, y2, y3⟩ := G.out.pr
       go_wp2
       go_roundg (gk - 1)
       case measure => omega
       case rel => exact ⟨j + 1, e3, a6, n6, c6, l3, by omega, by omega, by go_num, G2.out, HP.out⟩
      ·have hP := HNX.out
       rw [if_neg hc] at hP
       have h4 := HM2.out
       rw [powL_none hP K (by omega)] at h4
       simp only [Prod.mk.injEq] at h4
       obtain ⟨rfl, rfl, rfl, rfl⟩ := h4
       clear hP HNX
       have hfit : fitN (m : Int) e3 l3 = (0, 0, [], 3) := if_neg hc
       go_wp2_with fail
       refine (l03Fit_own (m : Int) e3 a5 n5 c5 l3 _ O5.out _ _ _ _ hfit).mono ?_
       rintro e w6 ⟨a6, n6, c6, rfl, ho, h6, _, gg⟩
       clear hfit
       have hz6 : w5.heap.size ≤ w6.heap.size := gg.size
       replace G := Lib.hid (G.out.below gg)
       clear ho gg
       have Z := Lib.hid (Z1.out.below G.out.kb)
       have B := Lib.hid (below_go B1.out G.out.kb B1.out.size)
       replace Z := Lib.hid (Z.out.alloc (.cells #[.int .i64 0, .int .i64 0, .slice a6 n6 c6] 28))
       replace B := Lib.hid (B.out.alloc B.out.size (.cells #[.int .i64 0, .int .i64 0, .slice a6 n6 c6] 28))
       obtain ⟨x0, ⟨x1, x2, x3⟩, y1, y2, y3⟩ := Z.out
       go_wp2
       try rw [Exit.noGoto_ret]
       obtain ⟨_, ⟨e1, e2, e3⟩, _⟩ := Z.out.fill (.int .i64 0) (.int .i64 0) (.slice none 0 0)
       exact bodyPost_ret (v := .tuple #[.agg #[.int .i64 0, .int .i64 0, .slice none 0 0], .int .i64 3]) (by simp [results, Try.results18, go_sem, e1, e2, e3]) rfl ⟨none, 0, 0, rfl, by omega, OwnS.nil _ _ _, below_set3 B.out (by omega) _ _ _⟩
     ·have hjK : j = K := by omega
      have h4 := HM2.out
      rw [← hjK, HPW.out] at h4
      simp only [Prod.mk.injEq] at h4
      obtain ⟨rfl, rfl, rfl, rfl⟩ := h4
      have hg0 : ¬ (0 : Int) < (gk : Int) := by omega
      have hjK2 := Lib.hid hjK; clear hjK
      have Z := Lib.hid (Z1.out.below G.out.kb)
      have B := Lib.hid (below_go B1.out G.out.kb B1.out.size)
      obtain ⟨x0, ⟨x1, x2, x3⟩, y1, y2, y3⟩ := Z.out
      go_wp2
      try rw [Exit.noGoto_ret]
      obtain ⟨_, ⟨z1, z2, z3⟩, _⟩ := Z.out.fill (.int .i64 m) (.int .i64 e2) (.slice ak nk ck)
      exact bodyPost_ret (v := .tuple #[.agg #[.int .i64 m, .int .i64 e2, .slice ak nk ck], .int .i64 0]) (by simp [results, Try.results18, go_sem, z1, z2, z3]) rfl ⟨ak, nk, ck, rfl, by omega, ((G.out.own.set3 (g2 := w.heap.size + 1) (by omega) _ _ _).mono (by omega)), below_set3 B.out (by omega) _ _ _⟩
  ·rw [if_neg hr50] at hM
   simp only [Prod.mk.injEq] at hM
   obtain ⟨rfl, rfl, rfl, rfl⟩ := hM
   go_enter Try.func18, Try.ntmps18
   have A := Lib.hid ((At3.place w (.int .i64 m) (.int .i64 p) (.slice a n cap) 28 w.heap.size rfl).alloc (.cells #[.int .i64 0, .int .i64 0, .slice none 0 0] 28))
   have Z := Lib.hid (At3.place (w.alloc (.cells #[.int .i64 m, .int .i64 p, .slice a n cap] 28)) (.int .i64 0) (.int .i64 0) (.slice none 0 0) 28 (w.heap.size + 1) (by simp))
   have B := Lib.hid ((below1 w (.cells #[.int .i64 m, .int .i64 p, .slice a n cap] 28)).alloc (by simp) (.cells #[.int .i64 0, .int .i64 0, .slice none 0 0] 28))
   go_wp2_with fail
   refine (l03Is_any m p a n cap rs _ ((HR.out.alloc _).alloc _) HY.out hn).mono ?_
   rw [hB]
   rintro e w1 ⟨rfl, hb⟩
   have hz1 : w.heap.size + 1 + 1 ≤ w1.heap.size := by have := hb.size; simp at this; omega
   replace A := Lib.hid (A.out.below hb)
   replace Z := Lib.hid (Z.out.below hb)
   replace B := Lib.hid (below_go B.out hb (by simp; omega))
   clear hb
   have hin : inB k (-50) 50 = false := by cases h : inB k (-50) 50; rfl; exact absurd ((inB_iff _ _ _).1 h) hr50
   go_wp2_with fail
   refine (l01In_any k (-50) 50 _).mono ?_
   rw [hin]
   rintro e w1' ⟨rfl, rfl⟩
   obtain ⟨x0, ⟨x1, x2, x3⟩, y1, y2, y3⟩ := Z.out
   go_wp2
   try rw [Exit.noGoto_ret]
   obtain ⟨_, ⟨e1, e2, e3⟩, _⟩ := Z.out.fill (.int .i64 0) (.int .i64 0) (.slice none 0 0)
   exact bodyPost_ret (v := .tuple #[.agg #[.int .i64 0, .int .i64 0, .slice none 0 0], .int .i64 2]) (by simp [results, Try.results18, go_sem, e1, e2, e3]) rfl ⟨none, 0, 0, rfl, by omega, OwnS.nil _ _ _, below_set3 B.out (by omega) _ _ _⟩
 | false =>
  rw [hB, if_neg (by simp)] at hM
  simp only [Prod.mk.injEq] at hM
  obtain ⟨rfl, rfl, rfl, rfl⟩ := hM
  go_enter Try.func18, Try.ntmps18
  have A := Lib.hid ((At3.place w (.int .i64 s) (.int .i64 p) (.slice a n cap) 28 w.heap.size rfl).alloc (.cells #[.int .i64 0, .int .i64 0, .slice none 0 0] 28))
  have Z := Lib.hid (At3.place (w.alloc (.cells #[.int .i64 s, .int .i64 p, .slice a n cap] 28)) (.int .i64 0) (.int .i64 0) (.slice none 0 0) 28 (w.heap.size + 1) (by simp))
  have B := Lib.hid ((below1 w (.cells #[.int .i64 s, .int .i64 p, .slice a n cap] 28)).alloc (by simp) (.cells #[.int .i64 0, .int .i64 0, .slice none 0 0] 28))
  go_wp2_with fail
  refine (l03Is_any s p a n cap rs _ ((HR.out.alloc _).alloc _) HY.out hn).mono ?_
  rw [hB]
  rintro e w1 ⟨rfl, hb⟩
  have hz1 : w.heap.size + 1 + 1 ≤ w1.heap.size := by have := hb.size; simp at this; omega
  replace A := Lib.hid (A.out.below hb)
  replace Z := Lib.hid (Z.out.below hb)
  replace B := Lib.hid (below_go B.out hb (by simp; omega))
  clear hb
  obtain ⟨x0, ⟨x1, x2, x3⟩, y1, y2, y3⟩ := Z.out
  go_wp2
  try rw [Exit.noGoto_ret]
  obtain ⟨_, ⟨e1, e2, e3⟩, _⟩ := Z.out.fill (.int .i64 0) (.int .i64 0) (.slice none 0 0)
  exact bodyPost_ret (v := .tuple #[.agg #[.int .i64 0, .int .i64 0, .slice none 0 0], .int .i64 1]) (by simp [results, Try.results18, go_sem, e1, e2, e3]) rfl ⟨none, 0, 0, rfl, by omega, OwnS.nil _ _ _, below_set3 B.out (by omega) _ _ _⟩

set_option maxRecDepth 100000 in
set_option maxHeartbeats 2000000 in
theorem implPower_any (s p : Int) (a : Option Addr) (n cap : Nat) (rs : List (List Int)) (k : Int) (w : World) (hr : ReadsA w a n rs) (hy : BytesA rs) (hn : n ≤ 1048576) (_hk : (Lit.int .i64 k).wf = true) (fs fp : Int) (frs : List (List Int)) (fc : Int) (hM : mPow s p rs k = (fs, fp, frs, fc)) :
  Calls Try.prog 19 #[.agg #[.int .i64 s, .int .i64 p, .slice a n cap], .int .i64 k] w (RetNCS w fs fp frs fc) := by
 obtain ⟨i0, hi, hz0, hz1', hz2⟩ := info_parts infoSimple
 have HL := Lib.hid hr.len
 have HR := Lib.hid hr; clear hr
 have HY := Lib.hid hy; clear hy
 unfold mPow at hM
 cases hB : normB s p rs with
 | true =>
  rw [hB, if_pos rfl] at hM
  obtain ⟨m, rfl, m1, m8, hnl, hp, hlen⟩ := norm_nl HR.out.rows hB
  have HN := Lib.hid hnl; clear hnl
  rw [Int.toNat_natCast] at hM
  rw [HL.out] at hlen
  by_cases hr50 : -50 ≤ k ∧ k ≤ 50
  ·rw [if_pos hr50] at hM
   obtain ⟨pe, le, hpe⟩ : ∃ pe le, ownP m p rs k = (pe, le) := ⟨_, _, rfl⟩
   rw [hpe] at hM
   have HPE := Lib.hid hpe; clear hpe
   have HM := Lib.hid hM; clear hM
   go_enter Try.func19, Try.ntmps19
   have A := Lib.hid ((At3.place w (.int .i64 m) (.int .i64 p) (.slice a n cap) 28 w.heap.size rfl).alloc (.cells #[.int .i64 0, .int .i64 0, .slice none 0 0] 28))
   have Z := Lib.hid (At3.place (w.alloc (.cells #[.int .i64 m, .int .i64 p, .slice a n cap] 28)) (.int .i64 0) (.int .i64 0) (.slice none 0 0) 28 (w.heap.size + 1) (by simp))
   have B := Lib.hid ((below1 w (.cells #[.int .i64 m, .int .i64 p, .slice a n cap] 28)).alloc (by simp) (.cells #[.int .i64 0, .int .i64 0, .slice none 0 0] 28))
   go_wp2_with fail
   refine (implIsNormal_any m p a n cap rs _ ((HR.out.alloc _).alloc _) hn).mono ?_
   rw [hB]
   rintro e w1 ⟨rfl, hb⟩
   have hz1 : w.heap.size + 1 + 1 ≤ w1.heap.size := by have := hb.size; simp at this; omega
   replace A := Lib.hid (A.out.below hb)
   replace Z := Lib.hid (Z.out.below hb)
   replace B := Lib.hid (below_go B.out hb (by simp; omega))
   clear hb
   have hin1 : ¬ k < -50 := by omega
   have hin2 : ¬ (50 : Int) < k := by omega
   obtain ⟨q1, q2, q3⟩ := A.out.all
   have AO := Lib.hid (At3.place w1 (.int .i64 m) (.int .i64 p) (.slice a n cap) 28 w1.heap.size rfl)
   replace A := Lib.hid (A.out.alloc (.cells #[.int .i64 m, .int .i64 p, .slice a n cap] 28))
   replace Z := Lib.hid (Z.out.alloc (.cells #[.int .i64 m, .int .i64 p, .slice a n cap] 28))
   have R0 := Lib.hid ((HR.out.below B.out).alloc (.cells #[.int .i64 m, .int .i64 p, .slice a n cap] 28))
   replace B := Lib.hid (B.out.alloc B.out.size (.cells #[.int .i64 m, .int .i64 p, .slice a n cap] 28))
   have zs : Hid ((w1.alloc (.cells #[.int .i64 m, .int .i64 p, .slice a n cap] 28)).heap.size = w1.heap.size + 1) := Lib.hid (by simp)
   obtain ⟨p1, p2, p3⟩ := A.out.all
   obtain ⟨K, hKK⟩ : ∃ K : Nat, k.natAbs = K := ⟨_, rfl⟩
   have HK := Lib.hid hKK; clear hKK
   by_cases hk : k < 0
   ·have hwk : IntKind.i64.wrap (-k) = (K : Int) := by rw [show -k = (K : Int) by have := HK.out; omega]; exact IntWalk.i64_in _ (by have := HK.out; omega)
    go_wp2_with fail
    refine (inverse_any m p (by omega) a n cap rs _ R0.out HN.out.sims (by omega)).mono ?_
    rintro e w2 ⟨b2, n2, c2, rfl, ho, gg⟩
    have hz2 : w1.heap.size + 1 ≤ w2.heap.size := by rw [← zs.out]; exact gg.size
    have hn2 : n2 = n := by have h := ho.len; rw [turns_len, invL_len, HL.out] at h; exact h.symm
    subst hn2
    have hpe : pe = -(n2 : Int) - p ∧ le = turns m p (invL m rs) := by have h := HPE.out; unfold ownP at h; rw [if_pos hk, HL.out] at h; simp only [Prod.mk.injEq] at h; exact ⟨h.1.symm, h.2.symm⟩
    obtain ⟨rfl, rfl⟩ := hpe
    have hap := ho.toS.apart (g := w1.heap.size) (by rw [zs.out]; omega)
    have R1 := Lib.hid ((ho.toS.past3 hap (.int .i64 m) (.int .i64 (-(n2 : Int) - p)) (.slice b2 n2 c2)).reads)
    have A1 := Lib.hid ((A.out.below gg).set3 (g2 := w1.heap.size) (by omega) (.int .i64 m) (.int .i64 (-(n2 : Int) - p)) (.slice b2 n2 c2))
    have Z1 := Lib.hid ((Z.out.below gg).set3 (g2 := w1.heap.size) (by omega) (.int .i64 m) (.int .i64 (-(n2 : Int) - p)) (.slice b2 n2 c2))
    have O1 := Lib.hid ((AO.out.below gg).fill (.int .i64 m) (.int .i64 (-(n2 : Int) - p)) (.slice b2 n2 c2))
    have B1 := Lib.hid (below_set3 (below_go B.out gg B.out.size) (g2 := w1.heap.size) (by omega) (.int .i64 m) (.int .i64 (-(n2 : Int) - p)) (.slice b2 n2 c2))
    have NL := Lib.hid ((invL_nl HN.out).turns p)
    have AP := Lib.hid (AO.out.below gg)
    clear ho p1 p2 p3 q1 q2 q3
    have G1 : Hid (w1.heap.size < (((w2.setCell ⟨w1.heap.size, 0, none⟩ (.int .i64 m)).setCell ⟨w1.heap.size, 1, none⟩ (.int .i64 (-(n2 : Int) - p))).setCell ⟨w1.heap.size, 2, none⟩ (.slice b2 n2 c2)).heap.size) := Lib.hid (by simp [World.setCell]; omega)
    obtain ⟨x0, ⟨x1, x2, x3⟩, y1, y2, y3⟩ := AP.out
    go_upto_region 8 with fail
    obtain ⟨W0, hW⟩ : ∃ V, V = (((w2.setCell ⟨w1.heap.size, 0, none⟩ (.int .i64 m)).setCell ⟨w1.heap.size, 1, none⟩ (.int .i64 (-(n2 : Int) - p))).setCell ⟨w1.heap.size, 2, none⟩ (.slice b2 n2 c2)) := ⟨_, rfl⟩
    rw [← hW] at R1 A1 Z1 O1 B1 G1 ⊢
    clear hW x0 x1 x2 x3 y1 y2 y3 AP gg A Z B R0 AO zs HPE
    have HM2 : Hid ((match powL m (-(n2 : Int) - p) (turns m p (invL m rs)) K with | some r => ((m : Int), r.1, r.2, (0 : Int)) | none => (0, 0, [], 3)) = (fs, fp, frs, fc)) := Lib.hid (by have h := HM.out; rw [HK.out] at h; exact h)
    have hbz : w.heap.size + 1 + 1 ≤ w1.heap.size := hz1
    have hbw := G1.out
    obtain ⟨gp, hgp⟩ : ∃ gp, gp = W0.heap.size := ⟨_, rfl⟩
    have G : Hid (AtP2 W0 (W0.alloc (.cells #[.int .i64 m, .int .i64 0, .slice none 0 0] 28)) m gp 0 none 0 0 []) := Lib.hid ⟨At3.place W0 _ _ _ _ gp hgp.symm, OwnS.nil _ _ _, below1 W0 _, by omega⟩
    obtain ⟨q1, q2, q3⟩ := A1.out.all
    have HK50 : K ≤ 50 := by have := HK.out; omega
    go_wp2
    rw [← hgp]
    clear q1 q2 q3 hgp A1
    go_loopg [30] K (fun g v wx => ∃ j e2 ak nk ck lk, j ≤ K ∧ g + j = K ∧ v = .int .i64 (j : Nat) ∧ AtP2 W0 wx m gp e2 ak nk ck lk ∧ powL m (-(n2 : Int) - p) (turns m p (invL m rs)) j = some (e2, lk))
    case atStart => exact ⟨0, _, _, _, _, _, Nat.zero_le _, by omega, rfl, G.out, rfl⟩
    case round =>
     obtain ⟨j, e2, ak, nk, ck, lk, hj, hgj, rfl, hG, hpw⟩ := hrel
     clear G
     have G := Lib.hid hG
     have HPW := Lib.hid hpw
     have HOK := Lib.hid (powL_ok NL.out j hpw)
     clear hG hpw
     have hok := HOK.out.2
     have hnk := G.out.own.len
     obtain ⟨r1, r2, r3⟩ := G.out.pr.all
     by_cases hlt : j < K
     ·have hg0 : (j : Int) < (K : Int) := by omega
      have OW := Lib.hid (O1.out.below G.out.kb)
      obtain ⟨o1, o2, o3⟩ := OW.out.all
      obtain ⟨e3, l3, h3⟩ : ∃ e3 l3, mkN m (e2 + (-(n2 : Int) - p)) (turns m (-(n2 : Int) - p) lk ++ (turns m p (invL m rs))) = (e3, l3) := ⟨_, _, rfl⟩
      have HNX := Lib.hid (powL_next HPW.out h3)
      have H3 := Lib.hid h3
      clear h3
      go_wp2_with fail
      refine (times_any m m1 m8 e2 (-(n2 : Int) - p) (by omega) (by omega) ak b2 nk ck n2 c2 lk (turns m p (invL m rs)) wr G.out.own.reads (R1.out.below G.out.kb) HOK.out.1 NL.out (by omega) (by omega) e3 l3 H3.out).mono ?_
      rintro e w5 ⟨a5, n5, c5, rfl, hcp, ho, gg⟩
      have hgl : gp < wr.heap.size := G.out.pr.1
      have hkz : W0.heap.size ≤ wr.heap.size := G.out.kb.size
      have hz5 : wr.heap.size ≤ w5.heap.size := gg.size
      replace G := Lib.hid (G.out.below gg)
      have O5 : Hid (OwnS wr.heap.size w5 a5 n5 l3) := Lib.hid (ho)
      clear ho gg r1 r2 r3 o1 o2 o3 OW
      have G2 := Lib.hid (G.out.next e3 c5 (O5.out.mono (by omega)) (O5.out.apart hgl))
      obtain ⟨x0, ⟨x1, x2, x3⟩, y1, y2, y3⟩ := G.out.pr
      go_upto_region 12 with fail
      clear x0 x1 x2 x3 y1 y2 y3 G
      obtain ⟨V, hV⟩ : ∃ V, V = (((w5.setCell ⟨gp, 0, none⟩ (.int .i64 m)).setCell ⟨gp, 1, none⟩ (.int .i64 e3)).setCell ⟨gp, 2, none⟩ (.slice a5 n5 c5)) := ⟨_, rfl⟩
      rw [← hV] at G2 ⊢
      clear hV
      obtain ⟨r1, r2, r3⟩ := G2.out.pr.all
      have hn5 := O5.out.len
      by_cases hc : -200 ≤ e3 ∧ e3 ≤ 200 ∧ l3.length ≤ 200
      ·have hP := HNX.out
       rw [if_pos hc] at hP
       have HP := Lib.hid hP; clear hP HNX
       go_wp2_with fail
       refine (within_yes (m : Int) e3 a5 n5 c5 _ (by rw [← hn5]; exact hc)).mono ?_
       rintro e w6 ⟨rfl, gg⟩
       replace G2 := Lib.hid (G2.out.below gg)
       clear gg r1 r2 r3
       go_wp2
       go_roundg (gk - 1)
       case measure => omega
       case rel => exact ⟨j + 1, e3, a5, n5, c5, l3, by omega, by omega, by go_num, G2.out, HP.out⟩
      ·have hP := HNX.out
       rw [if_neg hc] at hP
       have h4 := HM2.out
       rw [powL_none hP K (by omega)] at h4
       simp only [Prod.mk.injEq] at h4
       obtain ⟨rfl, rfl, rfl, rfl⟩ := h4
       clear hP HNX
       go_wp2_with fail
       refine (within_no (m : Int) e3 a5 n5 c5 _ (by rw [← hn5]; exact hc)).mono ?_
       rintro e w6 ⟨rfl, gg⟩
       have G := Lib.hid (G2.out.below gg)
       clear gg r1 r2 r3 G2
       have Z := Lib.hid (Z1.out.below G.out.kb)
       have B := Lib.hid (below_go B1.out G.out.kb B1.out.size)
       obtain ⟨x0, ⟨x1, x2, x3⟩, y1, y2, y3⟩ := Z.out
       go_wp2
       try rw [Exit.noGoto_ret]
       obtain ⟨_, ⟨e1, e2, e3⟩, _⟩ := Z.out.fill (.int .i64 0) (.int .i64 0) (.slice none 0 0)
       exact bodyPost_ret (v := .tuple #[.agg #[.int .i64 0, .int .i64 0, .slice none 0 0], .int .i64 3]) (by simp [results, Try.results19, go_sem, e1, e2, e3]) rfl ⟨none, 0, 0, rfl, by omega, OwnS.nil _ _ _, below_set3 B.out (by omega) _ _ _⟩
     ·have hjK : j = K := by omega
      have h4 := HM2.out
      rw [← hjK, HPW.out] at h4
      simp only [Prod.mk.injEq] at h4
      obtain ⟨rfl, rfl, rfl, rfl⟩ := h4
      have hg0 : ¬ (j : Int) < (K : Int) := by omega
      have hjK2 := Lib.hid hjK; clear hjK
      have Z := Lib.hid (Z1.out.below G.out.kb)
      have B := Lib.hid (below_go B1.out G.out.kb B1.out.size)
      obtain ⟨x0, ⟨x1, x2, x3⟩, y1, y2, y3⟩ := Z.out
      go_wp2
      try rw [Exit.noGoto_ret]
      obtain ⟨_, ⟨z1, z2, z3⟩, _⟩ := Z.out.fill (.int .i64 m) (.int .i64 e2) (.slice ak nk ck)
      exact bodyPost_ret (v := .tuple #[.agg #[.int .i64 m, .int .i64 e2, .slice ak nk ck], .int .i64 0]) (by simp [results, Try.results19, go_sem, z1, z2, z3]) rfl ⟨ak, nk, ck, rfl, by omega, ((G.out.own.set3 (g2 := w.heap.size + 1) (by omega) _ _ _).mono (by omega)), below_set3 B.out (by omega) _ _ _⟩
   ·have hwk : k = (K : Int) := by have := HK.out; omega
    subst hwk
    have hpe : pe = p ∧ le = rs := by have h := HPE.out; unfold ownP at h; rw [if_neg hk] at h; simp only [Prod.mk.injEq] at h; exact ⟨h.1.symm, h.2.symm⟩
    obtain ⟨rfl, rfl⟩ := hpe
    go_upto_region 8 with fail
    have G1 : Hid (w1.heap.size < (w1.alloc (.cells #[.int .i64 m, .int .i64 pe, .slice a n cap] 28)).heap.size) := Lib.hid (by simp)
    obtain ⟨W0, hW⟩ : ∃ V, V = w1.alloc (.cells #[.int .i64 m, .int .i64 pe, .slice a n cap] 28) := ⟨_, rfl⟩
    rw [← hW] at R0 A Z AO B G1 ⊢
    have R1 := R0
    have A1 := A
    have Z1 := Z
    have O1 := AO
    have B1 := B
    have NL := HN
    clear hW p1 p2 p3 q1 q2 q3 A Z B R0 AO zs HPE
    have HM2 : Hid ((match powL m pe le K with | some r => ((m : Int), r.1, r.2, (0 : Int)) | none => (0, 0, [], 3)) = (fs, fp, frs, fc)) := Lib.hid (by have h := HM.out; rw [HK.out] at h; exact h)
    have hbz : w.heap.size + 1 + 1 ≤ w1.heap.size := hz1
    have hbw := G1.out
    obtain ⟨gp, hgp⟩ : ∃ gp, gp = W0.heap.size := ⟨_, rfl⟩
    have G : Hid (AtP2 W0 (W0.alloc (.cells #[.int .i64 m, .int .i64 0, .slice none 0 0] 28)) m gp 0 none 0 0 []) := Lib.hid ⟨At3.place W0 _ _ _ _ gp hgp.symm, OwnS.nil _ _ _, below1 W0 _, by omega⟩
    obtain ⟨q1, q2, q3⟩ := A1.out.all
    have HK50 : K ≤ 50 := by have := HK.out; omega
    go_wp2
    rw [← hgp]
    clear q1 q2 q3 hgp A1
    go_loopg [30] K (fun g v wx => ∃ j e2 ak nk ck lk, j ≤ K ∧ g + j = K ∧ v = .int .i64 (j : Nat) ∧ AtP2 W0 wx m gp e2 ak nk ck lk ∧ powL m pe le j = some (e2, lk))
    case atStart => exact ⟨0, _, _, _, _, _, Nat.zero_le _, by omega, rfl, G.out, rfl⟩
    case round =>
     obtain ⟨j, e2, ak, nk, ck, lk, hj, hgj, rfl, hG, hpw⟩ := hrel
     clear G
     have G := Lib.hid hG
     have HPW := Lib.hid hpw
     have HOK := Lib.hid (powL_ok NL.out j hpw)
     clear hG hpw
     have hok := HOK.out.2
     have hnk := G.out.own.len
     obtain ⟨r1, r2, r3⟩ := G.out.pr.all
     by_cases hlt : j < K
     ·have hg0 : (j : Int) < (K : Int) := by omega
      have OW := Lib.hid (O1.out.below G.out.kb)
      obtain ⟨o1, o2, o3⟩ := OW.out.all
      obtain ⟨e3, l3, h3⟩ : ∃ e3 l3, mkN m (e2 + pe) (turns m pe lk ++ le) = (e3, l3) := ⟨_, _, rfl⟩
      have HNX := Lib.hid (powL_next HPW.out h3)
      have H3 := Lib.hid h3
      clear h3
      go_wp2_with fail
      refine (times_any m m1 m8 e2 pe (by omega) (by omega) ak a nk ck n cap lk le wr G.out.own.reads (R1.out.below G.out.kb) HOK.out.1 NL.out (by omega) (by omega) e3 l3 H3.out).mono ?_
      rintro e w5 ⟨a5, n5, c5, rfl, hcp, ho, gg⟩
      have hgl : gp < wr.heap.size := G.out.pr.1
      have hkz : W0.heap.size ≤ wr.heap.size := G.out.kb.size
      have hz5 : wr.heap.size ≤ w5.heap.size := gg.size
      replace G := Lib.hid (G.out.below gg)
      have O5 : Hid (OwnS wr.heap.size w5 a5 n5 l3) := Lib.hid (ho)
      clear ho gg r1 r2 r3 o1 o2 o3 OW
      have G2 := Lib.hid (G.out.next e3 c5 (O5.out.mono (by omega)) (O5.out.apart hgl))
      obtain ⟨x0, ⟨x1, x2, x3⟩, y1, y2, y3⟩ := G.out.pr
      go_upto_region 12 with fail
      clear x0 x1 x2 x3 y1 y2 y3 G
      obtain ⟨V, hV⟩ : ∃ V, V = (((w5.setCell ⟨gp, 0, none⟩ (.int .i64 m)).setCell ⟨gp, 1, none⟩ (.int .i64 e3)).setCell ⟨gp, 2, none⟩ (.slice a5 n5 c5)) := ⟨_, rfl⟩
      rw [← hV] at G2 ⊢
      clear hV
      obtain ⟨r1, r2, r3⟩ := G2.out.pr.all
      have hn5 := O5.out.len
      by_cases hc : -200 ≤ e3 ∧ e3 ≤ 200 ∧ l3.length ≤ 200
      ·have hP := HNX.out
       rw [if_pos hc] at hP
       have HP := Lib.hid hP; clear hP HNX
       go_wp2_with fail
       refine (within_yes (m : Int) e3 a5 n5 c5 _ (by rw [← hn5]; exact hc)).mono ?_
       rintro e w6 ⟨rfl, gg⟩
       replace G2 := Lib.hid (G2.out.below gg)
       clear gg r1 r2 r3
       go_wp2
       go_roundg (gk - 1)
       case measure => omega
       case rel => exact ⟨j + 1, e3, a5, n5, c5, l3, by omega, by omega, by go_num, G2.out, HP.out⟩
      ·have hP := HNX.out
       rw [if_neg hc] at hP
       have h4 := HM2.out
       rw [powL_none hP K (by omega)] at h4
       simp only [Prod.mk.injEq] at h4
       obtain ⟨rfl, rfl, rfl, rfl⟩ := h4
       clear hP HNX
       go_wp2_with fail
       refine (within_no (m : Int) e3 a5 n5 c5 _ (by rw [← hn5]; exact hc)).mono ?_
       rintro e w6 ⟨rfl, gg⟩
       have G := Lib.hid (G2.out.below gg)
       clear gg r1 r2 r3 G2
       have Z := Lib.hid (Z1.out.below G.out.kb)
       have B := Lib.hid (below_go B1.out G.out.kb B1.out.size)
       obtain ⟨x0, ⟨x1, x2, x3⟩, y1, y2, y3⟩ := Z.out
       go_wp2
       try rw [Exit.noGoto_ret]
       obtain ⟨_, ⟨e1, e2, e3⟩, _⟩ := Z.out.fill (.int .i64 0) (.int .i64 0) (.slice none 0 0)
       exact bodyPost_ret (v := .tuple #[.agg #[.int .i64 0, .int .i64 0, .slice none 0 0], .int .i64 3]) (by simp [results, Try.results19, go_sem, e1, e2, e3]) rfl ⟨none, 0, 0, rfl, by omega, OwnS.nil _ _ _, below_set3 B.out (by omega) _ _ _⟩
     ·have hjK : j = K := by omega
      have h4 := HM2.out
      rw [← hjK, HPW.out] at h4
      simp only [Prod.mk.injEq] at h4
      obtain ⟨rfl, rfl, rfl, rfl⟩ := h4
      have hg0 : ¬ (j : Int) < (K : Int) := by omega
      have hjK2 := Lib.hid hjK; clear hjK
      have Z := Lib.hid (Z1.out.below G.out.kb)
      have B := Lib.hid (below_go B1.out G.out.kb B1.out.size)
      obtain ⟨x0, ⟨x1, x2, x3⟩, y1, y2, y3⟩ := Z.out
      go_wp2
      try rw [Exit.noGoto_ret]
      obtain ⟨_, ⟨z1, z2, z3⟩, _⟩ := Z.out.fill (.int .i64 m) (.int .i64 e2) (.slice ak nk ck)
      exact bodyPost_ret (v := .tuple #[.agg #[.int .i64 m, .int .i64 e2, .slice ak nk ck], .int .i64 0]) (by simp [results, Try.results19, go_sem, z1, z2, z3]) rfl ⟨ak, nk, ck, rfl, by omega, ((G.out.own.set3 (g2 := w.heap.size + 1) (by omega) _ _ _).mono (by omega)), below_set3 B.out (by omega) _ _ _⟩
  ·rw [if_neg hr50] at hM
   simp only [Prod.mk.injEq] at hM
   obtain ⟨rfl, rfl, rfl, rfl⟩ := hM
   go_enter Try.func19, Try.ntmps19
   have A := Lib.hid ((At3.place w (.int .i64 m) (.int .i64 p) (.slice a n cap) 28 w.heap.size rfl).alloc (.cells #[.int .i64 0, .int .i64 0, .slice none 0 0] 28))
   have Z := Lib.hid (At3.place (w.alloc (.cells #[.int .i64 m, .int .i64 p, .slice a n cap] 28)) (.int .i64 0) (.int .i64 0) (.slice none 0 0) 28 (w.heap.size + 1) (by simp))
   have B := Lib.hid ((below1 w (.cells #[.int .i64 m, .int .i64 p, .slice a n cap] 28)).alloc (by simp) (.cells #[.int .i64 0, .int .i64 0, .slice none 0 0] 28))
   go_wp2_with fail
   refine (implIsNormal_any m p a n cap rs _ ((HR.out.alloc _).alloc _) hn).mono ?_
   rw [hB]
   rintro e w1 ⟨rfl, hb⟩
   have hz1 : w.heap.size + 1 + 1 ≤ w1.heap.size := by have := hb.size; simp at this; omega
   replace A := Lib.hid (A.out.below hb)
   replace Z := Lib.hid (Z.out.below hb)
   replace B := Lib.hid (below_go B.out hb (by simp; omega))
   clear hb
   by_cases hin1 : k < -50
   ·obtain ⟨x0, ⟨x1, x2, x3⟩, y1, y2, y3⟩ := Z.out
    go_wp2
    try rw [Exit.noGoto_ret]
    obtain ⟨_, ⟨e1, e2, e3⟩, _⟩ := Z.out.fill (.int .i64 0) (.int .i64 0) (.slice none 0 0)
    exact bodyPost_ret (v := .tuple #[.agg #[.int .i64 0, .int .i64 0, .slice none 0 0], .int .i64 2]) (by simp [results, Try.results19, go_sem, e1, e2, e3]) rfl ⟨none, 0, 0, rfl, by omega, OwnS.nil _ _ _, below_set3 B.out (by omega) _ _ _⟩
   ·have hin2 : (50 : Int) < k := by omega
    obtain ⟨x0, ⟨x1, x2, x3⟩, y1, y2, y3⟩ := Z.out
    go_wp2
    try rw [Exit.noGoto_ret]
    obtain ⟨_, ⟨e1, e2, e3⟩, _⟩ := Z.out.fill (.int .i64 0) (.int .i64 0) (.slice none 0 0)
    exact bodyPost_ret (v := .tuple #[.agg #[.int .i64 0, .int .i64 0, .slice none 0 0], .int .i64 2]) (by simp [results, Try.results19, go_sem, e1, e2, e3]) rfl ⟨none, 0, 0, rfl, by omega, OwnS.nil _ _ _, below_set3 B.out (by omega) _ _ _⟩
 | false =>
  rw [hB, if_neg (by simp)] at hM
  simp only [Prod.mk.injEq] at hM
  obtain ⟨rfl, rfl, rfl, rfl⟩ := hM
  go_enter Try.func19, Try.ntmps19
  have A := Lib.hid ((At3.place w (.int .i64 s) (.int .i64 p) (.slice a n cap) 28 w.heap.size rfl).alloc (.cells #[.int .i64 0, .int .i64 0, .slice none 0 0] 28))
  have Z := Lib.hid (At3.place (w.alloc (.cells #[.int .i64 s, .int .i64 p, .slice a n cap] 28)) (.int .i64 0) (.int .i64 0) (.slice none 0 0) 28 (w.heap.size + 1) (by simp))
  have B := Lib.hid ((below1 w (.cells #[.int .i64 s, .int .i64 p, .slice a n cap] 28)).alloc (by simp) (.cells #[.int .i64 0, .int .i64 0, .slice none 0 0] 28))
  go_wp2_with fail
  refine (implIsNormal_any s p a n cap rs _ ((HR.out.alloc _).alloc _) hn).mono ?_
  rw [hB]
  rintro e w1 ⟨rfl, hb⟩
  have hz1 : w.heap.size + 1 + 1 ≤ w1.heap.size := by have := hb.size; simp at this; omega
  replace A := Lib.hid (A.out.below hb)
  replace Z := Lib.hid (Z.out.below hb)
  replace B := Lib.hid (below_go B.out hb (by simp; omega))
  clear hb
  obtain ⟨x0, ⟨x1, x2, x3⟩, y1, y2, y3⟩ := Z.out
  go_wp2
  try rw [Exit.noGoto_ret]
  obtain ⟨_, ⟨e1, e2, e3⟩, _⟩ := Z.out.fill (.int .i64 0) (.int .i64 0) (.slice none 0 0)
  exact bodyPost_ret (v := .tuple #[.agg #[.int .i64 0, .int .i64 0, .slice none 0 0], .int .i64 1]) (by simp [results, Try.results19, go_sem, e1, e2, e3]) rfl ⟨none, 0, 0, rfl, by omega, OwnS.nil _ _ _, below_set3 B.out (by omega) _ _ _⟩

end Go.Proofs.Ytleoohplnkdbdaa

