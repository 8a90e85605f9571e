/- Periodic braids: the model and the program. -/
import Derived.Test.YtpkhddndapcpjaaIpPwP
import Derived.Test.YtpkhddndapcpjaaIpSNorm
import Derived.Test.YtpkhddndapcpjaaIpINorm2
import Derived.Test.YtpkhddndapcpjaaIpKit15
import Derived.Test.YtpkhddndapcpjaaIpSPro
import Derived.Test.YtpkhddndapcpjaaIpITms
import Derived.Test.YtpkhddndapcpjaaIpSMk0
namespace Go.Proofs.Ytpkhddndapcpjaa
open Go.RowKit Go.ChangeShapes

/-- Is a normal form periodic? -/
def mPer (s p : Int) (rs : List (List Int)) : Bool × Int := if normB s p rs = true then (decide ((pw s.toNat p rs (s.toNat - 1)).2 = [] ∨ (pw s.toNat p rs s.toNat).2 = []), 0) else (false, 1)

/-- The power as it grows. -/
structure AtPw (w wx : World) (m : Nat) (p : Int) (a : Option Addr) (n cap gp : Nat) (k : Int) (ak : Option Addr) (nk ck : Nat) (lk : List (List Int)) : Prop where
 box : At3 wx w.heap.size (.int .i64 m) (.int .i64 p) (.slice a n cap)
 pr : At3 wx gp (.int .i64 m) (.int .i64 k) (.slice ak nk ck)
 own : OwnS (w.heap.size + 1) wx ak nk lk
 apart : nk = 0 ∨ ∀ x, ak = some x → x.block ≠ gp
 bel : Below w.heap.size w wx
 lo : w.heap.size + 1 ≤ gp

theorem AtPw.below {w wx W : World} {m : Nat} {p : Int} {a : Option Addr} {n cap gp : Nat} {k : Int} {ak : Option Addr} {nk ck : Nat} {lk : List (List Int)} (h : AtPw w wx m p a n cap gp k ak nk ck lk) (k2 : Below wx.heap.size wx W) : AtPw w W m p a n cap gp k ak nk ck lk :=
 ⟨h.box.below k2, h.pr.below k2, h.own.below k2, h.apart, h.bel.trans (k2.mono h.bel.size), h.lo⟩

/-- The power is stored anew. -/
theorem AtPw.next {w wx : World} {m : Nat} {p : Int} {a : Option Addr} {n cap gp : Nat} {k : Int} {ak : Option Addr} {nk ck : Nat} {lk : List (List Int)} (h : AtPw w wx m p a n cap gp k ak nk ck lk) {B : Nat} (k2 : Int) {a2 : Option Addr} {n2 : Nat} (c2 : Nat) {l2 : List (List Int)} (ho : OwnS B wx a2 n2 l2) (hB : w.heap.size + 1 ≤ B) (hg : gp < B) :
  AtPw w (((wx.setCell ⟨gp, 0, none⟩ (.int .i64 m)).setCell ⟨gp, 1, none⟩ (.int .i64 k2)).setCell ⟨gp, 2, none⟩ (.slice a2 n2 c2)) m p a n cap gp k2 a2 n2 c2 l2 :=
 have hlo := h.lo
 ⟨h.box.set3 (by omega) _ _ _, h.pr.fill _ _ _, (ho.past3 (ho.apart hg) _ _ _).mono hB, ho.apart hg, below_set3 h.bel (by omega) _ _ _, h.lo⟩

set_option maxRecDepth 100000 in
set_option maxHeartbeats 400000 in
theorem specIsPeriodic_any (s p : Int) (a : Option Addr) (n cap : Nat) (rs : List (List Int)) (w : World) (hr : ReadsA w a n rs) (hy : BytesA rs) (hn : n ≤ 1048576) (fb : Bool) (fc : Int) (hM : mPer s p rs = (fb, fc)) :
  Calls Try.prog 18 #[.agg #[.int .i64 s, .int .i64 p, .slice a n cap]] w fun e w' => e = .returned (.tuple #[.bool fb, .int .i64 fc]) ∧ Below w.heap.size w w' := by
 have HL := Lib.hid hr.len
 have HR := Lib.hid hr; clear hr
 have HY := Lib.hid hy; clear hy
 unfold mPer at hM
 cases hB : normB s p rs with
 | true =>
  rw [hB, if_pos rfl] at hM
  obtain ⟨m, rfl, m1, m8, hnl, hp, hlen⟩ := norm_nl HR.out.rows hB
  have HN := Lib.hid hnl; clear hnl
  rw [Int.toNat_natCast] at hM
  obtain ⟨hfb, rfl⟩ := Prod.mk.inj hM
  have HFB := Lib.hid hfb; clear hM hfb
  have BD := Lib.hid (pw_bd (m := m) hp hlen)
  rw [HL.out] at hlen
  go_enter Try.func18, Try.ntmps18
  have A := Lib.hid (At3.place w (.int .i64 m) (.int .i64 p) (.slice a n cap) 28 w.heap.size rfl)
  have B := Lib.hid (below1 w (.cells #[.int .i64 m, .int .i64 p, .slice a n cap] 28))
  go_wp2_with fail
  refine (l03Is_any m p a n cap rs _ (HR.out.alloc _) HY.out hn).mono ?_
  rw [hB]
  rintro e w1 ⟨rfl, hb⟩
  replace A := Lib.hid (A.out.below hb)
  replace B := Lib.hid (below_go B.out hb B.out.size)
  clear hb
  have hbs : w.heap.size < w1.heap.size := A.out.1
  obtain ⟨gp, hgp⟩ : ∃ gp, gp = w1.heap.size := ⟨_, rfl⟩
  have G : Hid (AtPw w (w1.alloc (.cells #[.int .i64 m, .int .i64 0, .slice none 0 0] 28)) m p a n cap gp 0 none 0 0 []) := Lib.hid ⟨A.out.alloc _, At3.place w1 _ _ _ _ gp hgp.symm, OwnS.nil _ _ _, .inl rfl, B.out.alloc B.out.size _, by omega⟩
  obtain ⟨q1, q2, q3⟩ := A.out.cells
  obtain ⟨r1, r2, r3⟩ := G.out.box.cells
  go_wp2
  rw [← hgp]
  clear q1 q2 q3 r1 r2 r3 A B hgp hbs
  go_loopg [5] (m + 1) (fun g v wx => ∃ j e2 ak nk ck lk, j ≤ m ∧ g + j = m + 1 ∧ v = .int .i64 ((j + 1 : Nat) : Int) ∧ AtPw w wx m p a n cap gp e2 ak nk ck lk ∧ pw m p rs j = (e2, lk) ∧ ∀ i, 1 ≤ i → i ≤ j → m - 1 ≤ i → (pw m p rs i).2 ≠ [])
  case atStart => exact ⟨0, _, _, _, _, _, Nat.zero_le _, by omega, rfl, G.out, rfl, fun i h1 h2 => by omega⟩
  case round =>
   obtain ⟨j, e2, ak, nk, ck, lk, hj, hgj, rfl, hG, hpw, hne⟩ := hrel
   clear G
   have G := Lib.hid hG
   have HPW := Lib.hid hpw
   have HNE := Lib.hid hne
   clear hG hpw hne
   obtain ⟨q1, q2, q3⟩ := G.out.box.cells
   obtain ⟨r1, r2, r3⟩ := G.out.pr.cells
   have hnk := G.out.own.len
   have hbd := BD.out j
   rw [HPW.out] at hbd
   simp only [hnk] at hbd
   by_cases hlt : j < m
   ·have hc1 : ((j + 1 : Nat) : Int) ≤ (m : Int) := by omega
    have hc2 : ((j : Int) + 1) ≤ (m : Int) := by omega
    go_wp2_with fail
    obtain ⟨e3, l3, h3⟩ : ∃ e3 l3, pw m p rs (j + 1) = (e3, l3) := ⟨_, _, rfl⟩
    have h4 := h3
    rw [pw_succ, HPW.out] at h4
    have hnl := pw_nl p HN.out j
    rw [HPW.out] at hnl
    refine (l03Product_any m m1 m8 e2 p (by omega) (by omega) ak a nk ck n cap lk rs wr G.out.own.reads (HR.out.below G.out.bel) hnl.sims HN.out.sims (by omega) (by omega) e3 l3 h4).mono ?_
    rintro e5 w5 ⟨a5, n5, c5, rfl, ho, gg⟩
    have hgl : gp < wr.heap.size := G.out.pr.1
    have hbz : w.heap.size < wr.heap.size := G.out.box.1
    replace G := Lib.hid (G.out.below gg)
    have G2 := Lib.hid (G.out.next e3 c5 ho.toS (by omega) hgl)
    have hn5 := ho.len
    clear gg ho q1 q2 q3 r1 r2 r3
    obtain ⟨x0, ⟨x1, x2, x3⟩, y1, y2, y3⟩ := G.out.pr
    go_upto_region 8 with fail
    clear x0 x1 x2 x3 y1 y2 y3 G
    obtain ⟨V, hV⟩ : ∃ V, V = (((w5.setCell ⟨gp, 0, none⟩ (.int .i64 m)).setCell ⟨gp, 1, none⟩ (.int .i64 e3)).setCell ⟨gp, 2, none⟩ (.slice a5 n5 c5)) := ⟨_, rfl⟩
    rw [← hV] at G2 ⊢
    clear hV
    obtain ⟨q1, q2, q3⟩ := G2.out.box.cells
    obtain ⟨r1, r2, r3⟩ := G2.out.pr.cells
    have hw1 : IntKind.i64.wrap ((m : Int) - 1) = (m : Int) - 1 := IntWalk.i64_in _ (by omega)
    by_cases hd : m - 1 ≤ j + 1
    ·have hd1 : (m : Int) - 1 ≤ ((j + 1 : Nat) : Int) := by omega
     have hd2 : (m : Int) - 1 ≤ (j : Int) + 1 := by omega
     by_cases h0 : n5 = 0
     ·have hl0 : l3 = [] := List.eq_nil_of_length_eq_zero (by omega)
      have hfb : fb = true := by
       rw [← HFB.out]
       refine decide_eq_true ?_
       rcases Nat.lt_or_ge (j + 1) m with h5 | h5
       ·exact .inl (by rw [show m - 1 = j + 1 by omega, h3]; exact hl0)
       ·exact .inr (by rw [show m = j + 1 by omega] at h3 ⊢; rw [h3]; exact hl0)
      subst h0
      go_wp2
      go_ret2
      subst hfb
      exact ⟨rfl, G2.out.bel⟩
     ·have hz : ((n5 : Int) == 0) = false := by simpa using h0
      go_wp2
      go_roundg (gk - 1)
      case measure => omega
      case rel =>
       refine ⟨j + 1, e3, a5, n5, c5, l3, by omega, by omega, by go_num, G2.out, h3, fun i h6 h7 h8 => ?_⟩
       rcases Nat.lt_or_ge j i with h9 | h9
       ·rw [show i = j + 1 by omega, h3]
        intro hc
        apply h0
        rw [← hn5]
        exact List.length_eq_zero_iff.2 hc
       ·exact HNE.out i h6 h9 h8
    ·have hd1 : ¬ (m : Int) - 1 ≤ ((j + 1 : Nat) : Int) := by omega
     have hd2 : ¬ (m : Int) - 1 ≤ (j : Int) + 1 := by omega
     go_wp2
     go_roundg (gk - 1)
     case measure => omega
     case rel =>
      refine ⟨j + 1, e3, a5, n5, c5, l3, by omega, by omega, by go_num, G2.out, h3, fun i h6 h7 h8 => by omega⟩
   ·obtain rfl : j = m := by omega
    have hc1 : ¬ ((j + 1 : Nat) : Int) ≤ (j : Int) := by omega
    have hc2 : ¬ ((j : Int) + 1) ≤ (j : Int) := by omega
    have hfb : fb = false := by
     rw [← HFB.out]
     refine decide_eq_false ?_
     rintro (h | h)
     ·rcases Nat.lt_or_ge 1 j with h5 | h5
      ·exact HNE.out (j - 1) (by omega) (by omega) (by omega) h
      ·obtain rfl : j = 1 := by omega
       exact HNE.out 1 (by omega) (by omega) (by omega) (pw_one HN.out 1)
     ·exact HNE.out j (by omega) (by omega) (by omega) h
    go_wp2
    go_ret2
    subst hfb
    exact ⟨rfl, G.out.bel⟩
 | false =>
  rw [hB, if_neg (by simp)] at hM
  obtain ⟨rfl, rfl⟩ := Prod.mk.inj hM
  clear hM
  go_enter Try.func18, Try.ntmps18
  have B := Lib.hid (below1 w (.cells #[.int .i64 s, .int .i64 p, .slice a n cap] 28))
  go_wp2_with fail
  refine (l03Is_any s p a n cap rs _ (HR.out.alloc _) HY.out hn).mono ?_
  rw [hB]
  rintro e w1 ⟨rfl, hb⟩
  replace B := Lib.hid (below_go B.out hb B.out.size)
  clear hb
  go_wp2
  go_ret2
  exact ⟨rfl, B.out⟩

set_option maxRecDepth 100000 in
set_option maxHeartbeats 400000 in
theorem implIsPeriodic_any (s p : Int) (a : Option Addr) (n cap : Nat) (rs : List (List Int)) (w : World) (hr : ReadsA w a n rs) (_hy : BytesA rs) (hn : n ≤ 1048576) (fb : Bool) (fc : Int) (hM : mPer s p rs = (fb, fc)) :
  Calls Try.prog 19 #[.agg #[.int .i64 s, .int .i64 p, .slice a n cap]] w fun e w' => e = .returned (.tuple #[.bool fb, .int .i64 fc]) ∧ Below w.heap.size w w' := by
 have HL := Lib.hid hr.len
 have HR := Lib.hid hr; clear hr
 unfold mPer at hM
 cases hB : normB s p rs with
 | true =>
  rw [hB, if_pos rfl] at hM
  obtain ⟨m, rfl, m1, m8, hnl, hp, hlen⟩ := norm_nl HR.out.rows hB
  have HN := Lib.hid hnl; clear hnl
  rw [Int.toNat_natCast] at hM
  obtain ⟨hfb, rfl⟩ := Prod.mk.inj hM
  have HFB := Lib.hid hfb; clear hM hfb
  have BD := Lib.hid (pw_bd (m := m) hp hlen)
  rw [HL.out] at hlen
  go_enter Try.func19, Try.ntmps19
  have A := Lib.hid (At3.place w (.int .i64 m) (.int .i64 p) (.slice a n cap) 28 w.heap.size rfl)
  have B := Lib.hid (below1 w (.cells #[.int .i64 m, .int .i64 p, .slice a n cap] 28))
  go_wp2_with fail
  refine (implIsNormal_any m p a n cap rs _ (HR.out.alloc _) hn).mono ?_
  rw [hB]
  rintro e w1 ⟨rfl, hb⟩
  replace A := Lib.hid (A.out.below hb)
  replace B := Lib.hid (below_go B.out hb B.out.size)
  clear hb
  have hbs : w.heap.size < w1.heap.size := A.out.1
  obtain ⟨gp, hgp⟩ : ∃ gp, gp = w1.heap.size := ⟨_, rfl⟩
  have G : Hid (AtPw w (w1.alloc (.cells #[.int .i64 m, .int .i64 0, .slice none 0 0] 28)) m p a n cap gp 0 none 0 0 []) := Lib.hid ⟨A.out.alloc _, At3.place w1 _ _ _ _ gp hgp.symm, OwnS.nil _ _ _, .inl rfl, B.out.alloc B.out.size _, by omega⟩
  obtain ⟨q1, q2, q3⟩ := A.out.cells
  obtain ⟨r1, r2, r3⟩ := G.out.box.cells
  have hw0 : IntKind.i64.wrap ((m : Int) - 1) = (m : Int) - 1 := IntWalk.i64_in _ (by omega)
  go_wp2
  rw [← hgp]
  clear q1 q2 q3 r1 r2 r3 A B hgp hbs
  go_loopg [14] (m - 1) (fun g v wx => ∃ j e2 ak nk ck lk, j ≤ m - 1 ∧ g + j = m - 1 ∧ v = .int .i64 ((j : Nat) : Int) ∧ AtPw w wx m p a n cap gp e2 ak nk ck lk ∧ nk ≤ ck ∧ pw m p rs j = (e2, lk))
  case atStart => exact ⟨0, _, _, _, _, _, Nat.zero_le _, by omega, rfl, G.out, Nat.le_refl _, rfl⟩
  case round =>
   obtain ⟨j, e2, ak, nk, ck, lk, hj, hgj, rfl, hG, hck, hpw⟩ := hrel
   clear G
   have G := Lib.hid hG
   have HPW := Lib.hid hpw
   clear hG hpw
   obtain ⟨q1, q2, q3⟩ := G.out.box.cells
   obtain ⟨r1, r2, r3⟩ := G.out.pr.cells
   have hnk := G.out.own.len
   have hbd := BD.out j
   rw [HPW.out] at hbd
   simp only [hnk] at hbd
   obtain ⟨e3, l3, h3⟩ : ∃ e3 l3, pw m p rs (j + 1) = (e3, l3) := ⟨_, _, rfl⟩
   have H3 := Lib.hid h3
   clear h3
   have h4 : Hid (mkN m (e2 + p) (turns m p lk ++ rs) = (e3, l3)) := Lib.hid (by have := H3.out; rw [pw_succ, HPW.out] at this; exact this)
   have hnl := pw_nl p HN.out j
   rw [HPW.out] at hnl
   have HNL := Lib.hid hnl
   clear hnl
   have hgl : gp < wr.heap.size := G.out.pr.1
   have hbz : w.heap.size < wr.heap.size := G.out.box.1
   by_cases hlt : j < m - 1
   ·have hc1 : ((j : Nat) : Int) < (m : Int) - 1 := by omega
    go_wp2_with fail
    refine (times_any m m1 m8 e2 p (by omega) (by omega) ak a nk ck n cap lk rs wr G.out.own.reads (HR.out.below G.out.bel) HNL.out HN.out (by omega) (by omega) e3 l3 h4.out).mono ?_
    rintro e5 w5 ⟨a5, n5, c5, rfl, hc5, ho, gg⟩
    replace G := Lib.hid (G.out.below gg)
    have G2 := Lib.hid (G.out.next e3 c5 ho (by omega) hgl)
    clear gg ho q1 q2 q3 r1 r2 r3
    obtain ⟨x0, ⟨x1, x2, x3⟩, y1, y2, y3⟩ := G.out.pr
    go_wp2
    go_roundg (gk - 1)
    case measure => omega
    case rel => exact ⟨j + 1, e3, a5, n5, c5, l3, by omega, by omega, by go_num, G2.out, hc5, H3.out⟩
   ·have hjm : Hid (m = j + 1) := Lib.hid (by omega)
    have hc1 : ¬ ((j : Nat) : Int) < (m : Int) - 1 := by omega
    have hj1 : Hid (m - 1 = j) := Lib.hid (by have := hjm.out; omega)
    by_cases h0 : nk = 0
    ·have hl0 : lk = [] := List.eq_nil_of_length_eq_zero (by omega)
     have hfb : fb = true := by
      rw [← HFB.out]
      refine decide_eq_true (.inl ?_)
      rw [hj1.out, HPW.out]
      exact hl0
     subst h0
     go_wp2
     go_ret2
     subst hfb
     exact ⟨rfl, G.out.bel⟩
    ·have hz : ((nk : Int) == 0) = false := by simpa using h0
     go_wp2_with fail
     refine (times_any m m1 m8 e2 p (by omega) (by omega) ak a nk ck n cap lk rs wr G.out.own.reads (HR.out.below G.out.bel) HNL.out HN.out (by omega) (by omega) e3 l3 h4.out).mono ?_
     rintro e5 w5 ⟨a5, n5, c5, rfl, hc5, ho, gg⟩
     have hfd : ∀ v : World, (Instr.field 28 (.agg #[.int .i64 m, .int .i64 e3, .slice a5 n5 c5]) 2).run Try.prog v = .ok (.slice a5 n5 c5) v := fun _ => by kernel_rfl
     have hn5 := ho.len
     have hfb : fb = decide (n5 = 0) := by
      rw [← HFB.out]
      refine decide_eq_decide.2 ?_
      have H3' := H3.out
      rw [← hjm.out] at H3'
      rw [hj1.out, HPW.out, H3']
      constructor
      ·rintro (h | h)
       ·exact absurd (by rw [← hnk]; exact List.length_eq_zero_iff.2 h) h0
       ·rw [← hn5]; exact List.length_eq_zero_iff.2 h
      ·exact fun h => .inr (List.eq_nil_of_length_eq_zero (hn5.trans h))
     have hb5 := below_go G.out.bel gg G.out.bel.size
     have hdz : ((n5 : Int) == 0) = decide (n5 = 0) := by
      by_cases h : n5 = 0
      ·subst h; rfl
      ·rw [decide_eq_false h]; simpa using h
     go_wp2
     go_ret2
     subst hfb
     exact ⟨rfl, hb5⟩
 | false =>
  rw [hB, if_neg (by simp)] at hM
  obtain ⟨rfl, rfl⟩ := Prod.mk.inj hM
  clear hM
  go_enter Try.func19, Try.ntmps19
  have B := Lib.hid (below1 w (.cells #[.int .i64 s, .int .i64 p, .slice a n cap] 28))
  go_wp2_with fail
  refine (implIsNormal_any s p a n cap rs _ (HR.out.alloc _) hn).mono ?_
  rw [hB]
  rintro e w1 ⟨rfl, hb⟩
  replace B := Lib.hid (below_go B.out hb B.out.size)
  clear hb
  go_wp2
  go_ret2
  exact ⟨rfl, B.out⟩

end Go.Proofs.Ytpkhddndapcpjaa

