/- Is one positive braid a beginning of another: the model and the program. -/
import Derived.Test.YtleoohplnkdbdaaBoPosC
import Derived.Test.YtleoohplnkdbdaaBoComQ
import Derived.Test.YtleoohplnkdbdaaBoSCom
import Derived.Test.YtleoohplnkdbdaaBoIInv
import Derived.Test.YtleoohplnkdbdaaBoITms
namespace Go.Proofs.Ytleoohplnkdbdaa
open Go.RowKit Go.ChangeShapes

/-- Is the first a beginning of the second, or the code. -/
def mIsB (s p : Int) (rs : List (List Int)) (t q : Int) (ts : List (List Int)) : Bool × Int :=
 if posC s p rs t q ts = 0 then (decide (0 ≤ (mulN s.toNat (invN s.toNat (p, rs)) (q, ts)).1), 0) else (false, posC s p rs t q ts)

theorem posC_ok {s p t q : Int} {rs ts : List (List Int)} (h : posC s p rs t q ts = 0) : pairC s p rs t q ts = 0 ∧ 0 ≤ p ∧ 0 ≤ q := by
 unfold posC at h
 by_cases h0 : pairC s p rs t q ts = 0
 ·rw [if_pos h0] at h
  by_cases h1 : p < 0 ∨ q < 0
  ·rw [if_pos h1] at h
   omega
  ·omega
 ·rw [if_neg h0] at h
  exact absurd h h0

theorem nl_one {l : List (List Int)} (h : Nl 1 l) : l = [] := by
 cases l with
 | nil => rfl
 | cons x l => exact absurd (pre_one (h.sims x (by simp)) fun i j hij hj _ => by omega) (h.n1 x (by simp))

theorem norm_one {m : Nat} {p : Int} {rs : List (List Int)} (m1 : 1 ≤ m) (h : normB m p rs = true) (hl : Nl m rs) : 1 < m ∨ (p, rs) = (0, []) := by
 rcases Nat.lt_or_ge 1 m with h2 | h2
 ·exact .inl h2
 ·obtain rfl : m = 1 := by omega
  obtain ⟨_, _, _, h3, _⟩ := (normB_iff _ _ _).1 h
  rw [nl_one hl]
  exact .inr (by congr 1; omega)

set_option maxRecDepth 100000 in
set_option maxHeartbeats 800000 in
theorem specIsBeginningOf_any (s p : Int) (a : Option Addr) (n cap : Nat) (rs : List (List Int)) (t q : Int) (b : Option Addr) (nb capb : Nat) (ts : List (List Int)) (w : World) (hr : ReadsA w a n rs) (hy : BytesA rs) (hn : n ≤ 1048576) (hr2 : ReadsA w b nb ts) (hy2 : BytesA ts) (hn2 : nb ≤ 1048576) (fb : Bool) (fc : Int) (hM : mIsB s p rs t q ts = (fb, fc)) :
  Calls Try.prog 20 #[.agg #[.int .i64 s, .int .i64 p, .slice a n cap], .agg #[.int .i64 t, .int .i64 q, .slice b nb capb]] w (fun e w' => e = .returned (.tuple #[.bool fb, .int .i64 fc]) ∧ Below w.heap.size w w') := by
 have HL := Lib.hid hr.len
 have HL2 := Lib.hid hr2.len
 have HR := Lib.hid hr; clear hr
 have HR2 := Lib.hid hr2; clear hr2
 have HY0 := Lib.hid hy; clear hy
 have HY1 := Lib.hid hy2; clear hy2
 unfold mIsB at hM
 by_cases hc0 : posC s p rs t q ts = 0
 ·obtain ⟨hpc, hp0, hq0⟩ := posC_ok hc0
  obtain ⟨hB, hB2, rfl⟩ := pairC_ok hpc
  rw [if_pos hc0] at hM
  obtain ⟨m, rfl, m1, m8, hnl, hp, hlen⟩ := norm_nl HR.out.rows hB
  obtain ⟨m', hm', _, _, hnl2, hq, hlen2⟩ := norm_nl HR2.out.rows hB2
  obtain rfl : m = m' := by omega
  clear hm'
  rw [Int.toNat_natCast] at hM
  have hone : 1 < m ∨ ((p, rs) = ((0 : Int), []) ∧ (q, ts) = ((0 : Int), [])) := (norm_one m1 hB hnl).elim .inl fun h1 => (norm_one m1 hB2 hnl2).elim .inl fun h2 => .inr ⟨h1, h2⟩
  obtain ⟨tr, N, hT, hta, htb, hend, _⟩ := com_all m1 m8 (a := (p, rs)) (b := (q, ts)) hnl hnl2 hp0 hq0 (by show p + (rs.length : Int) ≤ 400; omega) (by show q + (ts.length : Int) ≤ 400; omega) hone
  simp only [Prod.mk.injEq] at hM
  obtain ⟨hfb, rfl⟩ := hM
  have hfb2 : fb = true ↔ (tr N).2.1 = ((0 : Int), []) := by rw [← hend, ← hfb, decide_eq_true_eq]
  have HFB := Lib.hid hfb2; clear hfb hfb2
  have HT := Lib.hid hT; clear hT
  have HTA := Lib.hid hta; clear hta
  have HTB := Lib.hid htb; clear htb
  have HC0 := Lib.hid hc0; clear hc0
  clear hend hone hpc hB hB2
  have A := Lib.hid ((At3.place w (.int .i64 m) (.int .i64 p) (.slice a n cap) 28 w.heap.size rfl).alloc (.cells #[.int .i64 m, .int .i64 q, .slice b nb capb] 28))
  have X := Lib.hid (At3.place (w.alloc (.cells #[.int .i64 m, .int .i64 p, .slice a n cap] 28)) (.int .i64 m) (.int .i64 q) (.slice b nb capb) 28 (w.heap.size + 1) (by simp))
  have K := Lib.hid ((below1 w (.cells #[.int .i64 m, .int .i64 p, .slice a n cap] 28)).alloc (by simp) (.cells #[.int .i64 m, .int .i64 q, .slice b nb capb] 28))
  go_enter Try.func20, Try.ntmps20
  go_wp2_with fail
  refine (l03Positive_any m p m q a b n cap nb capb rs ts _ ((HR.out.alloc _).alloc _) HY0.out hn ((HR2.out.alloc _).alloc _) HY1.out hn2).mono ?_
  rintro e w1 ⟨rfl, hb⟩
  have hz1 : w.heap.size + 1 + 1 ≤ w1.heap.size := by have := hb.size; simp at this; omega
  replace A := Lib.hid (A.out.below hb)
  replace X := Lib.hid (X.out.below hb)
  replace K := Lib.hid (below_go K.out hb (by simp; omega))
  clear hb
  rw [HC0.out]
  obtain ⟨x0, ⟨x1, x2, x3⟩, x4, x5, x6⟩ := A.out
  obtain ⟨y0, ⟨y1, y2, y3⟩, y4, y5, y6⟩ := X.out
  go_wp2_with fail
  refine (l03Common_any m m1 m8 tr N HT.out p q a b n nb cap capb rs ts _ (HR.out.below K.out) (HR2.out.below K.out) HTA.out HTB.out).mono ?_
  rintro e w2 ⟨a1, n1, c1, a2, n2, c2, a3, n3, c3, rfl, _, hP, _, hb⟩
  have hlen3 : (tr N).2.1.2.length = n2 := hP.rd.len
  have K2 := Lib.hid (below_go K.out hb K.out.size)
  clear hb hP
  obtain ⟨⟨e1, k1⟩, hk1⟩ : ∃ x : Pf, (tr N).2.1 = x := ⟨_, rfl⟩
  rw [hk1] at hlen3 HFB ⊢
  have K3 := fun o1 o2 o3 => ((K2.out.alloc K2.out.size o1).alloc (by have h9 := K2.out.size; simp; omega) o2).alloc (by have h9 := K2.out.size; simp; omega) o3
  have HK3 := Lib.hid K3; clear K3
  by_cases h1 : e1 = 0
  ·by_cases h2 : n2 = 0
   ·have hk : k1 = [] := List.length_eq_zero_iff.1 (by show k1.length = 0; rw [← h2]; exact hlen3)
    have hfb : fb = true := HFB.out.2 (by rw [h1, hk])
    subst hfb h1 h2
    go_wp2
    exact bodyPost_ret (v := .tuple #[.bool true, .int .i64 0]) (by simp [results, Try.results20, go_sem]) rfl ⟨rfl, HK3.out _ _ _⟩
   ·have hfb : fb = false := by
     cases fb with
     | false => rfl
     | true =>
      have h9 := HFB.out.1 rfl
      simp only [Prod.mk.injEq] at h9
      exact absurd (by rw [← hlen3]; show k1.length = 0; rw [h9.2]; rfl) h2
    subst hfb h1
    go_wp2
    exact bodyPost_ret (v := .tuple #[.bool false, .int .i64 0]) (by simp [results, Try.results20, go_sem, h2]) rfl ⟨rfl, HK3.out _ _ _⟩
  ·have hfb : fb = false := by
    cases fb with
    | false => rfl
    | true =>
     have h9 := HFB.out.1 rfl
     simp only [Prod.mk.injEq] at h9
     exact absurd h9.1 h1
   subst hfb
   go_wp2
   exact bodyPost_ret (v := .tuple #[.bool false, .int .i64 0]) (by simp [results, Try.results20, go_sem]) rfl ⟨rfl, HK3.out _ _ _⟩
 ·rw [if_neg hc0] at hM
  simp only [Prod.mk.injEq] at hM
  obtain ⟨rfl, rfl⟩ := hM
  obtain ⟨c, hc⟩ : ∃ c, c = posC s p rs t q ts := ⟨_, rfl⟩
  rw [← hc] at hc0 ⊢
  have HC := Lib.hid hc; clear hc
  have A := Lib.hid ((At3.place w (.int .i64 s) (.int .i64 p) (.slice a n cap) 28 w.heap.size rfl).alloc (.cells #[.int .i64 t, .int .i64 q, .slice b nb capb] 28))
  have X := Lib.hid (At3.place (w.alloc (.cells #[.int .i64 s, .int .i64 p, .slice a n cap] 28)) (.int .i64 t) (.int .i64 q) (.slice b nb capb) 28 (w.heap.size + 1) (by simp))
  have K := Lib.hid ((below1 w (.cells #[.int .i64 s, .int .i64 p, .slice a n cap] 28)).alloc (by simp) (.cells #[.int .i64 t, .int .i64 q, .slice b nb capb] 28))
  go_enter Try.func20, Try.ntmps20
  go_wp2_with fail
  refine (l03Positive_any s p t q a b n cap nb capb rs ts _ ((HR.out.alloc _).alloc _) HY0.out hn ((HR2.out.alloc _).alloc _) HY1.out hn2).mono ?_
  rintro e w1 ⟨rfl, hb⟩
  have hz1 : w.heap.size + 1 + 1 ≤ w1.heap.size := by have := hb.size; simp at this; omega
  replace A := Lib.hid (A.out.below hb)
  replace X := Lib.hid (X.out.below hb)
  replace K := Lib.hid (below_go K.out hb (by simp; omega))
  clear hb
  rw [← HC.out]
  obtain ⟨x0, ⟨x1, x2, x3⟩, x4, x5, x6⟩ := A.out
  obtain ⟨y0, ⟨y1, y2, y3⟩, y4, y5, y6⟩ := X.out
  go_wp2
  exact bodyPost_ret (v := .tuple #[.bool false, .int .i64 c]) (by simp [results, Try.results20, go_sem]) rfl ⟨rfl, K.out⟩

end Go.Proofs.Ytleoohplnkdbdaa

