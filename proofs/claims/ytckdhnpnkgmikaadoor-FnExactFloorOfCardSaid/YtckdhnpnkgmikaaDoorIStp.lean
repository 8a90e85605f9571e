/- A handle is reduced: the program. -/
import Derived.Test.YtckdhnpnkgmikaaDoorSStp
import Derived.Test.YtckdhnpnkgmikaaDoorLetters
namespace Go.Proofs.YtckdhnpnkgmikaaDoor
open Go.RowKit Go.ChangeShapes

theorem cloneI_any (a : Option Addr) (n cap : Nat) (xs : List Int) (w : World) (hr : Reads w a n xs) (hn : n ≤ 1048576) :
    Calls Tryd.prog 40 #[.slice a n cap] w (MadeInts w n xs) := by
  obtain ⟨i0, hi, hz0, hz1, hz2⟩ := info_parts infoInt
  cases a with
  | none =>
    have h0 : n = 0 ∧ xs = [] := by
      rcases hr.2 with h | ⟨b, off, ha, _⟩
      · have := hr.len; subst h; exact ⟨rfl, List.eq_nil_of_length_eq_zero this⟩
      · cases ha
    obtain ⟨rfl, rfl⟩ := h0
    clear hr
    have heq : ∀ W, Sem.run Tryd.prog (binOp BinOp.eql 22 (.slice none 0 cap) (.slice none 0 0)) W = .ok (.bool true) W := fun W => by kernel_rfl
    go_enter Tryd.func40, Tryd.ntmps40
    go_wp2
    go_ret
    exact ⟨_, _, rfl, Own.nil _ _, Below.refl _ _⟩
  | some ad =>
    have R := Lib.hid hr; clear hr
    have heq : ∀ W, Sem.run Tryd.prog (binOp BinOp.eql 22 (.slice (some ad) n cap) (.slice none 0 0)) W = .ok (.bool false) W := fun W => by kernel_rfl
    go_enter Tryd.func40, Tryd.ntmps40
    go_wp2_with (at_builtin; refine wpList_append_ints rfl _ _ 22 rfl w.heap.size i0 Tryd.underlying22 hi hz0 hz1 hz2 _ _ _ rfl (OwnV.empty w) _ _ _ xs rfl (R.out.alloc _) (by omega) (by simp) ?_)
    intro v' w1 ho hg
    have ho' : OwnV w.heap.size w1 v' n xs := by simpa using ho
    have HB := Lib.hid (below_appended5 (below1 w (.cells #[] 2)) (by simp) (OwnV.empty w) hg)
    clear ho hg
    obtain ⟨av, cv, rfl, ho2⟩ := ho'.form
    have HO := Lib.hid ho2; clear ho' ho2
    go_wp2
    go_ret
    exact ⟨_, _, rfl, HO.out, HB.out⟩

theorem index_idx (x : Int) (w : World) (h1 : -1000 < x) (h2 : x < 1000) :
    Calls Tryd.prog 67 #[.int .i64 x] w fun e w' => e = .returned (.int .i64 (idx x)) ∧ w = w' := by
  have := index_any x w h1 h2
  rw [show x * cnt x = idx x from idx_eq x] at this
  exact this

set_option maxRecDepth 100000 in
set_option maxHeartbeats 1000000 in
theorem reduced_any (a : Option Addr) (n cap : Nat) (xs : List Int) (p q : Nat) (w : World) (hr : Reads w a n xs) (hx : Lt8 xs) (hn : n ≤ 300000) (hcap : n ≤ cap) (hpq : p < q) (hqn : q < n) :
    Calls Tryd.prog 66 #[.slice a n cap, .agg #[.int .i64 p, .int .i64 q]] w (MadeInts w (stepL xs p q).length (stepL xs p q)) := by
  obtain ⟨i0, hi, hz0, hz1, hz2⟩ := info_parts infoInt
  have HL := Lib.hid hr.len
  have HX := Lib.hid hx; clear hx
  obtain ⟨b, off, rfl, hb, hc⟩ := hr.cells (by omega)
  have HR := Lib.hid hr; clear hr
  have HC := Lib.hid hc; clear hc
  have HCA : Hid (∀ W, Below w.heap.size w W → ∀ j, j < n → W.cell? ⟨b, off + j, none⟩ = some (.int .i64 (xs.getD j 0))) := Lib.hid fun W h j hj => (h.cell hb).trans (HC.out j hj)
  obtain ⟨y0, y1, y2⟩ := HX.out.at q (by rw [HL.out]; exact hqn)
  obtain ⟨y, hy⟩ : ∃ y, y = xs.getD q 0 := ⟨_, rfl⟩
  rw [← hy] at y0 y1 y2
  have HYE := Lib.hid hy; clear hy
  obtain ⟨ib1, ib2⟩ := idx_bd ⟨y0, y1, y2⟩
  have K1 : Hid (∀ W, Calls Tryd.prog 67 #[.int .i64 y] W fun e w' => e = .returned (.int .i64 (idx y)) ∧ W = w') := Lib.hid fun W => index_idx y W (by omega) (by omega)
  have hsy := sg_or y
  obtain ⟨i, hi2⟩ : ∃ i, i = idx y := ⟨_, rfl⟩
  rw [← hi2] at ib1 ib2 K1
  have K2 : Hid (∀ W, Calls Tryd.prog 73 #[.int .i64 y, .int .i64 (i + 1)] W fun e w' => e = .returned (.int .i64 ((i + 1) * sg y)) ∧ W = w') := Lib.hid fun W => withIndex_any y (i + 1) W (by omega) (by omega)
  have hob : -1000 < (i + 1) * sg y ∧ (i + 1) * sg y < 1000 ∧ idx ((i + 1) * sg y) = i + 1 := by
    rcases hsy with h | h <;> rw [h] <;> unfold idx <;> split <;> omega
  have HMF : Hid (∀ z, midf y z = if idx z = i + 1 then [(i + 1) * sg y, i * sg z, -((i + 1) * sg y)] else [z]) := Lib.hid (fun z => by unfold midf; rw [hi2])
  obtain ⟨o, ho⟩ : ∃ o, o = (i + 1) * sg y := ⟨_, rfl⟩
  rw [← ho] at K2 hob HMF
  obtain ⟨o1, o2, o3⟩ := hob
  have K3 : Hid (∀ W, Calls Tryd.prog 67 #[.int .i64 o] W fun e w' => e = .returned (.int .i64 (i + 1)) ∧ W = w') := Lib.hid fun W => by
    have := index_idx o W o1 o2
    rw [o3] at this
    exact this
  have K4 : Hid (∀ W, Calls Tryd.prog 71 #[.int .i64 o] W fun e w' => e = .returned (.int .i64 (-o)) ∧ W = w') := Lib.hid fun W => inverse_any o W o1 o2
  clear ho hi2 hsy o3
  have hpc : p ≤ cap := by omega
  have hpc1 : p + 1 < cap := by omega
  have hqc : q ≤ cap := by omega
  have hpq1 : p + 1 ≤ q := hpq
  have A0 := Lib.hid (At2.new w (.int .i64 (p : Int)) (.int .i64 (q : Int)) 80)
  have BB := Lib.hid (below1 w (.cells #[.int .i64 (p : Int), .int .i64 (q : Int)] 80))
  have h2 := HCA.out _ BB.out q hqn
  rw [← HYE.out] at h2
  go_enter Tryd.func66, Tryd.ntmps66
  go_wp2_with (first | (go_at_call 67; refine (K1.out _).mono ?_; rintro e w' ⟨rfl, rfl⟩) | (go_at_call 73; refine (K2.out _).mono ?_; rintro e w' ⟨rfl, rfl⟩))
  refine (cloneI_any _ _ _ (xs.take p) _ ((HR.out.take p (by omega)).below BB.out) (by omega)).mono ?_
  rintro e w1 ⟨oa, oc, rfl, ho, g1⟩
  have HV0 : Hid (OwnV (w.heap.size + 1) w1 (.slice oa p oc) p (xs.take p)) := Lib.hid (by have h := ho; simp at h; exact h)
  have BA : Hid (Below (w.heap.size + 1) (w.alloc (.cells #[.int .i64 (p : Int), .int .i64 (q : Int)] 80)) w1) := Lib.hid (by simpa using g1)
  replace A0 := Lib.hid (A0.out.below g1)
  replace BB := Lib.hid (below_go BB.out g1 BB.out.size)
  clear ho g1 h2
  have zz : w.heap.size + 1 ≤ w1.heap.size := by have := BA.out.size; simpa using this
  obtain ⟨q1, q2, q3, q4, q5⟩ := A0.out
  go_wp2
  clear q1 q2 q3 q4 q5
  go_loopw [7, 34] (fun v i wr => ∃ j : Nat, j ≤ q - (p + 1) ∧ i = .int .i64 (j : Int) ∧ (∃ m, OwnV (w.heap.size + 1) wr v m (xs.take p ++ midL xs p y j)) ∧ Below (w.heap.size + 1) w1 wr) (fun _ i _ => q - (intOf i).toNat)
  case atStart => exact ⟨0, Nat.zero_le _, rfl, ⟨p, by rw [midL_zero, List.append_nil]; exact HV0.out⟩, Below.refl _ _⟩
  case round =>
    obtain ⟨j, hj, rfl, ⟨m, ho⟩, bb⟩ := hrel
    clear HV0
    have hA := A0.out.heap bb.size (bb.block _ (by omega))
    have BW := Lib.hid (BB.out.trans (bb.mono (by omega)))
    have B1 := Lib.hid bb; clear bb
    obtain ⟨av, cv, rfl, _⟩ := ho.form
    have HO := Lib.hid ho; clear ho
    have hml : m ≤ p + 3 * j := by have h1 := HO.out.len; have h2 := midL_len xs p y j; simp at h1; have := HL.out; omega
    have hzs : w.heap.size + 1 ≤ wr.heap.size := by have := B1.out.size; omega
    obtain ⟨q1, q2, q3, q4, q5⟩ := hA
    by_cases hlt : j < q - (p + 1)
    · have hlt3 : (j : Int) < ((q - (p + 1) : Nat) : Int) := by omega
      have h1 := HCA.out _ BW.out (p + 1 + j) (by omega)
      obtain ⟨z0, z1, z2⟩ := HX.out.at (p + 1 + j) (by rw [HL.out]; omega)
      have hst := midL_succ xs p y j (by rw [HL.out]; omega)
      obtain ⟨z, hz⟩ : ∃ z, z = xs.getD (p + 1 + j) 0 := ⟨_, rfl⟩
      rw [← hz, show off + (p + 1 + j) = off + (p + 1) + j by omega] at h1
      rw [← hz] at z0 z1 z2 hst
      clear hz
      have ST := Lib.hid hst; clear hst
      have K6 : Hid (∀ W, Calls Tryd.prog 67 #[.int .i64 z] W fun e w' => e = .returned (.int .i64 (idx z)) ∧ W = w') := Lib.hid fun W => index_idx z W (by omega) (by omega)
      have K7 : Hid (∀ W, Calls Tryd.prog 73 #[.int .i64 z, .int .i64 i] W fun e w' => e = .returned (.int .i64 (i * sg z)) ∧ W = w') := Lib.hid fun W => withIndex_any z i W (by omega) (by omega)
      by_cases hzi : idx z = i + 1
      · have e1 : (idx z == i + 1) = true := by simp [hzi]
        go_wp2_with (first
          | (go_at_call 67; refine (K6.out _).mono ?_; rintro e w' ⟨rfl, rfl⟩)
          | (go_at_call 67; refine (K3.out _).mono ?_; rintro e w' ⟨rfl, rfl⟩)
          | (go_at_call 67; refine (K1.out _).mono ?_; rintro e w' ⟨rfl, rfl⟩)
          | (go_at_call 73; refine (K7.out _).mono ?_; rintro e w' ⟨rfl, rfl⟩)
          | (go_at_call 71; refine (K4.out _).mono ?_; rintro e w' ⟨rfl, rfl⟩)
          | (at_builtin; refine wpList_append_ints rfl _ _ 22 rfl (w.heap.size + 1) i0 Tryd.underlying22 hi hz0 hz1 hz2 _ _ _ rfl (HO.out.alloc _) _ _ _ _ rfl (reads_lit3 _ _ _ _) (by omega) (by simp; omega) ?_))
        intro v' w2 ho' hg
        have hb2 := below_appended (Below.refl _ _) hzs HO.out hg
        have HB' := Lib.hid (below_appended B1.out hzs HO.out hg)
        have HO' := Lib.hid ho'; clear ho' hg
        clear q1 q2 q3 q4 q5 h1
        go_wp2
        go_roundw
        case rel =>
          refine ⟨j + 1, by omega, by go_num, ⟨m + 3, ?_⟩, HB'.out⟩
          rw [ST.out, HMF.out, if_pos hzi, ← List.append_assoc]
          have := HO'.out
          simpa using this
        case measure => simp [intOf]; omega
      · have e1 : (idx z == i + 1) = false := by simp [hzi]
        go_wp2_with (first
          | (go_at_call 67; refine (K6.out _).mono ?_; rintro e w' ⟨rfl, rfl⟩)
          | (go_at_call 67; refine (K3.out _).mono ?_; rintro e w' ⟨rfl, rfl⟩)
          | (at_builtin; refine wpList_append_ints rfl _ _ 22 rfl (w.heap.size + 1) i0 Tryd.underlying22 hi hz0 hz1 hz2 _ _ _ rfl (HO.out.alloc _) _ _ _ _ rfl (reads_lit1 _ _) (by omega) (by simp; omega) ?_))
        intro v' w2 ho' hg
        have HB' := Lib.hid (below_appended B1.out hzs HO.out hg)
        have HO' := Lib.hid ho'; clear ho' hg
        clear q1 q2 q3 q4 q5 h1
        go_wp2
        go_roundw
        case rel =>
          refine ⟨j + 1, by omega, by go_num, ⟨m + 1, ?_⟩, HB'.out⟩
          rw [ST.out, HMF.out, if_neg hzi, ← List.append_assoc]
          have := HO'.out
          simpa using this
        case measure => simp [intOf]; omega
    · have hjq : j = q - p - 1 := by omega
      have HJ := Lib.hid hjq; clear hjq
      have hlt2 : ¬ (j : Int) < ((q - (p + 1) : Nat) : Int) := by omega
      have FIN : Hid (stepL xs p q = xs.take p ++ midL xs p y j ++ xs.drop (q + 1)) := Lib.hid (by unfold stepL; rw [← HYE.out, HJ.out])
      have hlen : (stepL xs p q).length = m + (n - (q + 1)) := by
        have h1 := HO.out.len
        rw [FIN.out, List.length_append, h1, List.length_drop, HL.out]
      have HLEN := Lib.hid hlen; clear hlen
      by_cases hce : cap = q + 1
      · have hnq : n = q + 1 := by omega
        subst hce
        have RD : Hid (Reads wr (some ⟨b, off, none⟩) 0 []) := Lib.hid (Reads.zero rfl)
        have FIN2 : Hid (stepL xs p q = xs.take p ++ midL xs p y j) := Lib.hid (by rw [FIN.out, List.drop_eq_nil_of_le (by rw [HL.out]; omega), List.append_nil])
        have HLEN2 : Hid ((stepL xs p q).length = m) := Lib.hid (by rw [HLEN.out]; omega)
        clear hnq
        go_wp2_with (at_builtin; refine wpList_append_ints rfl _ _ 22 rfl (w.heap.size + 1) i0 Tryd.underlying22 hi hz0 hz1 hz2 _ _ _ rfl HO.out _ _ _ [] rfl RD.out (by omega) hzs ?_)
        intro v' w2 ho' hg
        have HB' := Lib.hid (below_appended5 B1.out hzs HO.out hg)
        obtain ⟨av', cv', rfl, ho2⟩ := ho'.form
        have HO' := Lib.hid ho2; clear ho' hg ho2
        go_wp2
        go_ret
        rw [HLEN2.out, FIN2.out]
        exact ⟨_, _, rfl, by simpa using HO'.out.mono (by omega), BB.out.trans (HB'.out.mono (by omega))⟩
      · have hce2 : q + 1 < cap := by omega
        have RD : Hid (Reads wr (some ⟨b, off + (q + 1), none⟩) (n - (q + 1)) (xs.drop (q + 1))) := Lib.hid ⟨by simp [HL.out], .inr ⟨b, off + (q + 1), rfl, fun t ht => by
          have := HCA.out _ BW.out (q + 1 + t) (by omega)
          rw [show off + (q + 1) + t = off + (q + 1 + t) by omega, this]
          simp [List.getD, List.getElem?_drop]⟩⟩
        go_wp2_with (at_builtin; refine wpList_append_ints rfl _ _ 22 rfl (w.heap.size + 1) i0 Tryd.underlying22 hi hz0 hz1 hz2 _ _ _ rfl HO.out _ _ _ (xs.drop (q + 1)) rfl RD.out (by omega) hzs ?_)
        intro v' w2 ho' hg
        have HB' := Lib.hid (below_appended5 B1.out hzs HO.out hg)
        obtain ⟨av', cv', rfl, ho2⟩ := ho'.form
        have HO' := Lib.hid ho2; clear ho' hg ho2
        go_wp2
        go_ret
        rw [HLEN.out, FIN.out, List.append_assoc]
        exact ⟨_, _, rfl, by simpa using HO'.out.mono (by omega), BB.out.trans (HB'.out.mono (by omega))⟩

end Go.Proofs.YtckdhnpnkgmikaaDoor
