/- Full turns taken again and again: the model. -/
import Derived.Test.YtckdhnpnkgmikaaDoorPwd
import Derived.Test.YtckdhnpnkgmikaaDoorKit12
import Derived.Test.YtckdhnpnkgmikaaDoorInverse
namespace Go.Proofs.YtckdhnpnkgmikaaDoor
open Go.RowKit Go.ChangeShapes

/-- The letters of the full turn of q + 1 strands. -/
def fullQ (q : Nat) : List Int := halfFrom q ++ halfFrom q

theorem fullQ_len (q : Nat) (h : q ≤ 7) : (fullQ q).length ≤ 56 := by
  have := halfFrom_len q h
  simp [fullQ]
  omega

theorem Own.sep {B : Nat} {w : World} {a : Option Addr} {n cap : Nat} {xs : List Int} (h : Own B w a n cap xs) (g : Nat) (hg : g < B) (v : Value) (hv : v.ownBlock = some g) : Sep w v a := by
  intro x hx
  have := h.lo x hx
  refine ⟨this.2, fun e => ?_⟩
  rw [hv] at e
  simp only [Option.some.injEq] at e
  omega

set_option maxHeartbeats 2000000 in
theorem l06Turns_any (n : Int) (q : Nat) (m : Int) (w : World) (hn : n = (q : Int) + 1) (hq : q ≤ 7) (hsm : Small (fullQ q)) (hm : m.natAbs ≤ 7) :
    Calls Tryd.prog 46 #[.int .i64 n, .int .i64 m] w (MadeInts w (pwd (fullQ q) m).length (pwd (fullQ q) m)) := by
  obtain ⟨i0, hi, hz0, hz1, hz2⟩ := info_parts infoInt
  have HN := Lib.hid hn; clear hn
  have HSM := Lib.hid hsm; clear hsm
  have hlq := halfFrom_len q hq
  have HFQ := Lib.hid (fullQ_len q hq)
  obtain ⟨lq, hlqe⟩ : ∃ l, l = (halfFrom q).length := ⟨_, rfl⟩
  rw [← hlqe] at hlq
  have HLQ := Lib.hid hlqe; clear hlqe
  have BB := Lib.hid (below1 w (.cells #[] 2))
  go_enter Tryd.func46, Tryd.ntmps46
  go_wp2_with fail
  refine (l01Half_any _ q _ HN.out hq).mono ?_
  rintro e w1 ⟨a1, c1, rfl, ho, hb⟩
  rw [← HLQ.out] at ho ⊢
  have O1 : Hid (OwnV (w.heap.size + 1) w1 (.slice a1 lq c1) lq (halfFrom q)) := Lib.hid (by have h := ho; simp at h; exact h)
  have B1 : Hid (Below (w.heap.size + 1) (w.alloc (.cells #[] 2)) w1) := Lib.hid (by simpa using hb)
  replace BB := Lib.hid (below_go BB.out hb BB.out.size)
  have z1 : w.heap.size + 1 ≤ w1.heap.size := by have := hb.size; simpa using this
  clear ho hb
  go_wp2_with fail
  refine (l01Half_any _ q _ HN.out hq).mono ?_
  rintro e w2 ⟨a2, c2, rfl, ho, hb⟩
  rw [← HLQ.out] at ho ⊢
  have O2 := Lib.hid ho
  replace O1 : Hid (OwnV (w.heap.size + 1) w2 (.slice a1 lq c1) lq (halfFrom q)) := Lib.hid (Own.below O1.out hb)
  replace B1 := Lib.hid (below_go B1.out hb (by omega))
  replace BB := Lib.hid (below_go BB.out hb BB.out.size)
  have z2 : w.heap.size + 1 ≤ w2.heap.size := by have := hb.size; omega
  clear ho hb
  go_wp2_with (at_builtin; refine wpList_append_ints rfl _ _ 22 rfl (w.heap.size + 1) i0 Tryd.underlying22 hi hz0 hz1 hz2 (.slice a1 lq c1) lq (halfFrom q) rfl O1.out a2 lq c2 (halfFrom q) rfl O2.out.reads (by omega) z2 ?_)
  intro v3 w3 ho hg
  have b3 := below_appended5 (Below.refl (w.heap.size + 1) w2) z2 O1.out hg
  replace B1 := Lib.hid (below_appended5 B1.out z2 O1.out hg)
  replace BB := Lib.hid (BB.out.trans (b3.mono (by omega)))
  obtain ⟨a3, c3, rfl, ho3⟩ := ho.form
  have O3 : Hid (Own (w.heap.size + 1) w3 a3 (lq + lq) c3 (fullQ q)) := Lib.hid ho3
  have z3 : w.heap.size + 1 ≤ w3.heap.size := by have := b3.size; omega
  have E0 : Hid (OwnV w.heap.size w3 (.slice (some ⟨w.heap.size, 0, none⟩) 0 0) 0 []) := Lib.hid (by
    have h : OwnV w.heap.size (w.alloc (.cells #[] 2)) (.slice (some ⟨w.heap.size, 0, none⟩) 0 0) 0 [] := OwnV.empty w
    exact Own.heap h (fun k hk => B1.out.block k (by simpa using hk)))
  clear ho hg ho3 b3 O1 O2
  have OL : Hid ((fullQ q).length = lq + lq) := Lib.hid (by simp [fullQ, HLQ.out])
  by_cases hneg : m < 0
  · have HP0 : Hid (pwd (fullQ q) m = rep m.natAbs (inverse (fullQ q))) := Lib.hid (by unfold pwd; rw [if_pos hneg])
    obtain ⟨k, hk⟩ : ∃ k : Nat, m = -(k : Int) := ⟨m.natAbs, by omega⟩
    subst hk
    rw [Int.natAbs_neg, Int.natAbs_natCast] at HP0 hm
    have HP := HP0; clear HP0
    have hk7 : k ≤ 7 := hm
    have hmax : ¬ (-(k : Int)) < -(-(k : Int)) ∨ (-(k : Int)) < -(-(k : Int)) := by omega
    have hmx : (if -(k : Int) < (k : Int) then (k : Int) else -(k : Int)) = (k : Int) := by split <;> omega
    have hlt0 : -(k : Int) < (k : Int) := by omega
    clear hmax
    go_wp2_with fail
    refine (l01Inverse_any _ _ _ _ _ O3.out.reads HSM.out (by omega)).mono ?_
    rintro e w4 ⟨sa, sc, rfl, ho, hb⟩
    have SO : Hid (Own (w.heap.size + 1) w4 sa (lq + lq) sc (inverse (fullQ q))) := Lib.hid (ho.mono z3)
    replace E0 := Lib.hid (Own.below E0.out hb)
    replace BB := Lib.hid (below_go BB.out hb BB.out.size)
    have z5 : w.heap.size + 1 ≤ w4.heap.size := by have := hb.size; omega
    clear ho hb O3
    have OLI : Hid ((inverse (fullQ q)).length = lq + lq) := Lib.hid (by rw [inverse_length, OL.out])
    have z4 : w.heap.size ≤ w4.heap.size := by omega
    go_wp2
    go_loopw [5, 7] (fun v i wr => ∃ j : Nat, j ≤ k ∧ i = .int .i64 ((k : Int) - j) ∧ (∃ l, OwnV w.heap.size wr v l (rep j (inverse (fullQ q)))) ∧ Sep wr v sa ∧ Reads wr sa (lq + lq) (inverse (fullQ q)) ∧ Below w.heap.size w wr) (fun _ i _ => (intOf i).toNat)
    case atStart => exact ⟨0, Nat.zero_le _, by go_num, ⟨0, E0.out⟩, (SO.out.sep w.heap.size (by omega) _ rfl), SO.out.reads, BB.out⟩
    case round =>
      obtain ⟨j, hj, rfl, ⟨l, ho⟩, hs, hr, bb⟩ := hrel
      clear BB E0
      have BB := Lib.hid bb
      obtain ⟨av, cv, rfl, _⟩ := ho.form
      have hll : l ≤ 400 := by
        have h1 := ho.len
        rw [rep_len, OLI.out] at h1
        have h2 := Nat.mul_le_mul_right (lq + lq) hj
        have h3 := Nat.mul_le_mul_right (lq + lq) hk7
        omega
      have hz : w.heap.size ≤ wr.heap.size := bb.size
      have HO := Lib.hid ho
      have HS := Lib.hid hs
      have R := Lib.hid hr
      clear ho hs hr bb
      by_cases hlt : j < k
      · have j0 : 0 < (k : Int) - j := by omega
        go_wp2_with (at_builtin; refine wpList_append_ints_at rfl _ _ 22 rfl w.heap.size i0 Tryd.underlying22 hi hz0 hz1 hz2 _ l (rep j (inverse (fullQ q))) rfl HO.out _ (lq + lq) _ (inverse (fullQ q)) rfl R.out (by omega) hz ?_)
        intro v' w5 ho' hg hv
        have HB' := Lib.hid (below_appended5 BB.out hz HO.out hg)
        have HS' := Lib.hid (HS.out.grown hg hv)
        have HR' := Lib.hid (R.out.sep HS.out hg)
        have HO' := Lib.hid ho'; clear ho' hg hv
        go_wp2
        go_roundw
        case rel => exact ⟨j + 1, by omega, by go_num, ⟨l + (lq + lq), by rw [rep_succ]; exact HO'.out⟩, HS'.out, HR'.out, HB'.out⟩
        case measure => simp [intOf]; omega
      · have j0 : ¬ 0 < (k : Int) - j := by omega
        have hjk : j = k := by omega
        have HJ := Lib.hid hjk; clear hjk
        go_wp2
        go_ret
        have hl := HO.out.len
        rw [HJ.out] at hl
        rw [HP.out, hl]
        have ho := HO.out
        rw [HJ.out] at ho
        exact ⟨_, _, rfl, ho, BB.out⟩
  · have HP0 : Hid (pwd (fullQ q) m = rep m.natAbs (fullQ q)) := Lib.hid (by unfold pwd; rw [if_neg hneg])
    obtain ⟨k, hk⟩ : ∃ k : Nat, m = (k : Int) := ⟨m.natAbs, by omega⟩
    subst hk
    rw [Int.natAbs_natCast] at HP0 hm
    have HP := HP0; clear HP0
    have hk7 : k ≤ 7 := hm
    have hlt0 : ¬ (k : Int) < -(k : Int) := by omega
    have SO := O3
    clear O3
    have z4 : w.heap.size ≤ w3.heap.size := by omega
    go_wp2
    go_loopw [5, 7] (fun v i wr => ∃ j : Nat, j ≤ k ∧ i = .int .i64 ((k : Int) - j) ∧ (∃ l, OwnV w.heap.size wr v l (rep j (fullQ q))) ∧ Sep wr v a3 ∧ Reads wr a3 (lq + lq) (fullQ q) ∧ Below w.heap.size w wr) (fun _ i _ => (intOf i).toNat)
    case atStart => exact ⟨0, Nat.zero_le _, by go_num, ⟨0, E0.out⟩, (SO.out.sep w.heap.size (by omega) _ rfl), SO.out.reads, BB.out⟩
    case round =>
      obtain ⟨j, hj, rfl, ⟨l, ho⟩, hs, hr, bb⟩ := hrel
      clear BB E0
      have BB := Lib.hid bb
      obtain ⟨av, cv, rfl, _⟩ := ho.form
      have hll : l ≤ 400 := by
        have h1 := ho.len
        rw [rep_len, OL.out] at h1
        have h2 := Nat.mul_le_mul_right (lq + lq) hj
        have h3 := Nat.mul_le_mul_right (lq + lq) hk7
        omega
      have hz : w.heap.size ≤ wr.heap.size := bb.size
      have HO := Lib.hid ho
      have HS := Lib.hid hs
      have R := Lib.hid hr
      clear ho hs hr bb
      by_cases hlt : j < k
      · have j0 : 0 < (k : Int) - j := by omega
        go_wp2_with (at_builtin; refine wpList_append_ints_at rfl _ _ 22 rfl w.heap.size i0 Tryd.underlying22 hi hz0 hz1 hz2 _ l (rep j (fullQ q)) rfl HO.out _ (lq + lq) _ (fullQ q) rfl R.out (by omega) hz ?_)
        intro v' w5 ho' hg hv
        have HB' := Lib.hid (below_appended5 BB.out hz HO.out hg)
        have HS' := Lib.hid (HS.out.grown hg hv)
        have HR' := Lib.hid (R.out.sep HS.out hg)
        have HO' := Lib.hid ho'; clear ho' hg hv
        go_wp2
        go_roundw
        case rel => exact ⟨j + 1, by omega, by go_num, ⟨l + (lq + lq), by rw [rep_succ]; exact HO'.out⟩, HS'.out, HR'.out, HB'.out⟩
        case measure => simp [intOf]; omega
      · have j0 : ¬ 0 < (k : Int) - j := by omega
        have hjk : j = k := by omega
        have HJ := Lib.hid hjk; clear hjk
        go_wp2
        go_ret
        have hl := HO.out.len
        rw [HJ.out] at hl
        rw [HP.out, hl]
        have ho := HO.out
        rw [HJ.out] at ho
        exact ⟨_, _, rfl, ho, BB.out⟩

end Go.Proofs.YtckdhnpnkgmikaaDoor
