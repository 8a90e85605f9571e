/- Free words are joined: the program. -/
import Derived.Test.YtehcbamfendbaaaSeJnP
import Derived.Deep.RegionLawGrows
import Derived.Deep.RegionLaw
import Derived.Great.Walk
import Derived.RangeFuncBox
namespace Go.Proofs.Ytehcbamfendbaaa
open Go.RowKit Go.ChangeShapes Go.Great

theorem run_append_zero {P : Program} (w : World) (t ty e : TypeId) (i : TypeInfo) (ht : P.underlying t = some (.slice e)) (hi : P.info? e = some i) (ao xo : Option Addr) (n cap c : Nat) (hn : n ≤ cap) :
  (Builtin.append_ #[t, t] ty #[.slice ao n cap, .slice xo 0 c]).run P w = .ok (.slice ao n cap) w := by
 cases ao <;> cases xo <;> simp [Builtin.append_, run_underlying ht, sizeOf, typeInfo, hi, Builtin.lenOf, Builtin.firstCells, hn, loadCells, loadCellsFrom, storeCells]

theorem step_append_run {P : Program} {ops : Array Oper} {o : Oper} {a : Act} {w : World} {K : Act → World → Prop} {Q : Exit → Act → World → Prop} {E : Prop}
  (hg : o.guard = none) (d x : Operand) (dT sT : TypeId) (hop : o.op = Op.call { callee := Callee.builtin Builtin.append, args := #[d, x], argTypes := #[dT, sT] })
  (v u : Value) (hd : a.eval d = v) (hx : a.eval x = u) {v' : Value} {w' : World} (hr : (Builtin.append_ #[dT, sT] o.type #[v, u]).run P w = .ok v' w') (hK : K (a.put o.dst v') w') :
  if Region.wanted o (yielded ops a.tmps) = true then Oper.wp P o a w K Q else E := by
 have hw : Region.wanted o (yielded ops a.tmps) = true := by simp [Region.wanted, hg]
 rw [if_pos hw]
 unfold Oper.wp
 simp [execOp, hop, resolve, invoke, builtin, hd, hx, hr, Result.andThen]
 exact hK

theorem ints_at (xs : List Int) (j : Nat) (h : j < xs.length) : (ints xs)[j]? = some (.int .i64 (xs.getD j 0)) := by simp [ints, List.getD, h]

set_option maxRecDepth 100000 in
set_option maxHeartbeats 2000000 in
theorem joinedFree_any (B : Nat) (a : Option Addr) (n ca : Nat) (f : List Int) (b : Option Addr) (m cb : Nat) (own : List Int) (w : World) (hf : OwnP B w a n f) (hca : n ≤ ca) (hnil : a = none → n = 0 ∧ ca = 0) (hbn : b = none → cb = 0) (hr : Reads w b m own) (hcb : m ≤ cb) (hc63 : cb ≤ 9223372036854775807) (hc64 : ca ≤ 9223372036854775807) (hn : n ≤ 1000) (hm : m ≤ 1000) (hB : B ≤ w.heap.size) (hro : Red own) (hso : Small own) :
  Calls Try.prog 140 #[.slice a n ca, .slice b m cb] w fun e w' => ∃ a' n' c', e = .returned (.slice a' n' c') ∧ OwnP B w' a' n' (joinF f own) ∧ n' ≤ c' ∧ c' ≤ 9223372036854775807 ∧ (a' = none → n' = 0 ∧ c' = 0) ∧ Below w.heap.size w w' ∧ ((a' = a ∧ n' ≤ n) ∨ ∀ ad, a' = some ad → w.heap.size ≤ ad.block) := by
 obtain ⟨i0, hi, hz0, hz1, hz2⟩ := info_parts infoInt
 have HFP := Lib.hid hf
 have HFR := Lib.hid hf.reads
 have HOR := Lib.hid hr
 have HFL := Lib.hid hf.1; have HOL := Lib.hid hr.len
 have HRO := Lib.hid hro; have HSO := Lib.hid hso; have HNIL := Lib.hid hnil; have HBN := Lib.hid hbn
 clear hf hr hro hso hnil hbn
 go_enter Try.func140, Try.ntmps140
 go_wp2
 go_loopw [5] (fun cv wr => ∃ c : Nat, c ≤ n ∧ c ≤ m ∧ cv = .int .i64 c ∧ (∀ i, i < c → f.getD (f.length - 1 - i) 0 = -own.getD i 0) ∧ Below w.heap.size w wr) (fun cv _ => n - (intOf cv).toNat)
 case atStart => exact ⟨0, Nat.zero_le _, Nat.zero_le _, rfl, fun i hi => absurd hi (Nat.not_lt_zero _), Below.refl _ _⟩
 case round =>
  obtain ⟨c, hcn, hcm, rfl, hall, hbl⟩ := hrel
  have E5 : IntKind.i64.wrap ((n : Int) - (c : Int)) = ((n - c : Nat) : Int) := (IntWalk.i64_in _ (by omega)).trans (by omega)
  have HALL := Lib.hid hall; have HB := Lib.hid hbl
  clear hall hbl
  by_cases hlt : c < n ∧ c < m
  ·obtain ⟨l1, l2⟩ := hlt
   obtain ⟨ga, oa, rfl, hga, hca1⟩ := HFR.out.cells (by omega)
   obtain ⟨gb, ob, rfl, hgb, hcb1⟩ := HOR.out.cells (by omega)
   obtain ⟨e, he⟩ : ∃ e : Nat, e = n - 1 - c := ⟨_, rfl⟩
   have E1 : IntKind.i64.wrap ((n : Int) - 1) = (n : Int) - 1 := IntWalk.i64_in _ (by omega)
   have E2 : IntKind.i64.wrap ((n : Int) - 1 - (c : Int)) = (e : Int) := (IntWalk.i64_in _ (by omega)).trans (by omega)
   have E4 : IntKind.i64.wrap ((c : Int) + 1) = (c : Int) + 1 := IntWalk.i64_in _ (by omega)
   obtain ⟨u, hu⟩ : ∃ u, u = f.getD e 0 := ⟨_, rfl⟩
   obtain ⟨v, hv⟩ : ∃ v, v = own.getD c 0 := ⟨_, rfl⟩
   have c1 : wr.cell? ⟨ga, oa + e, none⟩ = some (.int .i64 u) := by rw [hu]; exact (HB.out.cell (by exact hga)).trans (hca1 e (by omega))
   have c2 : wr.cell? ⟨gb, ob + c, none⟩ = some (.int .i64 v) := by rw [hv]; exact (HB.out.cell (by exact hgb)).trans (hcb1 c l2)
   obtain ⟨v1, v2⟩ : -1000 < v ∧ v < 1000 := by rw [hv]; exact HSO.out _ (getD_mem own c (by rw [HOL.out]; exact l2))
   have E3 : IntKind.i64.wrap (-v) = -v := IntWalk.i64_in _ (by omega)
   have e0 : (0 : Int) ≤ (e : Int) := by omega
   have e1 : (e : Int) < (n : Int) := by omega
   have k0 : (0 : Int) ≤ (c : Int) := by omega
   have k1 : (c : Int) < (m : Int) := by omega
   have td : decide ((c : Int) < min (n : Int) (m : Int)) = true := decide_eq_true (by omega)
   have hcmp : (f.getD (f.length - 1 - c) 0 = -own.getD c 0) ↔ u = -v := by rw [HFL.out, ← he, ← hu, ← hv]
   have HCMP := Lib.hid hcmp
   clear hu hv he hca1 hcb1 hcmp
   by_cases huv : u = -v
   ·have t5 : (u == -v) = true := by simp [huv]
    have HUV := Lib.hid (HCMP.out.2 huv); clear huv
    go_wp2
    go_quiet (fail)
    have hb1 := below_draws w.heap.size wr nq
    obtain ⟨wq, hwq⟩ : ∃ wq, wq = wr.drewN nq := ⟨_, rfl⟩
    rw [← hwq] at hb1 ⊢
    have HB2 := Lib.hid (HB.out.trans hb1)
    clear hwq hb1 td
    go_wp2
    go_roundw
    case rel => exact ⟨c + 1, by omega, by omega, by go_num, (fun i hi => by
     by_cases e : i = c
     ·rw [e]; exact HUV.out
     ·exact HALL.out i (by omega)), HB2.out⟩
    case measure => simp [intOf]; omega
   ·have t5 : (u == -v) = false := by simp [huv]
    have HEND : Hid (c = f.length ∨ c = own.length ∨ f.getD (f.length - 1 - c) 0 ≠ -own.getD c 0) := Lib.hid (.inr (.inr fun h => huv (HCMP.out.1 h)))
    clear huv HCMP
    have HJ : Hid (joinF f own = f.take (n - c) ++ own.drop c) := Lib.hid (by
     have h := join_done f own c HRO.out (by rw [HFL.out]; exact hcn) (by rw [HOL.out]; exact hcm) HALL.out HEND.out
     rwa [HFL.out] at h)
    go_wp2
    go_quiet (fail)
    have hb1 := below_draws w.heap.size wr nq
    obtain ⟨wq, hwq⟩ : ∃ wq, wq = wr.drewN nq := ⟨_, rfl⟩
    rw [← hwq] at hb1 ⊢
    have HB2 := Lib.hid (HB.out.trans hb1)
    clear hwq hb1 td
    obtain ⟨kp, hkp⟩ : ∃ kp, kp = n - c := ⟨_, rfl⟩
    rw [← hkp] at HJ E5
    have hkn : kp ≤ n := by omega
    have hka : (kp : Int) ≤ (ca : Int) := by omega
    have hk0 : (0 : Int) ≤ (kp : Int) := by omega
    have hkk : (kp : Int) ≤ (kp : Int) := by omega
    have hc0 : (0 : Int) ≤ (c : Int) := by omega
    have hcc : (c : Int) ≤ (m : Int) := by omega
    have HKP := Lib.hid hkp; clear hkp
    have HFQ := Lib.hid ((HFP.out.below HB2.out).front kp hkn)
    have mixed : Try.prog.follows Departure.mixedOrders = true := by kernel_rfl
    obtain ⟨_, _, hcb1q⟩ : True ∧ True ∧ True := ⟨trivial, trivial, trivial⟩
    have hcb1 : ∀ j, j < m → w.cell? ⟨gb, ob + j, none⟩ = some (.int .i64 (own.getD j 0)) := by
     obtain ⟨g1, o1, hg1, hg2, hg3⟩ := HOR.out.cells (by omega)
     cases hg1
     exact hg3
    have hcb2 : ¬ (cb = c) := by omega
    have hol : (ints (own.drop c)).length = (m - c) * 1 := by simp [ints, HOL.out]
    have hfl : (ints (f.take kp)).length = kp * 1 := by simp [ints, HFL.out]; omega
    have hnews : ∀ j u, (ints (own.drop c))[j]? = some u → wq.drew.cell? ((⟨gb, ob + c, none⟩ : Addr).add j) = some u := fun j u hj => by
     rw [Addr.add_lit]
     have hjl : j < m - c := by have := (List.getElem?_eq_some_iff.1 hj).1; rw [hol] at this; omega
     have h1 := (HB2.out.cell (by exact hgb)).trans (hcb1 (c + j) (by omega))
     rw [Nat.add_assoc]
     rw [ints_at _ _ (by rw [List.length_drop, HOL.out]; omega)] at hj
     refine (show wq.drew.cell? _ = wq.cell? _ from rfl).trans (h1.trans ?_)
     rw [← hj]
     simp [List.getD, List.getElem?_drop]
    have holds : ∀ b', some (⟨ga, oa, none⟩ : Addr) = some b' → ∀ j u, (ints (f.take kp))[j]? = some u → wq.drew.cell? (b'.add j) = some u := fun b' hb' j u hj => by
     have hjl : j < kp := by have := (List.getElem?_eq_some_iff.1 hj).1; rw [hfl] at this; omega
     obtain ⟨g1, o1, hg1, hg2, hg3⟩ := HFQ.out.reads.cells (by omega)
     rw [hb'] at hg1
     cases hg1
     rw [Addr.add_lit]
     rw [ints_at _ _ (by rw [List.length_take, HFL.out]; omega)] at hj
     refine (show wq.drew.cell? _ = wq.cell? _ from rfl).trans ((hg3 j hjl).trans ?_)
     rw [← hj]
    have HNW := Lib.hid hnews; have HLD := Lib.hid holds
    clear hnews holds
    go_wp2
    go_region_law_o (refine step_append_grows rfl _ _ 22 rfl 2 i0 (.int .i64 0) 1 8 Try.underlying22 hi hz0 hz1 hz2 rfl (by decide) (some ⟨ga, oa, none⟩) kp kp (ints (f.take kp)) (by simp [Act.eval, Act.put]) (fun h => by have := (HNIL.out h).1; omega) hfl HLD.out ⟨gb, ob + c, none⟩ (m - c) (cb - c) (ints (own.drop c)) (by simp [Act.eval, Act.put]) hol HNW.out (ints_cells _) (by omega) (by unfold maxLen; omega) (by omega) ?_; intro v9 w9 hown9 hgrow9)
    have hzq : w.heap.size ≤ wq.drew.heap.size := HB2.out.size
    have hB9 : Below w.heap.size w w9 := HB2.out.drew.grown hgrow9 hzq (fun j ej => by cases ej)
    have hI : ints (f.take kp) ++ ints (own.drop c) = ints (joinF f own) := by rw [HJ.out]; simp [ints]
    rw [hI] at hown9
    obtain ⟨a9, c9, rfl, ho9⟩ := OwnV.form hown9
    have HP9 := Lib.hid (ho9.mono (B' := B) (by omega)).ownP
    have HC9 : Hid (kp + (m - c) ≤ c9 ∧ c9 ≤ 9223372036854775807) := Lib.hid (by
     rcases hown9.2 with ⟨hv, h0⟩ | ⟨g, cc, cur, hv, _, _, q1, q2, _⟩
     ·omega
     ·simp only [Value.slice.injEq] at hv
      unfold maxLen at q2
      omega)
    have HN9 : Hid (a9 = none → kp + (m - c) = 0 ∧ c9 = 0) := Lib.hid (fun h => by
     rcases hown9.2 with ⟨hv, h0⟩ | ⟨g, cc, cur, hv, _⟩
     ·simp only [Value.slice.injEq] at hv
      exact ⟨h0, hv.2.2⟩
     ·simp only [Value.slice.injEq] at hv
      rw [h] at hv
      cases hv.1)
    have HF9 : Hid (∀ ad, a9 = some ad → w.heap.size ≤ ad.block) := Lib.hid (fun ad h => by
     rcases hown9.2 with ⟨hv, h0⟩ | ⟨g, cc, cur, hv, hge, _⟩
     ·simp only [Value.slice.injEq] at hv
      rw [h] at hv
      cases hv.1
     ·simp only [Value.slice.injEq] at hv
      rw [h] at hv
      obtain ⟨hv, _⟩ := hv
      cases hv
      exact Nat.le_trans hzq hge)
    have HB9 := Lib.hid hB9
    clear hown9 hgrow9 hI hB9 ho9
    go_wp2
    go_ret
    exact ⟨a9, _, c9, rfl, HP9.out, HC9.out.1, HC9.out.2, HN9.out, HB9.out, .inr HF9.out⟩
  ·have td : decide ((c : Int) < min (n : Int) (m : Int)) = false := decide_eq_false (by omega)
   have HEND : Hid (c = f.length ∨ c = own.length ∨ f.getD (f.length - 1 - c) 0 ≠ -own.getD c 0) := Lib.hid (by rw [HFL.out, HOL.out]; omega)
   clear hlt
   have HJ : Hid (joinF f own = f.take (n - c) ++ own.drop c) := Lib.hid (by
    have h := join_done f own c HRO.out (by rw [HFL.out]; exact hcn) (by rw [HOL.out]; exact hcm) HALL.out HEND.out
    rwa [HFL.out] at h)
   go_wp2
   go_quiet (fail)
   have hb1 := below_draws w.heap.size wr nq
   obtain ⟨wq, hwq⟩ : ∃ wq, wq = wr.drewN nq := ⟨_, rfl⟩
   rw [← hwq] at hb1 ⊢
   have HB2 := Lib.hid (HB.out.trans hb1)
   clear hwq hb1 td
   obtain ⟨kp, hkp⟩ : ∃ kp, kp = n - c := ⟨_, rfl⟩
   rw [← hkp] at HJ E5
   have hkn : kp ≤ n := by omega
   have hka : (kp : Int) ≤ (ca : Int) := by omega
   have hk0 : (0 : Int) ≤ (kp : Int) := by omega
   have hkk : (kp : Int) ≤ (kp : Int) := by omega
   have hc0 : (0 : Int) ≤ (c : Int) := by omega
   have hcc : (c : Int) ≤ (m : Int) := by omega
   have HKP := Lib.hid hkp; clear hkp
   have HFQ := Lib.hid ((HFP.out.below HB2.out).front kp hkn)
   have mixed : Try.prog.follows Departure.mixedOrders = true := by kernel_rfl
   by_cases hcm2 : c < m
   ·obtain ⟨gb, ob, rfl, hgb, hcb1⟩ := HOR.out.cells (by omega)
    have hcb2 : ¬ (cb = c) := by omega
    have hol : (ints (own.drop c)).length = (m - c) * 1 := by simp [ints, HOL.out]
    have hfl : (ints (f.take kp)).length = kp * 1 := by simp [ints, HFL.out]; omega
    have hnews : ∀ j u, (ints (own.drop c))[j]? = some u → wq.drew.cell? ((⟨gb, ob + c, none⟩ : Addr).add j) = some u := fun j u hj => by
     rw [Addr.add_lit]
     have hjl : j < m - c := by have := (List.getElem?_eq_some_iff.1 hj).1; rw [hol] at this; omega
     have h1 := (HB2.out.cell (by exact hgb)).trans (hcb1 (c + j) (by omega))
     rw [Nat.add_assoc]
     rw [ints_at _ _ (by rw [List.length_drop, HOL.out]; omega)] at hj
     refine (show wq.drew.cell? _ = wq.cell? _ from rfl).trans (h1.trans ?_)
     rw [← hj]
     simp [List.getD, List.getElem?_drop]
    have holds : ∀ b', a = some b' → ∀ j u, (ints (f.take kp))[j]? = some u → wq.drew.cell? (b'.add j) = some u := fun b' hb' j u hj => by
     have hjl : j < kp := by have := (List.getElem?_eq_some_iff.1 hj).1; rw [hfl] at this; omega
     obtain ⟨g1, o1, hg1, hg2, hg3⟩ := HFQ.out.reads.cells (by omega)
     rw [hb'] at hg1
     cases hg1
     rw [Addr.add_lit]
     rw [ints_at _ _ (by rw [List.length_take, HFL.out]; omega)] at hj
     refine (show wq.drew.cell? _ = wq.cell? _ from rfl).trans ((hg3 j hjl).trans ?_)
     rw [← hj]
    have HNW := Lib.hid hnews; have HLD := Lib.hid holds
    clear hnews holds
    go_wp2
    go_region_law_o (refine step_append_grows rfl _ _ 22 rfl 2 i0 (.int .i64 0) 1 8 Try.underlying22 hi hz0 hz1 hz2 rfl (by decide) a kp kp (ints (f.take kp)) (by simp [Act.eval, Act.put]) (fun h => by have := (HNIL.out h).1; omega) hfl HLD.out ⟨gb, ob + c, none⟩ (m - c) (cb - c) (ints (own.drop c)) (by simp [Act.eval, Act.put]) hol HNW.out (ints_cells _) (by omega) (by unfold maxLen; omega) (by omega) ?_; intro v9 w9 hown9 hgrow9)
    have hzq : w.heap.size ≤ wq.drew.heap.size := HB2.out.size
    have hB9 : Below w.heap.size w w9 := HB2.out.drew.grown hgrow9 hzq (fun j ej => by cases ej)
    have hI : ints (f.take kp) ++ ints (own.drop c) = ints (joinF f own) := by rw [HJ.out]; simp [ints]
    rw [hI] at hown9
    obtain ⟨a9, c9, rfl, ho9⟩ := OwnV.form hown9
    have HP9 := Lib.hid (ho9.mono (B' := B) (by omega)).ownP
    have HC9 : Hid (kp + (m - c) ≤ c9 ∧ c9 ≤ 9223372036854775807) := Lib.hid (by
     rcases hown9.2 with ⟨hv, h0⟩ | ⟨g, cc, cur, hv, _, _, q1, q2, _⟩
     ·omega
     ·simp only [Value.slice.injEq] at hv
      unfold maxLen at q2
      omega)
    have HN9 : Hid (a9 = none → kp + (m - c) = 0 ∧ c9 = 0) := Lib.hid (fun h => by
     rcases hown9.2 with ⟨hv, h0⟩ | ⟨g, cc, cur, hv, _⟩
     ·simp only [Value.slice.injEq] at hv
      exact ⟨h0, hv.2.2⟩
     ·simp only [Value.slice.injEq] at hv
      rw [h] at hv
      cases hv.1)
    have HF9 : Hid (∀ ad, a9 = some ad → w.heap.size ≤ ad.block) := Lib.hid (fun ad h => by
     rcases hown9.2 with ⟨hv, h0⟩ | ⟨g, cc, cur, hv, hge, _⟩
     ·simp only [Value.slice.injEq] at hv
      rw [h] at hv
      cases hv.1
     ·simp only [Value.slice.injEq] at hv
      rw [h] at hv
      obtain ⟨hv, _⟩ := hv
      cases hv
      exact Nat.le_trans hzq hge)
    have HB9 := Lib.hid hB9
    clear hown9 hgrow9 hI hB9 ho9
    go_wp2
    go_ret
    exact ⟨a9, _, c9, rfl, HP9.out, HC9.out.1, HC9.out.2, HN9.out, HB9.out, .inr HF9.out⟩
   ·obtain rfl : c = m := by omega
    have hdn : own.drop c = [] := List.drop_eq_nil_of_le (by rw [HOL.out]; exact Nat.le_refl _)
    by_cases hcb2 : cb = c
    ·subst hcb2
     cases b with
     | none =>
      have hb00 : cb = 0 := HBN.out rfl
      subst hb00
      obtain rfl : kp = n := by have := HKP.out; omega
      have HJ0 : Hid (joinF f own = f.take kp) := Lib.hid (by rw [HJ.out, List.drop_eq_nil_of_le (by rw [HOL.out]; omega), List.append_nil])
      have hrun : ∀ (W : World) (ty : TypeId), (Builtin.append_ #[22, 22] ty #[.slice a kp kp, .slice none 0 0]).run Try.prog W = .ok (.slice a kp kp) W := fun W ty => run_append_zero W _ ty 2 i0 Try.underlying22 hi a _ kp kp _ (Nat.le_refl _)
      go_wp2
      go_region_law_o (refine step_append_run rfl _ _ 22 22 rfl (.slice a kp kp) (.slice none 0 0) (by simp [Act.eval, Act.put]) (by simp [Act.eval, Act.put]) (hrun _ _) ?_)
      go_wp2
      go_ret
      exact ⟨a, kp, kp, rfl, by rw [HJ0.out]; exact HFQ.out, Nat.le_refl _, by omega, (fun h => by have := (HNIL.out h).1; omega), HB2.out.drew, .inl ⟨rfl, by omega⟩⟩
     | some bb =>
      obtain ⟨gb, ob, sp⟩ := bb
      have HJ0 : Hid (joinF f own = f.take kp) := Lib.hid (by rw [HJ.out, List.drop_eq_nil_of_le (by rw [HOL.out]; omega), List.append_nil])
      have hrun : ∀ (W : World) (ty : TypeId), (Builtin.append_ #[22, 22] ty #[.slice a kp kp, .slice (some ⟨gb, ob, sp⟩) 0 0]).run Try.prog W = .ok (.slice a kp kp) W := fun W ty => run_append_zero W _ ty 2 i0 Try.underlying22 hi a _ kp kp _ (Nat.le_refl _)
      go_wp2
      go_region_law_o (refine step_append_run rfl _ _ 22 22 rfl (.slice a kp kp) (.slice (some ⟨gb, ob, sp⟩) 0 0) (by simp [Act.eval, Act.put]) (by simp [Act.eval, Act.put]) (hrun _ _) ?_)
      go_wp2
      go_ret
      exact ⟨a, kp, kp, rfl, by rw [HJ0.out]; exact HFQ.out, Nat.le_refl _, by omega, (fun h => by have := (HNIL.out h).1; omega), HB2.out.drew, .inl ⟨rfl, by omega⟩⟩
    ·cases b with
     | none =>
      exact absurd (HBN.out rfl) (by omega)
     | some bb =>
      obtain ⟨gb, ob, sp⟩ := bb
      have HJ0 : Hid (joinF f own = f.take kp) := Lib.hid (by rw [HJ.out, List.drop_eq_nil_of_le (by rw [HOL.out]; omega), List.append_nil])
      have hrun : ∀ (W : World) (ty : TypeId), (Builtin.append_ #[22, 22] ty #[.slice a kp kp, .slice (some ((⟨gb, ob, sp⟩ : Addr).add c)) 0 (cb - c)]).run Try.prog W = .ok (.slice a kp kp) W := fun W ty => run_append_zero W _ ty 2 i0 Try.underlying22 hi a _ kp kp _ (Nat.le_refl _)
      go_wp2
      go_region_law_o (refine step_append_run rfl _ _ 22 22 rfl (.slice a kp kp) (.slice (some ((⟨gb, ob, sp⟩ : Addr).add c)) 0 (cb - c)) (by simp [Act.eval, Act.put]) (by simp [Act.eval, Act.put]) (hrun _ _) ?_)
      go_wp2
      go_ret
      exact ⟨a, kp, kp, rfl, by rw [HJ0.out]; exact HFQ.out, Nat.le_refl _, by omega, (fun h => by have := (HNIL.out h).1; omega), HB2.out.drew, .inl ⟨rfl, by omega⟩⟩

end Go.Proofs.Ytehcbamfendbaaa

