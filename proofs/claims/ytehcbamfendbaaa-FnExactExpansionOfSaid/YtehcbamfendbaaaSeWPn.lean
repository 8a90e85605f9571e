/- Pairs are taken away: the program, over numbers that are produced by functions over functions. -/
import Derived.Test.YtehcbamfendbaaaSeNst
namespace Go.Proofs.Ytehcbamfendbaaa
open Go.RowKit Go.Shelf Go.ChangeShapes

attribute [local go_sem] Oper.semAt_some

set_option maxRecDepth 100000 in
set_option maxHeartbeats 2000000 in
theorem withoutPairsN_any {gf N : Nat} {lb : Array Value} {zs : List Sm} (w : World) (hrun : ∀ args W, (callFunc gf args).run Try.prog W = .ok (.enter gf args) W) (hs : ∀ n, 1 ≤ n → SeqAt n gf lb (fun x : Sm => #[Value.int .i64 x.1]) w.heap.size zs N w) (hlen : N ≤ 1048576) :
  Calls Try.prog 160 #[.func (.func gf) #[] lb] w (MadeInts w (joinF [] (zs.map (·.1))).length (joinF [] (zs.map (·.1)))) := by
 obtain ⟨i0, hi, hz0, hz1, hz2⟩ := info_parts infoInt
 refine (callsIn_wide (n := 5)).1 ?_
 refine callsIn_of_wp_marks Try.func160 rfl trivial ?_ rfl
 simp only [Try.ntmps160, List.size_toArray, List.length_cons, List.length_nil, Nat.reduceAdd, Nat.reduceSub, Array.replicate_succ, Array.replicate_zero, List.push_toArray, List.append_toArray, List.nil_append, List.cons_append]
 gi_wp2
 have bO := Boxed.new w 22 (.slice none 0 0)
 have hB0 : Below w.heap.size w (w.alloc (.cells #[.slice none 0 0] 22)) := ((Below.refl _ w).alloc (Nat.le_refl _) _)
 have hs1 : SeqAt (5 - 1) gf lb (fun x : Sm => #[Value.int .i64 x.1]) w.heap.size zs N (w.alloc (.cells #[.slice none 0 0] 22)) := fun l J W hl hW hJ hY h0 =>
  hs _ (by omega) l J W hl (((Below.refl _ w).alloc (Nat.le_refl _) _).trans (hW.mono (by simp))) hJ hY h0
 refine range_all (gf := gf) (lb := lb) rfl hrun hs1 (by simp) (fun _ => rfl)
  (fun pre W => (∃ v, Boxed W w.heap.size 22 v ∧ W.ownsRow w.heap.size 2 1 v (joinF [] (pre.map (·.1))).length ((joinF [] (pre.map (·.1))).map (Value.int .i64)) ∧ True) ∧ Below w.heap.size w W)
  (OwnFrom.and (Own.from (holdsRow_own w.heap.size w.heap.size 22 2 1 (fun pre : List Sm => (joinF [] (pre.map (·.1))).length) (fun pre : List Sm => (joinF [] (pre.map (·.1))).map (Value.int .i64)) (fun _ _ => True)) _) (ownFrom_below (Nat.le_refl _) (by simp)))
  ⟨⟨_, bO, World.ownsRow_nil _ _ _ _, trivial⟩, hB0⟩
  (fun x => { tmps := #[.func (.func gf) #[] lb, undef, .slice none 0 0, .pointer (some ⟨w.heap.size, 0, none⟩), .int .i64 x.1, undef, .func (.func gf) #[] lb, .int .i64 x.1, undef, undef, undef, undef, undef, undef, undef, undef, undef, undef, undef, undef, undef, undef, undef, undef, undef, undef, undef, undef, undef, undef], defers := [] }) ?assign ?body ?done
 case assign =>
  intro l x W K hK
  gi_wp2
  exact hK
 case body =>
  rintro l pre x W ⟨⟨v, hv, hrow, -⟩, hB⟩ hlt
  obtain ⟨av, cv, rfl, ho⟩ := OwnV.form (B := w.heap.size) hrow
  have hc := hv.cell
  have hf := hv.frozen
  have hsz := hB.size
  have hpl := joinF_len [] (pre.map (·.1))
  rw [List.length_map, List.length_nil] at hpl
  have hst : joinF [] ((pre ++ [x]).map (·.1)) = freeStep (joinF [] (pre.map (·.1))) x.1 := by rw [List.map_append]; simp [joinF]
  obtain ⟨jl, hjl⟩ : ∃ jl, jl = joinF [] (pre.map (·.1)) := ⟨_, rfl⟩
  rw [← hjl] at hrow ho hpl hc hv hst
  have HST := Lib.hid hst; clear hst
  obtain ⟨m, hm⟩ : ∃ m, m = jl.length := ⟨_, rfl⟩
  rw [← hm] at hrow ho hpl hc hv
  have hx1 := x.2.1
  have hx2 := x.2.2
  have e0 : IntKind.i64.wrap (-x.1) = -x.1 := IntWalk.i64_in _ (by omega)
  have mcap := ho.cap_ge
  have HM := Lib.hid hm; clear hm hjl
  rcases Nat.eq_zero_or_pos m with hm0 | hm0
  ·subst hm0
   have hnl : jl = [] := List.eq_nil_of_length_eq_zero HM.out.symm
   have HNL := Lib.hid hnl; clear hnl
   gi_wp2_with (gi_at_builtin; refine wpListIn_append_own _ rfl _ _ 22 rfl w.heap.size 2 i0 (.int .i64 0) 1 8 Try.underlying22 hi hz0 hz1 hz2 rfl (by decide) _ _ _ rfl (hrow.alloc _) ⟨W.heap.size, 0, none⟩ 1 1 [.int .i64 x.1] rfl rfl (cell_one_new _ _ _) (by simp [Value.oneCell']) (by unfold maxLen; omega) (by omega) (by simp; omega) ?_; intro v' w1 hown' hgrow _; obtain ⟨g', cap', rfl⟩ := ownsRow_succ hown'; obtain ⟨hv1, hv2, hr2, hk2, hb2⟩ := hv.appended (by decide) hrow hB.size (Nat.le_refl _) hown' hgrow; have hc1 := hv1.cell; have hf1 := hv1.frozen)
   refine ⟨hk2, KeepT.trans (KeepT.grow hB.size hrow hgrow) (KeepT.set hv1 (Nat.le_refl _) _), ⟨_, hv2, ?_, trivial⟩, hB.trans hb2⟩
   rw [HST.out, show freeStep jl x.1 = jl ++ [x.1] from by rw [HNL.out]; rfl]
   rw [List.length_append, ← HM.out]
   simpa using hr2
  ·obtain ⟨g, rfl, hg1, hg2⟩ := ho.block hm0
   have c1 := ho.cellAt (m - 1) (by omega)
   have hlast := last_eq jl m HM.out.symm hm0
   obtain ⟨y, hy⟩ : ∃ y, y = jl.getD (m - 1) 0 := ⟨_, rfl⟩
   rw [← hy] at c1 hlast
   have HLA := Lib.hid hlast; clear hlast hy
   have j0 : 0 ≤ (m : Int) - 1 := by omega
   have j1 : (m : Int) - 1 < (m : Int) := by omega
   have j2 : ((m : Int) - 1).toNat = m - 1 := by omega
   have j3 : IntKind.i64.wrap ((m : Int) - 1) = (m : Int) - 1 := IntWalk.i64_in _ (by omega)
   have j4 : 1 ≤ (m : Int) := by omega
   by_cases hxy : y = -x.1
   ·have t1 : (y == -x.1) = true := by simp [hxy]
    have hpop : freeStep jl x.1 = jl.dropLast := by unfold freeStep; rw [HLA.out, hxy, if_pos rfl]
    have HP := Lib.hid hpop
    have HXY := Lib.hid hxy; clear hxy hpop
    gi_wp2
    refine ⟨KeepsOthers.setCell _ _ _, KeepT.set hv (Nat.le_refl _) _, ⟨_, hv.set _, ?_, trivial⟩, hB.setCell (p := ⟨w.heap.size, 0, none⟩) (Nat.le_refl _) _⟩
    rw [HST.out, HP.out, List.length_dropLast, ← HM.out]
    have hp := ho.pop
    exact World.ownsRow.kept hp (grownBy_setCell' W w.heap.size _) (.inr (hv.not_row (by decide) hp).symm)
   ·have t1 : (y == -x.1) = false := by simp [hxy]
    have hpush : freeStep jl x.1 = jl ++ [x.1] := by unfold freeStep; rw [HLA.out, if_neg (fun e => hxy (Option.some.inj e))]
    have HP := Lib.hid hpush
    have HXY := Lib.hid hxy; clear hxy hpush
    gi_wp2_with (gi_at_builtin; refine wpListIn_append_own _ rfl _ _ 22 rfl w.heap.size 2 i0 (.int .i64 0) 1 8 Try.underlying22 hi hz0 hz1 hz2 rfl (by decide) _ _ _ rfl (hrow.alloc _) ⟨W.heap.size, 0, none⟩ 1 1 [.int .i64 x.1] rfl rfl (cell_one_new _ _ _) (by simp [Value.oneCell']) (by unfold maxLen; omega) (by omega) (by simp; omega) ?_; intro v' w1 hown' hgrow _; obtain ⟨g', cap', rfl⟩ := ownsRow_succ hown'; obtain ⟨hv1, hv2, hr2, hk2, hb2⟩ := hv.appended (by decide) hrow hB.size (Nat.le_refl _) hown' hgrow; have hc1 := hv1.cell; have hf1 := hv1.frozen)
    refine ⟨hk2, KeepT.trans (KeepT.grow hB.size hrow hgrow) (KeepT.set hv1 (Nat.le_refl _) _), ⟨_, hv2, ?_, trivial⟩, hB.trans hb2⟩
    rw [HST.out, HP.out, List.length_append, ← HM.out]
    simpa using hr2
 case done =>
  rintro D W hD ⟨⟨v, hv, hrow, -⟩, hB⟩ hK
  have hc := hv.cell
  gi_wp2
  refine ⟨by simp, .inl ⟨_, _, rfl, run_takeDeferred hK, ?_⟩⟩
  obtain ⟨av, cv, rfl, ho⟩ := OwnV.form (B := w.heap.size) hrow
  exact ⟨_, results_tmp rfl _ _ _, av, cv, rfl, ownsRow_putObj hrow _ hK rfl, hB.trans (belowK_b (w := w) (Nat.le_refl _) W D _ _ (by simp at hD; omega) hK rfl rfl)⟩

end Go.Proofs.Ytehcbamfendbaaa

