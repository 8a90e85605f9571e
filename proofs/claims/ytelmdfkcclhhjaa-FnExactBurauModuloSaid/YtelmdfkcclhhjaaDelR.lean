/- slices.Delete of one row. -/
import Derived.Test.YtelmdfkcclhhjaaRer
import Derived.StillTailTactics
import Derived.IntWalk
import Derived.Lib.SliceRun
import Derived.Lib.SlicesDelete
namespace Go.Proofs.Ytelmdfkcclhhjaa
open Go.RowKit Go.ChangeShapes

theorem addr_add (g o j : Nat) : (⟨g, o, none⟩ : Addr).add j = ⟨g, o + j, none⟩ := by
  unfold Addr.add
  split
  · next h => rw [h]; rfl
  · rfl

theorem spare_cell {B g n cap : Nat} {vs : List Value} {w : World} (h : w.ownsRow B 22 1 (.slice (some ⟨g, 0, none⟩) n cap) n vs) (k : Nat) (hk : k < cap) : (w.cell? ⟨g, k, none⟩).isSome = true := by
  rcases h.2 with ⟨hv, _⟩ | ⟨g', c', cur, hv, _, hh, _, _, e3, _⟩
  · cases hv
  · obtain ⟨rfl, rfl⟩ : g' = g ∧ c' = cap := by
      simp only [Value.slice.injEq, Option.some.injEq, Addr.mk.injEq, and_true, true_and] at hv
      omega
    rw [cell_of_row w g' k _ _ _ hh, Array.getElem?_eq_getElem (by omega)]
    rfl

theorem del_owns {B g M cap i : Nat} {vs : List Value} {w : World} (h : w.ownsRow B 22 1 (.slice (some ⟨g, 0, none⟩) M cap) M (vs.take i ++ vs.drop (i + 1))) (hl : vs.length = M + 1) (hi : i < M + 1) :
    (w.setCells g M (List.replicate 1 (.slice none 0 0))).ownsRow B 22 1 (.slice (some ⟨g, 0, none⟩) (M + 1 - 1) cap) (M + 1 - 1) (vs.eraseIdx i) := by
  have h2 := (World.ownsRow.stored h M (.slice none 0 0)).1
  rw [List.set_eq_of_length_le (by simp; omega)] at h2
  rw [List.eraseIdx_eq_take_drop_succ]
  exact h2

theorem del_wrote {g M : Nat} {w w2 : World} (h : w.drew.grownBy w2 (some g)) : Wrote g (g + 1) w (w2.setCells g M (List.replicate 1 (.slice none 0 0))) := by
  have e : w2.setCells g M (List.replicate 1 (.slice none 0 0)) = w2.setCell ⟨g, M, none⟩ (.slice none 0 0) := rfl
  rw [e]
  exact ⟨h.os, h.tape, h.output, by have := h.size; simpa [World.setCell] using this, fun k hk hb => (Below.heap_setCell w2 ⟨g, M, none⟩ _ k (by show k ≠ g; omega)).trans (h.block k hk (fun e => by have := Option.some.inj e; omega))⟩

set_option maxRecDepth 100000 in
set_option maxHeartbeats 1000000 in
theorem deleteRow_any (B g m cap i : Nat) (vs : List Value) (w : World) (h : w.ownsRow B 22 1 (.slice (some ⟨g, 0, none⟩) m cap) m vs) (h1 : ∀ v ∈ vs, v.oneCell' = true) (hi : i < m) (hm : m ≤ 1000) :
    Calls Try.prog 82 #[.slice (some ⟨g, 0, none⟩) m cap, .int .i64 i, .int .i64 ((i : Int) + 1)] w fun e w' =>
      e = .returned (.slice (some ⟨g, 0, none⟩) (m - 1) cap) ∧ w'.ownsRow B 22 1 (.slice (some ⟨g, 0, none⟩) (m - 1) cap) (m - 1) (vs.eraseIdx i) ∧ Wrote g (g + 1) w w' := by
  obtain ⟨i1, hj, hs0, hs1, hs2⟩ := info_parts infoSlice
  have hlen : vs.length = m := by have := h.1; omega
  obtain ⟨cur, hcur, hmc, hcm, hcs, htk⟩ : ∃ cur, w.heap[g]? = some (.cells cur 22 (0, 0)) ∧ m ≤ cap ∧ cap ≤ maxLen ∧ cur.size = cap ∧ cur.toList.take m = vs := by
    rcases h.2 with ⟨hv, _⟩ | ⟨g', c', cur, hv, _, hh, e1, e2, e3, e4⟩
    · cases hv
    · obtain ⟨rfl, rfl⟩ : g' = g ∧ c' = cap := by
        simp only [Value.slice.injEq, Option.some.injEq, Addr.mk.injEq, and_true, true_and] at hv
        omega
      exact ⟨cur, hh, e1, e2, by omega, by simpa using e4⟩
  have hml : cap ≤ 9223372036854775807 := by unfold maxLen at hcm; omega
  have hwi : IntKind.i64.wrap ((i : Int) + 1) = (i : Int) + 1 := IntWalk.i64_in _ (by omega)
  have H := Lib.hid h; have H1 := Lib.hid h1; have HLE := Lib.hid hlen; have HT := Lib.hid htk; have HCU := Lib.hid hcur; have HCS := Lib.hid hcs
  have t1 : ((i : Int) == (i : Int) + 1) = false := by simp; omega
  have b0 : 0 ≤ (i : Int) := by omega
  have b1 : (i : Int) ≤ (i : Int) + 1 := by omega
  have b2 : (i : Int) + 1 ≤ (m : Int) := by omega
  have b3 : (m : Int) ≤ (cap : Int) := by omega
  obtain ⟨M, rfl⟩ : ∃ M, m = M + 1 := ⟨m - 1, by omega⟩
  have hpre : w.drew.ownsRow B 22 1 (.slice (some ⟨g, 0, none⟩) i cap) i (vs.take i) := by
    refine ⟨by rw [List.length_take]; omega, .inr ⟨g, cap, cur, rfl, ?_, hcur, by omega, hcm, by omega, ?_⟩⟩
    · exact (World.ownsRow.lt h g rfl).1
    · rw [← htk, List.take_take, Nat.mul_one, Nat.min_eq_left (by omega)]
  have hsrc : ∀ j u, (vs.drop (i + 1))[j]? = some u → w.drew.cell? ⟨g, i + 1 + j, none⟩ = some u := by
    intro j u hu
    rw [List.getElem?_drop] at hu
    have hjl : i + 1 + j < M + 1 := by have := (List.getElem?_eq_some_iff.1 hu).1; omega
    refine (World.ownsRow.cellAt h (i + 1 + j) (by omega)).trans ?_
    exact hu
  have PRE := Lib.hid hpre; have SRC := Lib.hid hsrc
  clear h h1 hlen htk hcur hcs hcm hpre hsrc
  go_enter Try.func82, Try.ntmps82
  go_wp2
  by_cases hcap : cap = i + 1
  · obtain rfl : M = i := by omega
    subst hcap
    have n1 : M ≤ M + 1 := by omega
    have n4 : (M : Int) ≤ (M : Int) + 1 := by omega
    have n6 : (0 : Int) ≤ (M : Int) + 1 := by omega
    have n7 : ((M : Int) + 1).toNat = M + 1 := by omega
    go_still_tail 6, (by kernel_rfl)
    change wpList _ _ _ _ _ w.drew
    refine wpList_append_fits _ rfl _ _ 32 rfl B 22 i1 1 Try.underlying32 hj hs1 g M (M + 1) (vs.take M) rfl PRE.out ⟨g, 0, none⟩ 0 0 (vs.drop (M + 1)) rfl (by rw [List.length_drop, HLE.out]; omega) (fun j u hu => by rw [List.drop_eq_nil_of_le (by rw [HLE.out]; omega)] at hu; cases hu) (fun u hu => H1.out u (List.mem_of_mem_drop hu)) (by omega) ?_
    intro w2 hown hgrow
    have eM : M + 0 = M := by omega
    rw [eM] at hown ⊢
    have hmc2 : M < M + 1 := by omega
    have hcl : ∀ ty, (Builtin.clear_ #[32] ty #[.slice (some ⟨g, M, none⟩) 1 1]).run Try.prog w2 = .ok (.tuple #[]) (w2.setCells g M (List.replicate 1 (.slice none 0 0))) := fun ty => Lib.run_clear_slice w2 _ _ ty _ Try.underlying32 (fun w => by simp [zeroValue, typeInfo, hj, hs0]) rfl rfl g M 1 _ (by omega) (fun j hj => spare_cell hown (M + j) (by omega)) (fun j _ => World.ownsRow.frozenAt hown (M + j))
    have HO := Lib.hid hown
    have HG := Lib.hid hgrow
    clear hown hgrow eM
    go_wp2
    go_ret
    exact ⟨rfl, del_owns HO.out HLE.out hi, del_wrote HG.out⟩
  · have hn1 : ¬ ((cap : Int) = (i : Int) + 1) := by omega
    have hn2 : ¬ (cap = i + 1) := hcap
    have n1 : i ≤ cap := by omega
    have n2 : i + 1 ≤ M + 1 := by omega
    have n3 : i + 1 ≤ cap := by omega
    have n8 : i ≤ M := by omega
    have n9 : (i : Int) ≤ (M : Int) := by omega
    have n10 : M + 1 ≤ cap := by omega
    have n11 : (M : Int) + 1 ≤ (cap : Int) := by omega
    have n4 : (i : Int) ≤ (cap : Int) := by omega
    have n5 : (i : Int) + 1 ≤ (cap : Int) := by omega
    have n6 : (0 : Int) ≤ (i : Int) + 1 := by omega
    have n7 : ((i : Int) + 1).toNat = i + 1 := by omega
    go_still_tail 6, (by kernel_rfl)
    change wpList _ _ _ _ _ w.drew
    refine wpList_append_fits _ rfl _ _ 32 rfl B 22 i1 1 Try.underlying32 hj hs1 g i cap (vs.take i) rfl PRE.out ⟨g, i + 1, none⟩ (M - i) (cap - (i + 1)) (vs.drop (i + 1)) rfl (by rw [List.length_drop, HLE.out]; omega) (fun j u hu => by rw [addr_add]; exact SRC.out j u hu) (fun u hu => H1.out u (List.mem_of_mem_drop hu)) (by omega) ?_
    intro w2 hown hgrow
    have eM : i + (M - i) = M := by omega
    rw [eM] at hown ⊢
    have hmc2 : M < cap := by omega
    have hcl : ∀ ty, (Builtin.clear_ #[32] ty #[.slice (some ⟨g, M, none⟩) 1 (cap - M)]).run Try.prog w2 = .ok (.tuple #[]) (w2.setCells g M (List.replicate 1 (.slice none 0 0))) := fun ty => Lib.run_clear_slice w2 _ _ ty _ Try.underlying32 (fun w => by simp [zeroValue, typeInfo, hj, hs0]) rfl rfl g M 1 _ (by omega) (fun j hj => spare_cell hown (M + j) (by omega)) (fun j _ => World.ownsRow.frozenAt hown (M + j))
    have HO := Lib.hid hown
    have HG := Lib.hid hgrow
    clear hown hgrow eM
    go_wp2
    go_ret
    exact ⟨rfl, del_owns HO.out HLE.out hi, del_wrote HG.out⟩

end Go.Proofs.Ytelmdfkcclhhjaa
