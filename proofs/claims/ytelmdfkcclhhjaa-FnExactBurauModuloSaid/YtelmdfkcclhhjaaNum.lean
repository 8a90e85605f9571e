/- The lists of numbers of the program's matrices. -/
import Derived.Test.YtelmdfkcclhhjaaDia
import Derived.Test.YtelmdfkcclhhjaaLawSO
namespace Go.Proofs.Ytelmdfkcclhhjaa
open Go.RowKit Go.ChangeShapes

theorem mkM_succ (i k : Nat) (f : Nat → Nat → Int) : mkM (i + 1) k f = mkM i k f ++ [(List.range k).map (f i)] := by simp [mkM, List.range_succ]

theorem range_getD (k j : Nat) (v : Nat → Int) (h : j < k) : ((List.range k).map v).getD j 0 = v j := by simp [List.getD, h]

set_option maxRecDepth 100000 in
set_option maxHeartbeats 1000000 in
theorem numbersOf_any (rb so k cap : Nat) (v : Nat → Int) (w : World) (hc : ∀ j, j < k → w.cell? ⟨rb, so + j, none⟩ = some (.int .i64 (v j))) (hv : ∀ j, j < k → 0 ≤ v j ∧ v j < 10007) (hk : k ≤ 100) :
    Calls Try.prog 66 #[.slice (some ⟨rb, so, none⟩) k cap] w fun e w' => e = .returned (.slice (some ⟨w.heap.size, 0, none⟩) k k) ∧ OwnIn w.heap.size (w.heap.size + 1) w' (some ⟨w.heap.size, 0, none⟩) k k ((List.range k).map v) ∧ w.heap.size < w'.heap.size ∧ Below w.heap.size w w' := by
  obtain ⟨i0, hi, hz0, hz1, hz2⟩ := info_parts infoInt
  have HC := Lib.hid hc; have HV := Lib.hid hv; clear hc hv
  go_enter Try.func66, Try.ntmps66
  go_wp2_with (at_make; refine wpList_make_full w rfl _ _ 22 rfl w.heap.size 2 i0 (.int .i64 0) 1 Try.underlying22 hi hz0 hz1 .i64 .i64 _ _ k rfl rfl (by rfl) (by rfl) (by rw [hz2]; omega) (by unfold maxLen; omega) (Nat.le_refl _) ?_)
  intro w1 hown hgrow
  have hown1 := own_made hown
  have hbel := Below.ofGrown hgrow
  clear hown hgrow
  go_wp2
  go_loopw [11] (fun iv wr => ∃ j : Nat, j ≤ k ∧ iv = .int .i64 j ∧ Own w.heap.size wr (some ⟨w.heap.size, 0, none⟩) k k (((List.range k).map v).take j ++ List.replicate (k - j) 0) ∧ Below w.heap.size w wr) (fun iv _ => k - (intOf iv).toNat)
  case atStart => exact ⟨0, Nat.zero_le _, rfl, by simpa using hown1, hbel⟩
  case round =>
    obtain ⟨j, hj, rfl, ho, hb⟩ := hrel
    clear hown1 hbel
    have OO := Lib.hid ho; have BB := Lib.hid hb; clear ho hb
    by_cases hlt : j < k
    · have c0 := (BB.out.cell (World.block_lt_of_cell? _ _ (HC.out j hlt))).trans (HC.out j hlt)
      have bv := HV.out j hlt
      have hst := (OO.out.store j (v j)).1
      have hsp := set_prefix ((List.range k).map v) k j (by simp) hlt
      rw [range_getD k j v hlt] at hsp
      rw [hsp] at hst
      have c2 := OO.out.cellAt j hlt
      have f2 := OO.out.frozenAt j
      have zz := (World.ownsRow.lt OO.out w.heap.size rfl).2
      obtain ⟨x, hx⟩ : ∃ x, x = v j := ⟨_, rfl⟩
      rw [← hx] at c0 bv hst
      have HST := Lib.hid hst
      clear hst hsp hx
      have w1 : IntKind.i64.wrap x = x := IntWalk.i64_in _ (by omega)
      have j1' : (j : Int) < (k : Int) := by omega
      go_wp2
      go_roundw
      case rel => exact ⟨j + 1, by omega, by go_num, HST.out, BB.out.setCell (p := ⟨w.heap.size, j, none⟩) (Nat.le_refl _) _⟩
      case measure => simp [intOf]; omega
    · have hjk : j = k := by omega
      subst hjk
      have ho := OO.out
      rw [Nat.sub_self, List.replicate_zero, List.append_nil, List.take_of_length_le (by simp)] at ho
      have O2 := Lib.hid ho; clear ho
      go_wp2
      go_ret
      exact ⟨rfl, ⟨O2.out, fun x hx => by obtain rfl := Option.some.inj hx; exact Nat.lt_succ_self _⟩, (World.ownsRow.lt O2.out w.heap.size rfl).2, BB.out⟩

set_option maxRecDepth 100000 in
set_option maxHeartbeats 2000000 in
theorem numbers_any (g m k cap : Nat) (b s c : Nat → Nat) (f : Nat → Nat → Int) (w : World) (hr : RMx w g m (fun _ => k) b s c f) (hm : m ≤ 28) (hk : k ≤ 28) (hF : Rem m k f) :
    Calls Try.prog 59 #[.slice (some ⟨g, 0, none⟩) m cap] w fun e w' => ∃ a cd rs, e = .returned (.slice a m cd) ∧ rs.map RowV.xs = mkM m k f ∧ GrowSS w.heap.size w' (.slice a m cd) m rs ∧ Below w.heap.size w w' := by
  obtain ⟨i1, hj, hs0, hs1, hs2⟩ := info_parts infoSlice
  have HF := Lib.hid hF
  have HR := Lib.hid hr; clear hr hF
  go_enter Try.func59, Try.ntmps59
  go_wp2_with (at_make; refine wpList_make_full w rfl _ _ 32 rfl w.heap.size 22 i1 (.slice none 0 0) 1 Try.underlying32 hj hs0 hs1 .i64 .i64 _ _ m rfl rfl (by rfl) (by rfl) (by rw [hs2]; omega) (by unfold maxLen; omega) (Nat.le_refl _) ?_)
  intro w1 hown hgrow
  have hbel := Below.ofGrown hgrow
  have F0 := Lib.hid (fill_madeR hown)
  clear hown hgrow
  go_wp2
  go_loopw [11] (fun iv wr => ∃ i : Nat, i ≤ m ∧ iv = .int .i64 i ∧ (∃ ts : List RowV, ts.map RowV.xs = mkM i k f ∧ FillSS w.heap.size wr w.heap.size m i ts) ∧ Below w.heap.size w wr) (fun iv _ => m - (intOf iv).toNat)
  case atStart => exact ⟨0, Nat.zero_le _, rfl, ⟨[], rfl, F0.out⟩, hbel⟩
  case round =>
    obtain ⟨i, hi, rfl, ⟨ts, hte, hF⟩, hb⟩ := hrel
    clear hbel F0
    have HTE := Lib.hid hte
    have F := Lib.hid hF
    have BB := Lib.hid hb
    clear hte hF hb
    by_cases hlt : i < m
    · have c0 : wr.cell? ⟨g, i, none⟩ = some (.slice (some ⟨b i, s i, none⟩) k (c i)) := (HR.out.below BB.out).hd i hlt
      have HC : Hid (∀ j, j < k → wr.cell? ⟨b i, s i + j, none⟩ = some (.int .i64 (f i j))) := Lib.hid fun j hj => (HR.out.below BB.out).el i j hlt hj
      obtain ⟨bi, hbi⟩ : ∃ x, x = b i := ⟨_, rfl⟩
      obtain ⟨si, hsi⟩ : ∃ x, x = s i := ⟨_, rfl⟩
      obtain ⟨ci, hci⟩ : ∃ x, x = c i := ⟨_, rfl⟩
      rw [← hbi, ← hsi] at c0 HC
      rw [← hci] at c0
      clear hbi hsi hci
      have zb := BB.out.size
      have zo := F.out.lt.2
      have i1' : (i : Int) < (m : Int) := by omega
      go_wp2_with fail
      refine (numbersOf_any bi si k ci (f i) _ HC.out (fun j hj => HF.out i j hlt hj) (by omega)).mono ?_
      rintro e w2 ⟨rfl, ho, hz, hb2⟩
      have F2 := Lib.hid (F.out.below hb2)
      have hrow := F.out.row
      have hst := F2.out.store hlt ho (by omega) zo hz (fun x hx => (hrow x hx).2.2.2)
      have FS := Lib.hid hst
      have BB2 := Lib.hid (below_go BB.out hb2 zb)
      have c1 : w2.cell? ⟨w.heap.size, i, none⟩ = some (.slice none 0 0) := by
        have hl := F2.out.len
        have h := World.ownsRow.cellAt F2.out.own i (by have := F2.out.own.1; omega)
        refine h.trans ?_
        rw [List.getElem?_append_right (by rw [List.length_map]; omega), List.length_map, hl, Nat.sub_self]
        exact List.getElem?_replicate_of_lt (by omega)
      have f1 := World.ownsRow.frozenAt F2.out.own i
      have zo2 := F2.out.lt.2
      clear ho hb2 c0 hst hrow hz
      go_wp2
      go_roundw
      case rel => exact ⟨i + 1, by omega, by go_num, ⟨_, by rw [List.map_append, HTE.out, mkM_succ]; rfl, FS.out⟩, BB2.out.setCell (p := ⟨w.heap.size, i, none⟩) (Nat.le_refl _) _⟩
      case measure => simp [intOf]; omega
    · have him : i = m := by omega
      subst him
      go_wp2
      go_ret
      exact ⟨_, _, ts, rfl, HTE.out, F.out.full, BB.out⟩

end Go.Proofs.Ytelmdfkcclhhjaa
