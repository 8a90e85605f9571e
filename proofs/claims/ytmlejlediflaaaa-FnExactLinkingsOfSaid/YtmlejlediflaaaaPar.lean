/- The program's table of parities. -/
import Derived.Test.YtmlejlediflaaaaKit9
import Derived.Test.YtmlejlediflaaaaTable
namespace Go.Proofs.Ytmlejlediflaaaa
open Go.RowKit Go.ChangeShapes

/-- The parities of the first k numbers. -/
def evens (l : List Int) (k : Nat) : List Int := (l.take k).map (· % 2) ++ l.drop k

theorem evens_len (l : List Int) (k : Nat) : (evens l k).length = l.length := by
  simp [evens]
  omega

theorem and_one (v : Int) : bits .and .i64 v 1 = v % 2 := by
  have h : ((BitVec.ofInt 64 v) &&& (BitVec.ofInt 64 1)).toNat = (v % 2).toNat := by
    rw [BitVec.toNat_and, BitVec.toNat_ofInt, show (BitVec.ofInt 64 1).toNat = 1 by decide, Nat.and_one_is_mod]
    omega
  show IntKind.i64.wrap (((BitVec.ofInt 64 v) &&& (BitVec.ofInt 64 1)).toNat : Int) = _
  rw [h]
  rw [IntWalk.i64_in _ (by omega)]
  omega

theorem evens_at (l : List Int) (k : Nat) (h : k < l.length) : at8 (evens l k) k = at8 l k := by
  unfold evens at8
  simp [List.getD, List.getElem?_append, h, Nat.min_eq_left (Nat.le_of_lt h)]

theorem evens_step (l : List Int) (k : Nat) (h : k < l.length) : (evens l k).set k (at8 l k % 2) = evens l (k + 1) := by
  unfold evens at8
  rw [List.set_append, if_neg (by simp; omega), take_snoc l k h]
  simp only [List.length_map, List.length_take, Nat.min_eq_left (Nat.le_of_lt h), Nat.sub_self, List.map_append, List.map_cons, List.map_nil, List.append_assoc, List.cons_append, List.nil_append]
  rw [List.drop_eq_getElem_cons h]
  rfl

/-- The parities of all. -/
theorem evens_all (l : List Int) : evens l l.length = l.map (· % 2) := by simp [evens]

set_option maxRecDepth 100000 in
set_option maxHeartbeats 4000000 in
theorem parities_any (l : List Int) (hl : l.length = 64) (w : World) :
    Calls Try.prog 124 #[.agg (cells l)] w fun e w' => e = .returned (.agg (cells (evens l 64))) ∧ Below w.heap.size w w' := by
  go_enter Try.func124, Try.ntmps124
  have R0 := Lib.hid ((Blk.place w l 97 w.heap.size rfl).alloc (.cells (cells (List.replicate 64 0)) 97))
  have R1 := Lib.hid (Blk.place (w.alloc (.cells (cells l) 97)) (List.replicate 64 0) 97 (w.heap.size + 1) (by simp))
  have BB := Lib.hid (below2 w (.cells (cells l) 97) (.cells (cells (List.replicate 64 0)) 97))
  go_wp2
  go_loopw [5] (fun i wr => ∃ k : Nat, k ≤ 8 ∧ i = .int .i64 k ∧ Blk wr w.heap.size 97 (evens l (8 * k)) ∧ Blk wr (w.heap.size + 1) 97 (List.replicate 64 0) ∧ Below w.heap.size w wr) (fun i _ => 8 - (intOf i).toNat)
  case atStart => exact ⟨0, Nat.zero_le _, rfl, R0.out, R1.out, BB.out⟩
  case round =>
    obtain ⟨k, hk, rfl, r0, r1, bb⟩ := hrel
    clear R0 R1 BB
    have R0 := Lib.hid r0
    have R1 := Lib.hid r1
    have BB := Lib.hid bb
    clear r0 r1 bb
    by_cases hlt : k < 8
    · go_wp2
      go_loopw [8] (fun i wr => ∃ j : Nat, j ≤ 8 ∧ i = .int .i64 j ∧ Blk wr w.heap.size 97 (evens l (8 * k + j)) ∧ Blk wr (w.heap.size + 1) 97 (List.replicate 64 0) ∧ Below w.heap.size w wr) (fun i _ => 8 - (intOf i).toNat)
      case atStart => exact ⟨0, Nat.zero_le _, rfl, R0.out, R1.out, BB.out⟩
      case round =>
        obtain ⟨j, hj, rfl, r0, r1, bb⟩ := hrel
        clear R0 R1 BB
        have R0 := Lib.hid r0
        have R1 := Lib.hid r1
        have BB := Lib.hid bb
        clear r0 r1 bb
        by_cases hlt2 : j < 8
        · have f1 := R0.out.free (k * 8 + j)
          have c1 := R0.out.cell (k * 8 + j) (by rw [evens_len]; omega)
          have z1 := R0.out.lt
          have st := evens_step l (k * 8 + j) (by omega)
          rw [show 8 * k + j = k * 8 + j by omega, evens_at l (k * 8 + j) (by omega)] at c1
          rw [show 8 * k + j = k * 8 + j by omega] at R0
          obtain ⟨v, hv⟩ : ∃ v, v = at8 l (k * 8 + j) := ⟨_, rfl⟩
          rw [← hv] at c1 st
          have AO := Lib.hid (and_one v)
          have ST := Lib.hid st
          clear hv st
          go_wp2
          go_region
          go_wp2
          rw [AO.out]
          go_round
          case rel =>
            refine ⟨j + 1, by omega, by go_num, ?_, R1.out.setCell (p := ⟨w.heap.size, k * 8 + j, none⟩) (by simp) _, (BB.out.setCell (p := ⟨w.heap.size, k * 8 + j, none⟩) (Nat.le_refl _) _).drew⟩
            rw [show 8 * k + (j + 1) = k * 8 + j + 1 by omega, ← ST.out]
            exact R0.out.store (k * 8 + j) (v % 2)
          case measure => simp [intOf]; omega
        · have hj8 : j = 8 := by omega
          subst hj8
          go_wp2
          go_round
          case rel => exact ⟨k + 1, by omega, by go_num, R0.out, R1.out, BB.out⟩
          case measure => simp [intOf]; omega
    · have hk8 : k = 8 := by omega
      subst hk8
      have r0 : Blk wr w.heap.size 97 (evens l 64) := R0.out
      rename (∀ (a : Act) (w : World), Code.wp _ _ _ a w → _) => tl
      have TL := Lib.hid tl
      clear tl
      go_wp2
      refine TL.out _ _ ?_
      refine wp_seq ?_
      refine wp_region_lit ?_
      refine wpList_load_blk rfl 97 _ rfl w.heap.size rfl r0 (.array 8 66) (by kernel_rfl) rfl (by rw [evens_len, hl]; kernel_rfl) ?_
      refine wpList_store_blk rfl 97 _ _ rfl (w.heap.size + 1) rfl rfl R1.out (by rw [evens_len, hl]; rfl) (by kernel_rfl) ?_
      intro hblk
      have HB := Lib.hid hblk
      clear hblk r0
      go_wp2
      have hld := HB.out.load (P := Try.prog) 97 (.array 8 66) (by kernel_rfl) rfl (by rw [evens_len, hl]; kernel_rfl)
      refine bodyPost_ret (v := .agg (cells (evens l 64))) ?_ rfl ⟨rfl, below_setRow BB.out (by omega) _⟩
      simp only [results, Try.results124]
      simp [asAddr, Act.put, hld]

end Go.Proofs.Ytmlejlediflaaaa
