/- Generators of pure braids: the model's letters, the program's braid. -/
import Derived.Test.YtmlejlediflaaaaPBnd
import Derived.Test.YtmlejlediflaaaaIns
import Derived.Test.YtmlejlediflaaaaSDou
namespace Go.Proofs.Ytmlejlediflaaaa
open Go.RowKit Go.ChangeShapes

/-- The letters of a generator. -/
def genL (t s : Nat) : List Int := dnL t (t - s) ++ ((s : Int) + 1) :: upL s (t - s - 1)

theorem genL_len (t s : Nat) : (genL t s).length = (t - s) + (t - s - 1) + 1 := by simp [genL, dnL_len, upL_len]; omega

theorem genL_band (t s : Nat) (h : s < t) : (bandL t s).take (t - s - 1) ++ ((s : Int) + 1) :: (bandL t s).drop (t - s - 1) = genL t s := by
  obtain ⟨k, hk⟩ : ∃ k, t - s = k + 1 := ⟨t - s - 1, by omega⟩
  have e1 : (t : Int) - k = s + 1 := by omega
  have e2 : dnL t (k + 1) = dnL t k ++ [(s : Int) + 1] := by rw [dnL_step, e1]
  unfold bandL genL
  rw [hk, Nat.add_sub_cancel, e2, List.append_assoc, List.take_append_of_le_length (by rw [dnL_len]; exact Nat.le_refl _), List.take_of_length_le (by rw [dnL_len]; exact Nat.le_refl _), List.drop_append_of_le_length (by rw [dnL_len]; exact Nat.le_refl _), List.drop_eq_nil_of_le (by rw [dnL_len]; exact Nat.le_refl _)]
  simp

/-- Letters of generators are small. -/
theorem genL_small (t s : Nat) (hs : s < t) (ht : t < 8) : Small (genL t s) := by
  intro z hz
  simp only [genL, dnL, upL, List.mem_append, List.mem_cons, List.mem_map, List.mem_range] at hz
  rcases hz with ⟨j, hj, rfl⟩ | rfl | ⟨j, hj, rfl⟩ <;> omega

set_option maxRecDepth 100000 in
set_option maxHeartbeats 1000000 in
theorem l10Generator_any (t s : Nat) (hs : s < t) (ht : t < 8) (w : World) :
    Calls Try.prog 60 #[.int .i64 s, .int .i64 t] w (RetSl w (genL t s)) := by
  obtain ⟨i0, hi, hz0, hz1, hz2⟩ := info_parts infoInt
  have hws : IntKind.i64.wrap ((s : Int) + 1) = (s : Int) + 1 := IntWalk.i64_in _ (by omega)
  have hws2 : IntKind.i64.wrap ((s : Int) + 2) = (s : Int) + 2 := IntWalk.i64_in _ (by omega)
  go_enter Try.func60, Try.ntmps60
  go_wp2
  go_loopw [5, 6] (fun v i wr => ∃ k : Nat, k ≤ t - s - 1 ∧ i = .int .i64 ((t : Int) - k) ∧ OwnV w.heap.size wr v k (dnL t k) ∧ Below w.heap.size w wr) (fun _ i _ => (intOf i - s).toNat)
  case atStart => exact ⟨0, Nat.zero_le _, by simp, OwnV.empty _, (Below.refl _ _).alloc (Nat.le_refl _) _⟩
  case round =>
    obtain ⟨k, hk, rfl, hO, hB⟩ := hrel
    have HO := Lib.hid hO
    have BB := Lib.hid hB
    clear hO hB
    have zz := BB.out.size
    by_cases hlt : k < t - s - 1
    · have HST := Lib.hid (dnL_step t k)
      have hgt : ((t : Int) - k) > (s : Int) + 1 := by omega
      have hw : IntKind.i64.wrap ((t : Int) - k - 1) = (t : Int) - k - 1 := IntWalk.i64_in _ (by omega)
      go_wp2_with (at_builtin; refine wpList_append_own _ rfl _ _ 22 rfl w.heap.size 2 i0 (.int .i64 0) 1 8 Try.underlying22 hi hz0 hz1 hz2 rfl (by decide) _ _ _ rfl (World.ownsRow.alloc HO.out _) ⟨wr.heap.size, 0, none⟩ 1 1 [.int .i64 ((t : Int) - k)] rfl rfl (one_new wr ((t : Int) - k) _) (one_cell _) (by unfold maxLen; omega) (by omega) (by simp; omega) ?_)
      intro v' w1 hown' hgrow _
      have HO2 := Lib.hid (OwnV.appended hown')
      have HB2 := Lib.hid (below_appended BB.out zz HO.out hgrow)
      clear hown' hgrow
      go_wp2
      go_roundw
      case rel => exact ⟨k + 1, by omega, by rw [show ((t : Int) - (k + 1 : Nat)) = (t : Int) - k - 1 by omega], by rw [HST.out]; exact HO2.out, HB2.out⟩
      case measure => first | (simp [intOf]; done) | (simp [intOf]; omega)
    · have hk2 : k = t - s - 1 := by omega
      subst hk2
      have e1 : ((t : Int) - (t - s - 1 : Nat)) = (s : Int) + 1 := by omega
      have HDN : Hid (dnL t (t - s - 1) ++ [(s : Int) + 1, (s : Int) + 1] = dnL t (t - s) ++ [(s : Int) + 1]) := Lib.hid (by
        have e2 := dnL_step t (t - s - 1)
        rw [e1, show t - s - 1 + 1 = t - s by omega] at e2
        rw [e2]; simp)
      rw [e1]
      clear e1
      go_wp2_with (at_builtin; refine wpList_append_own _ rfl _ _ 22 rfl w.heap.size 2 i0 (.int .i64 0) 1 8 Try.underlying22 hi hz0 hz1 hz2 rfl (by decide) _ _ _ rfl (World.ownsRow.alloc HO.out _) ⟨wr.heap.size, 0, none⟩ 2 2 [.int .i64 ((s : Int) + 1), .int .i64 ((s : Int) + 1)] rfl rfl (two_new wr ((s : Int) + 1) ((s : Int) + 1) _) (two_cell _ _) (by unfold maxLen; omega) (by omega) (by simp; omega) ?_)
      intro v' w1 hown' hgrow _
      have HO2 := Lib.hid (OwnV.appended2 hown')
      have HB2 := Lib.hid (below_appended BB.out zz HO.out hgrow)
      clear hown' hgrow
      rw [HDN.out] at HO2
      obtain ⟨q, hq⟩ : ∃ q, q = t - s - 1 + 2 := ⟨_, rfl⟩
      rw [← hq] at HO2
      have HQ := Lib.hid hq; clear hq HO BB zz
      have zz := HB2.out.size
      go_wp2
      go_loopw [5, 7] (fun v i wr => ∃ j : Nat, j ≤ t - s - 1 ∧ i = .int .i64 ((s : Int) + 2 + j) ∧ OwnV w.heap.size wr v (q + j) (dnL t (t - s) ++ ((s : Int) + 1) :: upL s j) ∧ Below w.heap.size w wr) (fun _ i _ => (t + 1 - intOf i).toNat)
      case atStart => exact ⟨0, Nat.zero_le _, by simp, by simpa [upL] using HO2.out, HB2.out⟩
      case round =>
        obtain ⟨j, hj, rfl, hO, hB⟩ := hrel
        clear HO2 HB2 zz
        have HO := Lib.hid hO
        have BB := Lib.hid hB
        clear hO hB
        have zz := BB.out.size
        have hq7 : q ≤ 8 := by have := HQ.out; omega
        by_cases hlj : j < t - s - 1
        · have HST := Lib.hid (upL_step s j)
          have hle : (s : Int) + 2 + j ≤ t := by omega
          have hw : IntKind.i64.wrap (-((s : Int) + 2 + j)) = -((s : Int) + 2 + j) := IntWalk.i64_in _ (by omega)
          have hw2 : IntKind.i64.wrap ((s : Int) + 2 + j + 1) = (s : Int) + 2 + j + 1 := IntWalk.i64_in _ (by omega)
          go_wp2_with (at_builtin; refine wpList_append_own _ rfl _ _ 22 rfl w.heap.size 2 i0 (.int .i64 0) 1 8 Try.underlying22 hi hz0 hz1 hz2 rfl (by decide) _ _ _ rfl (World.ownsRow.alloc HO.out _) ⟨wr.heap.size, 0, none⟩ 1 1 [.int .i64 (-((s : Int) + 2 + j))] rfl rfl (one_new wr (-((s : Int) + 2 + j)) _) (one_cell _) (by unfold maxLen; omega) (by omega) (by simp; omega) ?_)
          intro v' w1 hown' hgrow _
          have HO2 := Lib.hid (OwnV.appended hown')
          have HB2 := Lib.hid (below_appended BB.out zz HO.out hgrow)
          clear hown' hgrow
          go_wp2
          go_roundw
          case rel => exact ⟨j + 1, by omega, by rw [show ((s : Int) + 2 + (j + 1 : Nat)) = (s : Int) + 2 + j + 1 by omega], by rw [HST.out, ← Nat.add_assoc]; simpa using HO2.out, HB2.out⟩
          case measure => first | (simp [intOf]; done) | (simp [intOf]; omega)
        · have hj2 : j = t - s - 1 := by omega
          subst hj2
          have hle : ¬ ((s : Int) + 2 + (t - s - 1 : Nat) ≤ t) := by omega
          obtain ⟨a, cap, rfl, ho⟩ := HO.out.form
          have HLN : Hid (q + (t - s - 1) = (genL t s).length) := Lib.hid (by rw [genL_len, HQ.out]; omega)
          have HLS : Hid (dnL t (t - s) ++ ((s : Int) + 1) :: upL s (t - s - 1) = genL t s) := Lib.hid rfl
          rw [HLS.out] at ho
          have HOW := Lib.hid ho
          clear ho HO
          rw [HLN.out] at HOW ⊢
          obtain ⟨m, hm⟩ : ∃ m, m = (genL t s).length := ⟨_, rfl⟩
          rw [← hm] at HOW ⊢
          have HM := Lib.hid hm; clear hm
          go_wp2
          go_ret
          exact ⟨a, cap, by rw [← HM.out]; rfl, by rw [← HM.out]; exact HOW.out, BB.out⟩

set_option maxRecDepth 100000 in
set_option maxHeartbeats 1000000 in
theorem generator_any (n : Int) (t s : Nat) (hs : s < t) (ht : t < 8) (w : World) :
    Calls Try.prog 61 #[.int .i64 n, .int .i64 s, .int .i64 t] w (MadeBraid w n (genL t s)) := by
  have hw1 : IntKind.i64.wrap ((t : Int) - s) = (t : Int) - s := IntWalk.i64_in _ (by omega)
  have hw2 : IntKind.i64.wrap ((t : Int) - s - 1) = ((t - s - 1 : Nat) : Int) := (IntWalk.i64_in _ (by omega)).trans (by omega)
  have hw3 : IntKind.i64.wrap ((s : Int) + 1) = (s : Int) + 1 := IntWalk.i64_in _ (by omega)
  have HGL := Lib.hid (genL_band t s hs)
  have HBL := Lib.hid (bandL_len t s)
  obtain ⟨d, hd⟩ : ∃ d, d = t - s - 1 := ⟨_, rfl⟩
  rw [← hd] at hw2 HGL HBL
  go_enter Try.func61, Try.ntmps61
  have Z := Lib.hid (At2.new w (.int .i64 0) (.slice none 0 0) 24)
  have BB := Lib.hid (below1 w (.cells #[.int .i64 0, .slice none 0 0] 24))
  go_wp2_with fail
  refine (bandWord_any t s hs ht _).mono ?_
  rintro e w1 ⟨a1, c1, rfl, ho, hb⟩
  replace Z := Lib.hid (Z.out.below hb)
  have z1 : w.heap.size + 1 ≤ w1.heap.size := Z.out.1
  replace BB := Lib.hid (below_go BB.out hb BB.out.size)
  clear hb
  obtain ⟨bl, hbl⟩ : ∃ bl, bl = bandL t s := ⟨_, rfl⟩
  rw [← hbl] at ho HGL HBL
  obtain ⟨l, hll⟩ : ∃ l, l = bl.length := ⟨_, rfl⟩
  rw [← hbl, ← hll]
  rw [← hll] at ho HBL
  have hl16 : l ≤ 16 := by have := HBL.out; omega
  have hdl : d < l := by have := HBL.out; omega
  obtain ⟨g, rfl, hg1, hg2⟩ := ho.block (by omega)
  have HO := Lib.hid (ho.mono (B' := w.heap.size + 1) (by simp))
  have HGE : Hid (w.heap.size + 1 ≤ g) := Lib.hid (by simpa using hg1)
  clear ho hbl hll hg1 hd
  go_wp2_with fail
  have hvn := Boxed.new w1 2 (.int .i64 ((s : Int) + 1))
  refine (insert_any (w.heap.size + 1) g l c1 d w1.heap.size ((s : Int) + 1) bl _ hdl (by omega) (HO.out.alloc _) (by simp; omega) hvn (by omega)).mono ?_
  rintro e w2 ⟨g2, c2, rfl, ho2, hb2⟩
  rw [HGL.out] at ho2
  have HO2 := Lib.hid ho2
  have hw12 := (Below.refl (w.heap.size + 1) w1).alloc z1 (.cells #[.int .i64 ((s : Int) + 1)] 2)
  have hbb : Below (w.heap.size + 1) w1 w2 := hw12.trans hb2
  replace Z := Lib.hid (Z.out.heap hbb.size (hbb.block _ (by omega)))
  replace BB := Lib.hid (BB.out.trans (hbb.mono (by omega)))
  clear ho2 hb2 hvn hw12 hbb
  obtain ⟨qZ1, qZ2, qZ3, qZ4, qZ5⟩ := Z.out
  go_wp2
  obtain ⟨_, e2, e3, _, _⟩ := Z.out.fill (.int .i64 n) (.slice (some ⟨g2, 0, none⟩) (l + 1) c2)
  refine bodyPost_ret (v := .agg #[.int .i64 n, .slice (some ⟨g2, 0, none⟩) (l + 1) c2]) (by simp [results, Try.results61, go_sem, e2, e3]) rfl ⟨_, _, _, rfl, ?_, ?_⟩
  · exact ((HO2.out.setCell_below (by simp) _).setCell_below (by simp) _).mono (by omega)
  · exact (BB.out.setCell (p := ⟨w.heap.size, 0, none⟩) (by simp) _).setCell (p := ⟨w.heap.size, 1, none⟩) (by simp) _

end Go.Proofs.Ytmlejlediflaaaa
