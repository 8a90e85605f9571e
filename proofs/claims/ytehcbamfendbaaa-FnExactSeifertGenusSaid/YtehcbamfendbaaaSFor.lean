/- ForgetStrand: the model and the program. -/
import Derived.Test.YtehcbamfendbaaaForI
import Derived.Test.YtehcbamfendbaaaFw
import Derived.Test.YtehcbamfendbaaaStrands
namespace Go.Proofs.Ytehcbamfendbaaa
open Go.RowKit Go.ChangeShapes

theorem idx_max {n l : Int} (h : Lett n l) (hn : n ≤ 1000) : IntKind.i64.wrap (-l) = -l ∧ (if l < -l then -l else l) = idx l ∧ max l (-l) = idx l := by
  have hs := h.small hn
  refine ⟨IntWalk.i64_in _ (by omega), ?_, ?_⟩
  · rcases idx_cases l with ⟨g, e, -⟩ | ⟨g, e, -⟩ <;> rw [e] <;> split <;> omega
  · rcases idx_cases l with ⟨g, e, -⟩ | ⟨g, e, -⟩ <;> rw [e] <;> omega

set_option maxRecDepth 100000 in
set_option maxHeartbeats 1000000 in
theorem l10Forget_any (s : Int) (a : Option Addr) (n cap : Nat) (ls : List Int) (p : Int) (w : World) (hr : Reads w a n ls) (hn : n ≤ 1048576) (hs : s ≤ 1000) (hls : ∀ x ∈ ls, Lett s x) (hp0 : 0 ≤ p) (hp1 : p < s) :
    Calls Try.prog 88 #[.slice a n cap, .int .i64 p] w fun e w' => ∃ av nv cv, e = .returned (.slice av nv cv) ∧ nv ≤ n ∧ Own w.heap.size w' av nv cv (forgetL p ls) ∧ Below w.heap.size w w' := by
  obtain ⟨i0, hi, hz0, hz1, hz2⟩ := info_parts infoInt
  have HLS := Lib.hid hls; clear hls
  have HL := Lib.hid hr.len
  have HR := Lib.hid hr; clear hr
  go_enter Try.func88, Try.ntmps88
  go_wp2
  go_loopw [5, 6, 7] (fun v pv i wr => ∃ k m : Nat, k ≤ n ∧ m ≤ k ∧ i = .int .i64 k ∧ pv = .int .i64 (placeL p (ls.take k)) ∧ OwnV w.heap.size wr v m (forgetL p (ls.take k)) ∧ Below w.heap.size w wr) (fun _ _ i _ => n - (intOf i).toNat)
  case atStart => exact ⟨0, 0, Nat.zero_le _, Nat.zero_le _, rfl, rfl, OwnV.empty _, (Below.refl _ _).alloc (Nat.le_refl _) _⟩
  case round =>
    obtain ⟨k, m, hk, hmk, rfl, rfl, ho, hbl⟩ := hrel
    by_cases hlt : k < n
    · have hkl : k < ls.length := by rw [HL.out]; exact hlt
      obtain ⟨b, off, rfl, hb, hc⟩ := HR.out.cells (by omega)
      obtain ⟨l, hl⟩ : ∃ l, l = ls.getD k 0 := ⟨_, rfl⟩
      have h1 : wr.cell? ⟨b, off + k, none⟩ = some (.int .i64 l) := by rw [hl]; exact (hbl.cell (by exact hb)).trans (hc _ hlt)
      have hle : Lett s l := HLS.out l (by rw [hl]; exact getD_mem ls k hkl)
      have hpl := placeL_in hp0 hp1 (letts_take HLS.out k)
      have HSF := Lib.hid (forgetL_step p ls k hkl)
      have HSP := Lib.hid (placeL_step p ls k hkl)
      rw [← hl] at HSF HSP
      obtain ⟨P, hP⟩ : ∃ P, P = placeL p (ls.take k) := ⟨_, rfl⟩
      rw [← hP] at HSF HSP hpl ⊢
      obtain ⟨xs, hxs⟩ : ∃ xs, xs = forgetL p (ls.take k) := ⟨_, rfl⟩
      rw [← hxs] at ho HSF
      have hz := hbl.size
      have hsm := hle.small hs
      obtain ⟨M1, M2, M3⟩ := idx_max hle hs
      have hcs := idx_cases l
      have hq1 := hle.1
      have hq2 := hle.2
      unfold withoutP at HSF
      unfold stepP at HSP
      obtain ⟨q, hq⟩ : ∃ q, q = idx l := ⟨_, rfl⟩
      rw [← hq] at M2 M3 hcs HSF HSP hq1 hq2
      clear hl hP hxs hc hle hq
      have HO := Lib.hid ho; have HB := Lib.hid hbl
      clear ho hbl
      obtain ⟨p1, p2⟩ := hpl
      obtain ⟨u1, u2⟩ := hsm
      have E1 : IntKind.i64.wrap (P - 1) = P - 1 := IntWalk.i64_in _ (by omega)
      have E2 : IntKind.i64.wrap (P + 1) = P + 1 := IntWalk.i64_in _ (by omega)
      have E3 : IntKind.i64.wrap (q - 1) = q - 1 := IntWalk.i64_in _ (by omega)
      have HM2 := Lib.hid M2; have HM3 := Lib.hid M3
      clear M2 M3
      go_wp2
      go_quiet (fail)
      have hb1 := below_draws wr.heap.size wr nq
      have hb2 := below_draws w.heap.size wr nq
      obtain ⟨wq, hwq⟩ : ∃ wq, wq = wr.drewN nq := ⟨_, rfl⟩
      rw [← hwq] at hb1 hb2 ⊢
      first | rw [HM2.out] | rw [HM3.out]
      have h2 : wq.cell? ⟨b, off + k, none⟩ = some (.int .i64 l) := (hb1.cell (World.block_lt_of_cell? _ _ h1)).trans h1
      replace HO := Lib.hid (HO.out.drawn hb1)
      replace HB := Lib.hid (HB.out.trans hb2)
      replace hz := HB.out.size
      clear hwq hb1 hb2 h1
      by_cases c1 : q = P
      · have t1 : (q == P) = true := by simp [c1]
        have d1 : ¬ q < P := by omega
        have d2 : ¬ P + 1 < q := by omega
        rw [if_neg d1, if_neg d2] at HSF
        rw [if_pos c1] at HSP
        have HC1 := Lib.hid c1
        clear d1 d2 c1
        by_cases hneg : l < 0
        all_goals
          clear hcs
          go_wp2
          go_roundw
          case rel => exact ⟨k + 1, m, by omega, by omega, by go_num, by rw [HSP.out], by rw [HSF.out, List.append_nil]; exact HO.out, HB.out⟩
          case measure => simp [intOf]; omega
      · have t1 : (q == P) = false := by simp [c1]
        rw [if_neg c1] at HSP
        by_cases c2 : q = P + 1
        · have t2 : (q == P + 1) = true := by simp [c2]
          have d1 : ¬ q < P := by omega
          have d2 : ¬ P + 1 < q := by omega
          rw [if_neg d1, if_neg d2] at HSF
          rw [if_pos c2] at HSP
          have HC1 := Lib.hid c1; have HC2 := Lib.hid c2
          clear d1 d2 c1 c2
          by_cases hneg : l < 0
          all_goals
            clear hcs
            go_wp2
            go_roundw
            case rel => exact ⟨k + 1, m, by omega, by omega, by go_num, by rw [HSP.out], by rw [HSF.out, List.append_nil]; exact HO.out, HB.out⟩
            case measure => simp [intOf]; omega
        · have t2 : (q == P + 1) = false := by simp [c2]
          rw [if_neg c2] at HSP
          by_cases c3 : q < P
          · rw [if_pos c3] at HSF
            have HC1 := Lib.hid c1; have HC2 := Lib.hid c2
            clear c1 c2
            by_cases hneg : l < 0
            all_goals
              clear hcs
              go_wp2_with (at_builtin; refine wpList_append_own _ rfl _ _ 22 rfl w.heap.size 2 i0 (.int .i64 0) 1 8 Try.underlying22 hi hz0 hz1 hz2 rfl (by decide) _ _ _ rfl (World.ownsRow.alloc HO.out _) ⟨wq.heap.size, 0, none⟩ 1 1 [.int .i64 l] rfl rfl (one_new wq l _) (one_cell _) (by unfold maxLen; omega) (by omega) (by simp; omega) ?_)
              intro v' w4 hown' hgrow _
              have HO3 := Lib.hid (OwnV.appended hown')
              have HB3 := Lib.hid (below_appended HB.out hz HO.out hgrow)
              clear hown' hgrow
              go_wp2
              go_roundw
              case rel => exact ⟨k + 1, m + 1, by omega, by omega, by go_num, by rw [HSP.out], by rw [HSF.out]; exact HO3.out, HB3.out⟩
              case measure => simp [intOf]; omega
          · rw [if_neg c3, if_pos (by omega)] at HSF
            have HC1 := Lib.hid c1; have HC2 := Lib.hid c2
            clear c1 c2
            rcases hcs with ⟨hneg, hc1, hc2⟩ | ⟨hneg, hc1, hc2⟩
            · rw [hc2] at HSF
              obtain ⟨v, hv⟩ : ∃ v, v = (q - 1) * -1 := ⟨_, rfl⟩
              rw [← hv] at HSF
              have F1 : IntKind.i64.wrap (-1 * (q - 1)) = v := (IntWalk.i64_in _ (by omega)).trans (by omega)
              have F2 : IntKind.i64.wrap (-(q - 1)) = v := (IntWalk.i64_in _ (by omega)).trans (by omega)
              clear hc1 hc2 hv
              go_wp2_with (at_builtin; refine wpList_append_own _ rfl _ _ 22 rfl w.heap.size 2 i0 (.int .i64 0) 1 8 Try.underlying22 hi hz0 hz1 hz2 rfl (by decide) _ _ _ rfl (World.ownsRow.alloc HO.out _) ⟨wq.heap.size, 0, none⟩ 1 1 [.int .i64 v] rfl rfl (one_new wq v _) (one_cell _) (by unfold maxLen; omega) (by omega) (by simp; omega) ?_)
              intro v' w4 hown' hgrow _
              have HO3 := Lib.hid (OwnV.appended hown')
              have HB3 := Lib.hid (below_appended HB.out hz HO.out hgrow)
              clear hown' hgrow
              go_wp2
              go_roundw
              case rel => exact ⟨k + 1, m + 1, by omega, by omega, by go_num, by rw [HSP.out], by rw [HSF.out]; exact HO3.out, HB3.out⟩
              case measure => simp [intOf]; omega
            · rw [hc2, Int.mul_one] at HSF
              clear hc1 hc2
              go_wp2_with (at_builtin; refine wpList_append_own _ rfl _ _ 22 rfl w.heap.size 2 i0 (.int .i64 0) 1 8 Try.underlying22 hi hz0 hz1 hz2 rfl (by decide) _ _ _ rfl (World.ownsRow.alloc HO.out _) ⟨wq.heap.size, 0, none⟩ 1 1 [.int .i64 (q - 1)] rfl rfl (one_new wq (q - 1) _) (one_cell _) (by unfold maxLen; omega) (by omega) (by simp; omega) ?_)
              intro v' w4 hown' hgrow _
              have HO3 := Lib.hid (OwnV.appended hown')
              have HB3 := Lib.hid (below_appended HB.out hz HO.out hgrow)
              clear hown' hgrow
              go_wp2
              go_roundw
              case rel => exact ⟨k + 1, m + 1, by omega, by omega, by go_num, by rw [HSP.out], by rw [HSF.out]; exact HO3.out, HB3.out⟩
              case measure => simp [intOf]; omega
    · have hkn : k = n := by omega
      have HK := Lib.hid hkn; clear hkn
      have HT : Hid (forgetL p (ls.take k) = forgetL p ls) := Lib.hid (by rw [HK.out, List.take_of_length_le (by rw [HL.out]; omega)])
      rw [HT.out] at ho
      obtain ⟨a2, c2, rfl, ho2⟩ := ho.form
      go_wp2
      go_ret
      exact ⟨a2, m, c2, rfl, by omega, ho2, hbl⟩

end Go.Proofs.Ytehcbamfendbaaa
