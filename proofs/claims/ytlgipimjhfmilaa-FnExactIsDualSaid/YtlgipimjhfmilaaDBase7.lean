/- Contracts of the small functions that the laws on normal forms call, continued: comparisons. -/
import Derived.Test.YtlgipimjhfmilaaDBase6
import Derived.Deep.RegionHeld3
namespace Go.Proofs.Ytlgipimjhfmilaa
open Go.RowKit Go.ChangeShapes

set_option maxRecDepth 100000 in
set_option maxHeartbeats 1000000 in
theorem eqPartS_yes (a b : Option Addr) (n ca cb : Nat) (rs : List (List Int)) (w : World) (ha : ReadsA w a n rs) (hb : ReadsA w b n rs) (hn : n ≤ 1048576) :
    Calls Try.prog 10 #[.slice a n ca, .slice b n cb] w fun e w' => e = .returned (.bool true) ∧ Below w.heap.size w w' := by
  have h1 : ((n : Int) != (n : Int)) = false := by simp
  have HL := Lib.hid ha.len
  have H8 := Lib.hid ha.rows
  rcases Nat.eq_zero_or_pos n with h0 | h0
  · subst h0
    clear ha hb
    go_enter Try.func10, Try.ntmps10
    go_wp2
    refine wp_loop_rounds 1 ?_; rw [rounds_succ]
    go_wp2
    go_ret
    exact ⟨rfl, Below.refl _ _⟩
  · obtain ⟨ba, oa, rfl, hba, hca⟩ := ha.cells h0
    obtain ⟨bb, ob, rfl, hbb, hcb⟩ := hb.cells h0
    have HCA := Lib.hid hca; clear hca
    have HCB := Lib.hid hcb; clear hcb
    clear ha hb
    go_enter Try.func10, Try.ntmps10
    go_wp2
    go_loopw [5] (fun i wr => ∃ k : Nat, k ≤ n ∧ i = .int .i64 k ∧ Below w.heap.size w wr) (fun i _ => n - (intOf i).toNat)
    case atStart => exact ⟨0, Nat.zero_le _, rfl, Below.refl _ _⟩
    case round =>
      obtain ⟨k, hk, rfl, hbl⟩ := hrel
      have BB := Lib.hid hbl
      clear hbl
      by_cases hlt : k < n
      · have CA : Hid (∀ W, Below w.heap.size w W → Cells8 W ba (oa + k * 8) (rowAt rs k)) := Lib.hid fun W h i hi => (h.cell (by exact hba)).trans (HCA.out k hlt i hi)
        have CB : Hid (∀ W, Below w.heap.size w W → Cells8 W bb (ob + k * 8) (rowAt rs k)) := Lib.hid fun W h i hi => (h.cell (by exact hbb)).trans (HCB.out k hlt i hi)
        have hrow := Lib.hid (H8.out.at (j := k) (by rw [HL.out]; exact hlt))
        have g0 : 0 ≤ (k : Int) := by omega
        have g1 : (k : Int) < (n : Int) := by omega
        have hbI : Below w.heap.size w wr.drew := BB.out.drew
        go_wp2
        go_region_held3 (fun w' => (w'.cell? ⟨ba, oa + k * 8, none⟩ = some (.int .u8 (at8 (rowAt rs k) 0)) ∧ w'.cell? ⟨ba, oa + k * 8 + 1, none⟩ = some (.int .u8 (at8 (rowAt rs k) 1)) ∧ w'.cell? ⟨ba, oa + k * 8 + 2, none⟩ = some (.int .u8 (at8 (rowAt rs k) 2)) ∧ w'.cell? ⟨ba, oa + k * 8 + 3, none⟩ = some (.int .u8 (at8 (rowAt rs k) 3)) ∧ w'.cell? ⟨ba, oa + k * 8 + 4, none⟩ = some (.int .u8 (at8 (rowAt rs k) 4)) ∧ w'.cell? ⟨ba, oa + k * 8 + 5, none⟩ = some (.int .u8 (at8 (rowAt rs k) 5)) ∧ w'.cell? ⟨ba, oa + k * 8 + 6, none⟩ = some (.int .u8 (at8 (rowAt rs k) 6)) ∧ w'.cell? ⟨ba, oa + k * 8 + 7, none⟩ = some (.int .u8 (at8 (rowAt rs k) 7))) ∧ (w'.cell? ⟨bb, ob + k * 8, none⟩ = some (.int .u8 (at8 (rowAt rs k) 0)) ∧ w'.cell? ⟨bb, ob + k * 8 + 1, none⟩ = some (.int .u8 (at8 (rowAt rs k) 1)) ∧ w'.cell? ⟨bb, ob + k * 8 + 2, none⟩ = some (.int .u8 (at8 (rowAt rs k) 2)) ∧ w'.cell? ⟨bb, ob + k * 8 + 3, none⟩ = some (.int .u8 (at8 (rowAt rs k) 3)) ∧ w'.cell? ⟨bb, ob + k * 8 + 4, none⟩ = some (.int .u8 (at8 (rowAt rs k) 4)) ∧ w'.cell? ⟨bb, ob + k * 8 + 5, none⟩ = some (.int .u8 (at8 (rowAt rs k) 5)) ∧ w'.cell? ⟨bb, ob + k * 8 + 6, none⟩ = some (.int .u8 (at8 (rowAt rs k) 6)) ∧ w'.cell? ⟨bb, ob + k * 8 + 7, none⟩ = some (.int .u8 (at8 (rowAt rs k) 7)))) (first | with_reducible exact ⟨(CA.out _ hbI).flat, (CB.out _ hbI).flat⟩ | with_reducible exact ⟨(CA.out _ hb2).flat, (CB.out _ hb2).flat⟩)
          (first
            | (go_at_call 39; refine (eqPart_yes (rowAt rs k) hrow.out _).mono ?_; rintro e w2 ⟨rfl, h2⟩; have hb2 : Below w.heap.size w w2 := below_go hbI h2 hbI.size))
        go_wp2
        go_roundw
        case rel => exact ⟨k + 1, by omega, by go_num, hb2⟩
        case measure => simp [intOf]; omega
      · have hkn : k = n := by omega
        have HK := Lib.hid hkn; clear hkn
        go_wp2
        go_ret
        exact ⟨rfl, BB.out⟩

set_option maxRecDepth 100000 in
set_option maxHeartbeats 1000000 in
theorem eqDual_yes (s p : Int) (a b : Option Addr) (n ca cb : Nat) (rs : List (List Int)) (w : World) (ha : ReadsA w a n rs) (hb : ReadsA w b n rs) (hn : n ≤ 1048576) :
    Calls Try.prog 17 #[.agg #[.int .i64 s, .int .i64 p, .slice a n ca], .agg #[.int .i64 s, .int .i64 p, .slice b n cb]] w fun e w' => e = .returned (.bool true) ∧ Below w.heap.size w w' := by
  have HA := Lib.hid ha; clear ha
  have HB := Lib.hid hb; clear hb
  have t1 : (s != s) = false := by simp
  have t2 : (p != p) = false := by simp
  go_enter Try.func17, Try.ntmps17
  go_wp2_with (go_at_call 10; refine (eqPartS_yes _ _ _ _ _ rs _ ((HA.out.alloc _).alloc _) ((HB.out.alloc _).alloc _) hn).mono ?_; rintro e w1 ⟨rfl, hb1⟩)
  go_ret
  exact ⟨rfl, (below2 w _ _).trans (hb1.mono (by simp; omega))⟩

theorem At3.cells {w : World} {g : Nat} {u v x : Value} (h : At3 w g u v x) : w.cell? ⟨g, 0, none⟩ = some u ∧ w.cell? ⟨g, 1, none⟩ = some v ∧ w.cell? ⟨g, 2, none⟩ = some x := h.2.1

theorem ReadsA.same {w : World} {a b : Option Addr} {n m : Nat} {rs : List (List Int)} (ha : ReadsA w a n rs) (hb : ReadsA w b m rs) : n = m := by rw [← ha.len, ← hb.len]

end Go.Proofs.Ytlgipimjhfmilaa
