/- The inverse of a word: the model's answer. -/
import Derived.Test.YtehcbamfendbaaaIs2
import Derived.Test.YtehcbamfendbaaaQA
namespace Go.Proofs.Ytehcbamfendbaaa
open Go.RowKit Go.ChangeShapes

set_option maxRecDepth 100000 in
set_option maxHeartbeats 1000000 in
theorem l01Inverse_any (a : Option Addr) (n cap : Nat) (xs : List Int) (w : World) (hr : Reads w a n xs) (hsm : Small xs) (hn : n ≤ 1048576) :
    Calls Try.prog 70 #[.slice a n cap] w (MadeInts w n (inverse xs)) := by
  obtain ⟨i0, hi, hz0, hz1, hz2⟩ := info_parts infoInt
  have HL := Lib.hid hr.len
  have HSM := Lib.hid hsm; clear hsm
  rcases Nat.eq_zero_or_pos n with h0 | h0
  · subst h0
    have HR := Lib.hid hr; clear hr
    go_enter Try.func70, Try.ntmps70
    go_wp2
    refine wp_loop_rounds 1 ?_; rw [rounds_succ]
    go_wp2
    go_ret
    have hx : xs = [] := List.eq_nil_of_length_eq_zero HL.out
    rw [hx]
    exact ⟨_, _, rfl, OwnV.empty w, below1 w _⟩
  · obtain ⟨b, off, rfl, hb, hc⟩ := hr.cells h0
    have HC := Lib.hid hc; clear hc hr
    go_enter Try.func70, Try.ntmps70
    go_wp2
    go_loopw [3, 4] (fun v i wr => ∃ k : Nat, k ≤ n ∧ i = .int .i64 ((n : Int) - 1 - k) ∧ OwnV w.heap.size wr v k ((inverse xs).take k) ∧ Below w.heap.size w wr) (fun _ i _ => (intOf i + 1).toNat)
    case atStart => exact ⟨0, Nat.zero_le _, by simp, OwnV.empty w, below1 w _⟩
    case round =>
      obtain ⟨k, hk, rfl, ho, hbl⟩ := hrel
      by_cases hlt : k < n
      · have hm := HSM.out _ (getD_mem xs (n - 1 - k) (by rw [HL.out]; omega))
        obtain ⟨x, hx⟩ : ∃ x, x = xs.getD (n - 1 - k) 0 := ⟨_, rfl⟩
        have h1 : wr.cell? ⟨b, off + (n - 1 - k), none⟩ = some (.int .i64 x) := by rw [hx]; exact (hbl.cell (by exact hb)).trans (HC.out _ (by omega))
        rw [← hx] at hm
        have HX := Lib.hid hx; clear hx
        obtain ⟨hm1, hm2⟩ := hm
        have hz : w.heap.size ≤ wr.heap.size := hbl.size
        have HO := Lib.hid ho; clear ho
        have HB := Lib.hid hbl; clear hbl
        go_wp2_with (at_builtin; refine wpList_append_own _ rfl _ _ 22 rfl w.heap.size 2 i0 (.int .i64 0) 1 8 Try.underlying22 hi hz0 hz1 hz2 rfl (by decide) _ _ _ rfl (World.ownsRow.alloc HO.out _) ⟨wr.heap.size, 0, none⟩ 1 1 [.int .i64 (-x)] rfl rfl (one_new wr (-x) _) (one_cell _) (by unfold maxLen; omega) (by omega) (by simp; omega) ?_)
        intro v' w1 hown' hgrow _
        have HO' := Lib.hid (OwnV.appended hown')
        have HB' := Lib.hid (below_appended HB.out hz HO.out hgrow)
        clear hown' hgrow
        go_wp2
        go_roundw
        case rel =>
          refine ⟨k + 1, by omega, by go_num, ?_, HB'.out⟩
          rw [inverse_step xs k (by rw [HL.out]; exact hlt), HL.out, ← HX.out]
          exact HO'.out
        case measure => simp [intOf]; omega
      · have hkn : k = n := by omega
        have HK := Lib.hid hkn; clear hkn
        go_wp2
        go_ret
        have hh := HL.out
        rw [HK.out, List.take_of_length_le (by rw [inverse_length]; omega)] at ho
        obtain ⟨a', c', rfl, ho'⟩ := ho.form
        exact ⟨a', c', rfl, ho', hbl⟩

end Go.Proofs.Ytehcbamfendbaaa
