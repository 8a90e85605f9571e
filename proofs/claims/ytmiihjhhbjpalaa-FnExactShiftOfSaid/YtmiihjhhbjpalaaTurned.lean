/- Letters turned and shifted: the model's answers. -/
import Derived.Test.YtmiihjhhbjpalaaInverse2
import Derived.Test.YtmiihjhhbjpalaaLetters
namespace Go.Proofs.Ytmiihjhhbjpalaa
open Go.RowKit Go.ChangeShapes

/-- The model's turn and shift of a letter. -/
def turnM (s x : Int) : Int := if 0 < x then s - x else -s - x
def shiftM (k x : Int) : Int := if 0 < x then x + k else x - k

set_option maxHeartbeats 1000000 in
theorem l01Turned_any (a : Option Addr) (n cap : Nat) (xs : List Int) (s : Int) (w : World) (hr : Reads w a n xs) (hsm : Small xs) (hn : n ≤ 1048576) (s1 : 0 ≤ s) (s2 : s ≤ 8) :
    Calls Try.prog 58 #[.int .i64 s, .slice a n cap] w (MadeInts w n (xs.map (turnM s))) := by
  obtain ⟨i0, hi, hz0, hz1, hz2⟩ := info_parts infoInt
  have HL := Lib.hid hr.len
  have HSM := Lib.hid hsm; clear hsm
  rcases Nat.eq_zero_or_pos n with h0 | h0
  · subst h0
    have HR := Lib.hid hr; clear hr
    go_enter Try.func58, Try.ntmps58
    go_wp2
    refine wp_loop_rounds 1 ?_; rw [rounds_succ]
    go_wp2
    go_ret
    have hx : xs = [] := List.eq_nil_of_length_eq_zero HL.out
    rw [hx]
    exact ⟨_, _, rfl, OwnV.empty w, below1 w _⟩
  · obtain ⟨b, off, rfl, hb, hc⟩ := hr.cells h0
    have HC := Lib.hid hc; clear hc hr
    go_enter Try.func58, Try.ntmps58
    go_wp2
    go_loopw [5, 6] (fun v i wr => ∃ k : Nat, k ≤ n ∧ i = .int .i64 k ∧ OwnV w.heap.size wr v k ((xs.map (turnM s)).take k) ∧ Below w.heap.size w wr) (fun _ i _ => n - (intOf i).toNat)
    case atStart => exact ⟨0, Nat.zero_le _, rfl, OwnV.empty w, below1 w _⟩
    case round =>
      obtain ⟨k, hk, rfl, ho, hbl⟩ := hrel
      by_cases hlt : k < n
      · have hm := HSM.out _ (getD_mem xs k (by rw [HL.out]; omega))
        obtain ⟨x, hx⟩ : ∃ x, x = xs.getD k 0 := ⟨_, rfl⟩
        have h1 : wr.cell? ⟨b, off + k, none⟩ = some (.int .i64 x) := by rw [hx]; exact (hbl.cell (by exact hb)).trans (HC.out _ (by omega))
        rw [← hx] at hm
        have HX := Lib.hid hx; clear hx
        obtain ⟨hm1, hm2⟩ := hm
        have hz : w.heap.size ≤ wr.heap.size := hbl.size
        have HO := Lib.hid ho; clear ho
        have HB := Lib.hid hbl; clear hbl
        by_cases hp : 0 < x
        · go_wp2_with (at_builtin; refine wpList_append_own _ rfl _ _ 22 rfl w.heap.size 2 i0 (.int .i64 0) 1 8 Try.underlying22 hi hz0 hz1 hz2 rfl (by decide) _ _ _ rfl (World.ownsRow.alloc HO.out _) ⟨wr.heap.size, 0, none⟩ 1 1 [.int .i64 (s - x)] rfl rfl (one_new wr (s - x) _) (one_cell _) (by unfold maxLen; omega) (by omega) (by simp; omega) ?_)
          intro v' w1 hown' hgrow _
          have HO' := Lib.hid (OwnV.appended hown')
          have HB' := Lib.hid (below_appended HB.out hz HO.out hgrow)
          clear hown' hgrow
          go_wp2
          go_roundw
          case rel =>
            refine ⟨k + 1, by omega, by go_num, ?_, HB'.out⟩
            have e1 : turnM s x = s - x := by unfold turnM; rw [if_pos hp]
            rw [map_step xs (turnM s) k (by rw [HL.out]; exact hlt), ← HX.out, e1]
            exact HO'.out
          case measure => simp [intOf]; omega
        · go_wp2_with (at_builtin; refine wpList_append_own _ rfl _ _ 22 rfl w.heap.size 2 i0 (.int .i64 0) 1 8 Try.underlying22 hi hz0 hz1 hz2 rfl (by decide) _ _ _ rfl (World.ownsRow.alloc HO.out _) ⟨wr.heap.size, 0, none⟩ 1 1 [.int .i64 (-s - x)] rfl rfl (one_new wr (-s - x) _) (one_cell _) (by unfold maxLen; omega) (by omega) (by simp; omega) ?_)
          intro v' w1 hown' hgrow _
          have HO' := Lib.hid (OwnV.appended hown')
          have HB' := Lib.hid (below_appended HB.out hz HO.out hgrow)
          clear hown' hgrow
          go_wp2
          go_roundw
          case rel =>
            refine ⟨k + 1, by omega, by go_num, ?_, HB'.out⟩
            have e1 : turnM s x = -s - x := by unfold turnM; rw [if_neg (by omega)]
            rw [map_step xs (turnM s) k (by rw [HL.out]; exact hlt), ← HX.out, e1]
            exact HO'.out
          case measure => simp [intOf]; omega
      · have hkn : k = n := by omega
        have HK := Lib.hid hkn; clear hkn
        go_wp2
        go_ret
        have hh := HL.out
        rw [HK.out, List.take_of_length_le (by simp; omega)] at ho
        obtain ⟨a', c', rfl, ho'⟩ := ho.form
        exact ⟨a', c', rfl, ho', hbl⟩

set_option maxHeartbeats 1000000 in
theorem l01Shifted_any (a : Option Addr) (n cap : Nat) (xs : List Int) (s : Int) (w : World) (hr : Reads w a n xs) (hsm : Small xs) (hn : n ≤ 1048576) (s1 : 0 ≤ s) (s2 : s ≤ 8) :
    Calls Try.prog 63 #[.slice a n cap, .int .i64 s] w (MadeInts w n (xs.map (shiftM s))) := by
  obtain ⟨i0, hi, hz0, hz1, hz2⟩ := info_parts infoInt
  have HL := Lib.hid hr.len
  have HSM := Lib.hid hsm; clear hsm
  rcases Nat.eq_zero_or_pos n with h0 | h0
  · subst h0
    have HR := Lib.hid hr; clear hr
    go_enter Try.func63, Try.ntmps63
    go_wp2
    refine wp_loop_rounds 1 ?_; rw [rounds_succ]
    go_wp2
    go_ret
    have hx : xs = [] := List.eq_nil_of_length_eq_zero HL.out
    rw [hx]
    exact ⟨_, _, rfl, OwnV.empty w, below1 w _⟩
  · obtain ⟨b, off, rfl, hb, hc⟩ := hr.cells h0
    have HC := Lib.hid hc; clear hc hr
    go_enter Try.func63, Try.ntmps63
    go_wp2
    go_loopw [5, 6] (fun v i wr => ∃ k : Nat, k ≤ n ∧ i = .int .i64 k ∧ OwnV w.heap.size wr v k ((xs.map (shiftM s)).take k) ∧ Below w.heap.size w wr) (fun _ i _ => n - (intOf i).toNat)
    case atStart => exact ⟨0, Nat.zero_le _, rfl, OwnV.empty w, below1 w _⟩
    case round =>
      obtain ⟨k, hk, rfl, ho, hbl⟩ := hrel
      by_cases hlt : k < n
      · have hm := HSM.out _ (getD_mem xs k (by rw [HL.out]; omega))
        obtain ⟨x, hx⟩ : ∃ x, x = xs.getD k 0 := ⟨_, rfl⟩
        have h1 : wr.cell? ⟨b, off + k, none⟩ = some (.int .i64 x) := by rw [hx]; exact (hbl.cell (by exact hb)).trans (HC.out _ (by omega))
        rw [← hx] at hm
        have HX := Lib.hid hx; clear hx
        obtain ⟨hm1, hm2⟩ := hm
        have hz : w.heap.size ≤ wr.heap.size := hbl.size
        have HO := Lib.hid ho; clear ho
        have HB := Lib.hid hbl; clear hbl
        by_cases hp : 0 < x
        · go_wp2_with (at_builtin; refine wpList_append_own _ rfl _ _ 22 rfl w.heap.size 2 i0 (.int .i64 0) 1 8 Try.underlying22 hi hz0 hz1 hz2 rfl (by decide) _ _ _ rfl (World.ownsRow.alloc HO.out _) ⟨wr.heap.size, 0, none⟩ 1 1 [.int .i64 (x + s)] rfl rfl (one_new wr (x + s) _) (one_cell _) (by unfold maxLen; omega) (by omega) (by simp; omega) ?_)
          intro v' w1 hown' hgrow _
          have HO' := Lib.hid (OwnV.appended hown')
          have HB' := Lib.hid (below_appended HB.out hz HO.out hgrow)
          clear hown' hgrow
          go_wp2
          go_roundw
          case rel =>
            refine ⟨k + 1, by omega, by go_num, ?_, HB'.out⟩
            have e1 : shiftM s x = x + s := by unfold shiftM; rw [if_pos hp]
            rw [map_step xs (shiftM s) k (by rw [HL.out]; exact hlt), ← HX.out, e1]
            exact HO'.out
          case measure => simp [intOf]; omega
        · go_wp2_with (at_builtin; refine wpList_append_own _ rfl _ _ 22 rfl w.heap.size 2 i0 (.int .i64 0) 1 8 Try.underlying22 hi hz0 hz1 hz2 rfl (by decide) _ _ _ rfl (World.ownsRow.alloc HO.out _) ⟨wr.heap.size, 0, none⟩ 1 1 [.int .i64 (x - s)] rfl rfl (one_new wr (x - s) _) (one_cell _) (by unfold maxLen; omega) (by omega) (by simp; omega) ?_)
          intro v' w1 hown' hgrow _
          have HO' := Lib.hid (OwnV.appended hown')
          have HB' := Lib.hid (below_appended HB.out hz HO.out hgrow)
          clear hown' hgrow
          go_wp2
          go_roundw
          case rel =>
            refine ⟨k + 1, by omega, by go_num, ?_, HB'.out⟩
            have e1 : shiftM s x = x - s := by unfold shiftM; rw [if_neg (by omega)]
            rw [map_step xs (shiftM s) k (by rw [HL.out]; exact hlt), ← HX.out, e1]
            exact HO'.out
          case measure => simp [intOf]; omega
      · have hkn : k = n := by omega
        have HK := Lib.hid hkn; clear hkn
        go_wp2
        go_ret
        have hh := HL.out
        rw [HK.out, List.take_of_length_le (by simp; omega)] at ho
        obtain ⟨a', c', rfl, ho'⟩ := ho.form
        exact ⟨a', c', rfl, ho', hbl⟩

theorem turnM_eq (s : Int) (xs : List Int) (h : ∀ x ∈ xs, x ≠ 0) : xs.map (turnM s) = xs.map (turnLetter s) := by
  refine List.map_congr_left fun x hx => ?_
  have := h x hx
  unfold turnM turnLetter
  split <;> split <;> omega

theorem shiftM_eq (s : Int) (xs : List Int) (h : ∀ x ∈ xs, x ≠ 0) : xs.map (shiftM s) = xs.map (shiftLetter s) := by
  refine List.map_congr_left fun x hx => ?_
  have := h x hx
  unfold shiftM shiftLetter
  split <;> split <;> omega

end Go.Proofs.Ytmiihjhhbjpalaa
