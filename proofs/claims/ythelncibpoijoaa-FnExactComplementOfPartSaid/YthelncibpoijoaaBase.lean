/- Contracts of the small functions that every law calls: sizes of braids, copies, comparisons, marks. -/
import Derived.Test.YthelncibpoijoaaProg
import Derived.Test.YthelncibpoijoaaKit
import Derived.Test.YthelncibpoijoaaLists
namespace Go.Proofs.Ythelncibpoijoaa
open Go.RowKit

theorem infoInt : (Try.prog.info? 2).map (fun i => (i.zero, i.size, i.bytes)) = some (some (.int .i64 0), 1, 8) := by kernel_rfl

theorem szInt64S_fit (a : Option Addr) (n cap : Nat) (left : Int) (w : World) (hn : (n : Int) ≤ left) (h1 : left ≤ 1048576) :
    Calls Try.prog 69 #[.slice a n cap, .int .i64 left] w fun e w' => e = .returned (.int .i64 (left - n)) ∧ w = w' := by
  go_enter Try.func69, Try.ntmps69
  go_wp2
  go_ret
  exact ⟨rfl, rfl⟩

theorem szInt64S_big (a : Option Addr) (n cap : Nat) (left : Int) (w : World) (hn : left < (n : Int)) (h0 : 0 ≤ left) (h1 : n ≤ maxLen) :
    Calls Try.prog 69 #[.slice a n cap, .int .i64 left] w fun e w' => e = .returned (.int .i64 (-1)) ∧ w = w' := by
  unfold maxLen at h1
  go_enter Try.func69, Try.ntmps69
  go_wp2
  go_ret
  exact ⟨rfl, rfl⟩

/-- What a function that makes a slice of numbers hands back. -/
def MadeInts (w : World) (n : Nat) (xs : List Int) (e : Ending) (w' : World) : Prop :=
  ∃ a cap, e = .returned (.slice a n cap) ∧ Own w.heap.size w' a n cap xs ∧ Below w.heap.size w w'

theorem own_made {B : Nat} {w : World} {n : Nat} (h : w.ownsRow B 2 1 (.slice (some ⟨B, 0, none⟩) n n) n (madeCells #[Value.int .i64 0] n).toList) :
    Own B w (some ⟨B, 0, none⟩) n n (List.replicate n 0) := by
  unfold Own
  rw [toList_madeCells_one] at h
  simpa using h

/-- A number is stored at the place k of a slice that is the call's own. -/
theorem Own.store {B : Nat} {w : World} {g n cap : Nat} {xs : List Int} (h : Own B w (some ⟨g, 0, none⟩) n cap xs) (k : Nat) (x : Int) :
    Own B (w.setCell ⟨g, k, none⟩ (.int .i64 x)) (some ⟨g, 0, none⟩) n cap (xs.set k x) ∧ w.grownBy (w.setCell ⟨g, k, none⟩ (.int .i64 x)) (some g) := by
  have := World.ownsRow.stored h k (.int .i64 x)
  exact ⟨by unfold Own; rw [List.map_set]; exact this.1, this.2⟩

theorem Own.cellAt {B : Nat} {w : World} {g n cap : Nat} {xs : List Int} (h : Own B w (some ⟨g, 0, none⟩) n cap xs) (k : Nat) (hk : k < n) : w.cell? ⟨g, k, none⟩ = some (.int .i64 (xs.getD k 0)) := by
  have hl := h.len
  rw [World.ownsRow.cellAt h k (by omega)]
  simp [List.getD, show k < xs.length by omega]

theorem Own.frozenAt {B : Nat} {w : World} {g n cap : Nat} {xs : List Int} (h : Own B w (some ⟨g, 0, none⟩) n cap xs) (k : Nat) : w.frozen? ⟨g, k, none⟩ = false := World.ownsRow.frozenAt h k

theorem set_prefix (xs : List Int) (n k : Nat) (hl : xs.length = n) (h : k < n) : (xs.take k ++ List.replicate (n - k) (0 : Int)).set k (xs.getD k 0) = xs.take (k + 1) ++ List.replicate (n - (k + 1)) (0 : Int) := by
  refine List.ext_getElem (by simp; omega) fun j h1 h2 => ?_
  simp only [List.getElem_set, List.getElem_append, List.length_take, List.getElem_replicate, List.getElem_take]
  simp only [List.length_set, List.length_append, List.length_take, List.length_replicate] at h1
  by_cases hjk : k = j
  · subst hjk
    rw [if_pos rfl, dif_pos (by omega)]
    simp [List.getD, show k < xs.length by omega]
  · rw [if_neg hjk]
    by_cases hlt : j < k
    · rw [dif_pos (by omega), dif_pos (by omega)]
    · rw [dif_neg (by omega), dif_neg (by omega)]

set_option maxHeartbeats 400000 in
theorem toInt64S_any (a : Option Addr) (n cap : Nat) (xs : List Int) (w : World) (hr : Reads w a n xs) (hn : n ≤ 1048576) :
    Calls Try.prog 72 #[.slice a n cap] w (MadeInts w n xs) := by
  obtain ⟨i0, hi, hz0, hz1, hz2⟩ := info_parts infoInt
  have hl := hr.len
  have HL := Lib.hid hl; clear hl
  rcases Nat.eq_zero_or_pos n with h0 | h0
  · subst h0
    have HR := Lib.hid hr; clear hr
    go_enter Try.func72, Try.ntmps72
    go_wp2_with (at_make; refine wpList_make_full w rfl _ _ 34 rfl w.heap.size 2 i0 (.int .i64 0) 1 Try.underlying34 hi hz0 hz1 .i64 .i64 _ _ 0 rfl rfl (by rfl) (by rfl) (by rw [hz2]; omega) (by unfold maxLen; omega) (Nat.le_refl _) ?_)
    intro w1 hown hgrow
    go_wp2
    refine wp_loop_rounds 1 ?_; rw [rounds_succ]
    go_wp2
    go_ret
    have hxs : xs = [] := List.eq_nil_of_length_eq_zero HL.out
    subst hxs
    exact ⟨_, _, rfl, own_made hown, Below.ofGrown hgrow⟩
  · obtain ⟨b, off, rfl, hb, hc⟩ := hr.cells h0
    have HC := Lib.hid hc; clear hc
    have HR := Lib.hid hr; clear hr
    go_enter Try.func72, Try.ntmps72
    go_wp2_with (at_make; refine wpList_make_full w rfl _ _ 34 rfl w.heap.size 2 i0 (.int .i64 0) 1 Try.underlying34 hi hz0 hz1 .i64 .i64 _ _ n rfl rfl (by omega) (by omega) (by rw [hz2]; omega) (by unfold maxLen; omega) (Nat.le_refl _) ?_)
    intro w1 hown hgrow
    have hown1 := own_made hown
    have hbel := Below.ofGrown hgrow
    clear hown hgrow
    go_wp2
    go_loopw [4] (fun i wr => ∃ k : Nat, k ≤ n ∧ i = .int .i64 k ∧ Own w.heap.size wr (some ⟨w.heap.size, 0, none⟩) n n (xs.take k ++ List.replicate (n - k) 0) ∧ Below w.heap.size w wr) (fun i _ => n - (intOf i).toNat)
    case atStart => exact ⟨0, Nat.zero_le _, rfl, by simpa using hown1, hbel⟩
    case round =>
      obtain ⟨k, hk, rfl, ho, hbl⟩ := hrel
      clear hown1 hbel
      by_cases hlt : k < n
      · have h1 : wr.cell? ⟨b, off + k, none⟩ = some (.int .i64 (xs.getD k 0)) := (hbl.cell (by exact hb)).trans (HC.out k hlt)
        have h2 := ho.cellAt k hlt
        have h3 := ho.frozenAt k
        go_wp2
        go_roundw
        case rel =>
          have := ho.store k (xs.getD k 0)
          rw [set_prefix xs n k HL.out hlt] at this
          exact ⟨k + 1, by omega, by go_num, by simpa using this.1, by simpa using hbl.setCell (p := ⟨w.heap.size, k, none⟩) (Nat.le_refl _) _⟩
        case measure => simp [intOf]; omega
      · have hkn : k = n := by omega
        go_wp2
        go_ret
        subst hkn
        refine ⟨_, _, rfl, ?_, hbl⟩
        have hh := HL.out
        rw [Nat.sub_self, List.replicate_zero, List.append_nil, List.take_of_length_le (by omega)] at ho
        exact ho

end Go.Proofs.Ythelncibpoijoaa
