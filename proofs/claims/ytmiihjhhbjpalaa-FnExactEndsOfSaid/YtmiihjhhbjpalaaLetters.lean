/- The program's letters: their counts, indices and opposites; words whose letters are turned one by one; words backwards. -/
import Derived.Test.YtmiihjhhbjpalaaIs2
import Derived.Test.YtmiihjhhbjpalaaBase4
import Derived.Test.YtmiihjhhbjpalaaKit3
namespace Go.Proofs.Ytmiihjhhbjpalaa
open Go.RowKit Go.ChangeShapes

/-- The count of a letter. -/
def cnt (x : Int) : Int := if x < 0 then -1 else 1

theorem count_any (x : Int) (w : World) :
    Calls Try.prog 74 #[.int .i64 x] w fun e w' => e = .returned (.int .i64 (cnt x)) ∧ w = w' := by
  by_cases h : x < 0
  all_goals
    go_enter Try.func74, Try.ntmps74
    go_wp2
    go_ret
    exact ⟨ret_int (by simp [cnt, h]), rfl⟩

theorem inverse_any (x : Int) (w : World) (h1 : -1000 < x) (h2 : x < 1000) :
    Calls Try.prog 57 #[.int .i64 x] w fun e w' => e = .returned (.int .i64 (-x)) ∧ w = w' := by
  go_enter Try.func57, Try.ntmps57
  go_wp2
  go_ret
  exact ⟨rfl, rfl⟩

theorem index_any (x : Int) (w : World) (h1 : -1000 < x) (h2 : x < 1000) :
    Calls Try.prog 61 #[.int .i64 x] w fun e w' => e = .returned (.int .i64 (x * cnt x)) ∧ w = w' := by
  have hc : cnt x = -1 ∨ cnt x = 1 := by unfold cnt; split <;> simp
  have hw : wrap64 (x * cnt x) = x * cnt x := by rcases hc with e | e <;> rw [e] <;> exact IntWalk.wrap64_in _ (by omega)
  have HW := Lib.hid hw; clear hw hc
  go_enter Try.func61, Try.ntmps61
  go_wp2_with (go_at_call 74; refine (count_any _ _).mono ?_; rintro e w' ⟨rfl, rfl⟩)
  go_ret
  exact ⟨ret_int HW.out, rfl⟩

theorem withIndex_any (x i : Int) (w : World) (h1 : -1000000 < i) (h2 : i < 1000000) :
    Calls Try.prog 60 #[.int .i64 x, .int .i64 i] w fun e w' => e = .returned (.int .i64 (i * cnt x)) ∧ w = w' := by
  have hc : cnt x = -1 ∨ cnt x = 1 := by unfold cnt; split <;> simp
  have hw : wrap64 (i * cnt x) = i * cnt x := by rcases hc with e | e <;> rw [e] <;> exact IntWalk.wrap64_in _ (by omega)
  have HW := Lib.hid hw; clear hw hc
  go_enter Try.func60, Try.ntmps60
  go_wp2_with (go_at_call 74; refine (count_any _ _).mono ?_; rintro e w' ⟨rfl, rfl⟩)
  go_ret
  exact ⟨ret_int HW.out, rfl⟩

/-- The index of a letter, written without a product. -/
theorem idx_eq (x : Int) : x * cnt x = if x < 0 then -x else x := by
  unfold cnt
  split <;> omega

/-- The turn of a letter, the shift of a letter. -/
def turnLetter (s x : Int) : Int := if x < 0 then -s - x else s - x
def shiftLetter (k x : Int) : Int := if x < 0 then x - k else x + k

theorem turn_eq (s x : Int) : (s - x * cnt x) * cnt x = turnLetter s x := by
  unfold cnt turnLetter
  split <;> omega

theorem shift_eq (k x : Int) : (x * cnt x + k) * cnt x = shiftLetter k x := by
  unfold cnt shiftLetter
  split <;> omega

set_option maxHeartbeats 400000 in
theorem turn1_any (x s : Int) (p : Addr) (w : World) (hp : w.cell? p = some (.int .i64 s)) (h1 : -1000 < x) (h2 : x < 1000) (h3 : 0 ≤ s) (h4 : s ≤ 8) :
    Calls Try.prog 59 #[.int .i64 x, .pointer (some p)] w fun e w' => e = .returned (.int .i64 (turnLetter s x)) ∧ Below w.heap.size w w' := by
  have hi := idx_eq x
  have b1 : -1000 < x * cnt x := by rw [hi]; split <;> omega
  have b2 : x * cnt x < 1000 := by rw [hi]; split <;> omega
  clear hi
  obtain ⟨i, hi⟩ : ∃ i, i = x * cnt x := ⟨_, rfl⟩
  rw [← hi] at b1 b2
  have C1 := fun W => index_any x W h1 h2
  rw [← hi] at C1
  have C2 := fun W => withIndex_any x (s - i) W (by omega) (by omega)
  have HE : Hid ((s - i) * cnt x = turnLetter s x) := Lib.hid (by rw [hi]; exact turn_eq s x)
  have K1 := Lib.hid C1
  have K2 := Lib.hid C2
  clear C1 C2 hi
  have e1 : IntKind.i64.wrap (s - i) = s - i := IntWalk.i64_in _ (by omega)
  go_enter Try.func59, Try.ntmps59
  go_wp2
  go_quiet (first
    | (go_at_call 61; exact Calls.quiet_of_same ((K1.out _).mono fun _ _ ⟨he, hw⟩ => ⟨he, hw.symm⟩))
    | (go_at_call 60; exact Calls.quiet_of_same ((K2.out _).mono fun _ _ ⟨he, hw⟩ => ⟨he, hw.symm⟩)))
  go_wp2
  go_ret
  exact ⟨ret_int HE.out, below_draws _ _ _⟩

set_option maxHeartbeats 400000 in
theorem shift1_any (x k : Int) (p : Addr) (w : World) (hp : w.cell? p = some (.int .i64 k)) (h1 : -1000 < x) (h2 : x < 1000) (h3 : 0 ≤ k) (h4 : k ≤ 8) :
    Calls Try.prog 64 #[.int .i64 x, .pointer (some p)] w fun e w' => e = .returned (.int .i64 (shiftLetter k x)) ∧ Below w.heap.size w w' := by
  have hi := idx_eq x
  have b1 : -1000 < x * cnt x := by rw [hi]; split <;> omega
  have b2 : x * cnt x < 1000 := by rw [hi]; split <;> omega
  clear hi
  obtain ⟨i, hi⟩ : ∃ i, i = x * cnt x := ⟨_, rfl⟩
  rw [← hi] at b1 b2
  have C1 := fun W => index_any x W h1 h2
  rw [← hi] at C1
  have C2 := fun W => withIndex_any x (i + k) W (by omega) (by omega)
  have HE : Hid ((i + k) * cnt x = shiftLetter k x) := Lib.hid (by rw [hi]; exact shift_eq k x)
  have K1 := Lib.hid C1
  have K2 := Lib.hid C2
  clear C1 C2 hi
  have e1 : IntKind.i64.wrap (i + k) = i + k := IntWalk.i64_in _ (by omega)
  go_enter Try.func64, Try.ntmps64
  go_wp2
  go_quiet (first
    | (go_at_call 61; exact Calls.quiet_of_same ((K1.out _).mono fun _ _ ⟨he, hw⟩ => ⟨he, hw.symm⟩))
    | (go_at_call 60; exact Calls.quiet_of_same ((K2.out _).mono fun _ _ ⟨he, hw⟩ => ⟨he, hw.symm⟩)))
  go_wp2
  go_ret
  exact ⟨ret_int HE.out, below_draws _ _ _⟩

end Go.Proofs.Ytmiihjhhbjpalaa
