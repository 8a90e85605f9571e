/- slices.Clone over numbers. -/
import Derived.Test.YtehcbamfendbaaaFreP
namespace Go.Proofs.Ytehcbamfendbaaa
open Go.RowKit Go.ChangeShapes

theorem cloneI_any (a : Option Addr) (n cap : Nat) (xs : List Int) (w : World) (hr : Reads w a n xs) (hn : n ≤ 1048576) :
    Calls Try.prog 75 #[.slice a n cap] w (MadeInts w n xs) := by
  obtain ⟨i0, hi, hz0, hz1, hz2⟩ := info_parts infoInt
  cases a with
  | none =>
    have h0 : n = 0 ∧ xs = [] := by
      rcases hr.2 with h | ⟨b, off, ha, _⟩
      · have := hr.len; subst h; exact ⟨rfl, List.eq_nil_of_length_eq_zero this⟩
      · cases ha
    obtain ⟨rfl, rfl⟩ := h0
    clear hr
    have heq : ∀ W, Sem.run Try.prog (binOp BinOp.eql 22 (.slice none 0 cap) (.slice none 0 0)) W = .ok (.bool true) W := fun W => by kernel_rfl
    go_enter Try.func75, Try.ntmps75
    go_wp2
    go_ret
    exact ⟨_, _, rfl, Own.nil _ _, Below.refl _ _⟩
  | some ad =>
    have R := Lib.hid hr; clear hr
    have heq : ∀ W, Sem.run Try.prog (binOp BinOp.eql 22 (.slice (some ad) n cap) (.slice none 0 0)) W = .ok (.bool false) W := fun W => by kernel_rfl
    go_enter Try.func75, Try.ntmps75
    go_wp2_with (at_builtin; refine wpList_append_ints rfl _ _ 22 rfl w.heap.size i0 Try.underlying22 hi hz0 hz1 hz2 _ _ _ rfl (OwnV.empty w) _ _ _ xs rfl (R.out.alloc _) (by omega) (by simp) ?_)
    intro v' w1 ho hg
    have ho' : OwnV w.heap.size w1 v' n xs := by simpa using ho
    have HB := Lib.hid (below_appended5 (below1 w (.cells #[] 2)) (by simp) (OwnV.empty w) hg)
    clear ho hg
    obtain ⟨av, cv, rfl, ho2⟩ := ho'.form
    have HO := Lib.hid ho2; clear ho' ho2
    go_wp2
    go_ret
    exact ⟨_, _, rfl, HO.out, HB.out⟩

end Go.Proofs.Ytehcbamfendbaaa
