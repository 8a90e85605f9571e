/- Products and powers of words: the small functions. -/
import Derived.Test.YtehcbamfendbaaaQA
namespace Go.Proofs.Ytehcbamfendbaaa
open Go.RowKit Go.ChangeShapes

theorem l01Own_any (a : Option Addr) (n cap : Nat) (xs : List Int) (w : World) (hr : Reads w a n xs) (hn : n ≤ 1048576) :
    Calls Try.prog 69 #[.slice a n cap] w (MadeInts w n xs) := by
  obtain ⟨i0, hi, hz0, hz1, hz2⟩ := info_parts infoInt
  have R := Lib.hid hr; clear hr
  go_enter Try.func69, Try.ntmps69
  go_wp2_with (at_builtin; refine wpList_append_ints rfl _ _ 22 rfl w.heap.size i0 Try.underlying22 hi hz0 hz1 hz2 _ _ _ rfl (OwnV.empty w) _ _ _ xs rfl (R.out.alloc _) (by omega) (by simp) ?_)
  intro v' w1 ho hg
  have ho' : OwnV w.heap.size w1 v' n xs := by simpa using ho
  have HB := Lib.hid (below_appended5 (below1 w (.cells #[] 2)) (by simp) (OwnV.empty w) hg)
  clear ho hg
  obtain ⟨av, cv, rfl, ho2⟩ := ho'.form
  have HO := Lib.hid ho2; clear ho' ho2
  go_wp2
  go_ret
  exact ⟨_, _, rfl, HO.out, HB.out⟩

end Go.Proofs.Ytehcbamfendbaaa
