/- The program's inverse of a word. -/
import Derived.Test.YtehcbamfendbaaaBack
import Derived.Test.YtehcbamfendbaaaQA
namespace Go.Proofs.Ytehcbamfendbaaa
open Go.RowKit Go.ChangeShapes

set_option maxHeartbeats 1000000 in
theorem inverted_any (s : Int) (a : Option Addr) (n cap : Nat) (xs : List Int) (w : World) (hr : Reads w a n xs) (hsm : Small xs) (hn : n ≤ 1048576) :
    Calls Try.prog 73 #[.agg #[.int .i64 s, .slice a n cap]] w (MadeBraid w s (inverse xs)) := by
  have R := Lib.hid hr; clear hr
  have HSM := Lib.hid hsm; clear hsm
  go_enter Try.func73, Try.ntmps73
  replace R := Lib.hid ((R.out.alloc (.cells #[.int .i64 s, .slice a n cap] 29)).alloc (.cells #[.int .i64 0, .slice none 0 0] 29))
  have A := Lib.hid ((At2.new w (.int .i64 s) (.slice a n cap) 29).alloc (.cells #[.int .i64 0, .slice none 0 0] 29))
  have Z := Lib.hid (At2.place (w.alloc (.cells #[.int .i64 s, .slice a n cap] 29)) (.int .i64 0) (.slice none 0 0) 29 (w.heap.size + 1) (by simp))
  have BB := Lib.hid (below2 w (.cells #[.int .i64 s, .slice a n cap] 29) (.cells #[.int .i64 0, .slice none 0 0] 29))
  obtain ⟨qA1, qA2, qA3, qA4, qA5⟩ := A.out
  go_wp2_with fail
  refine (changed_any 108 #[] (fun x => -x) _ _ _ _ _ _ _ R.out HSM.out hn enter_inverse (fun x W _ h1 h2 => (inverse_any x W h1 h2).mono fun _ _ ⟨he, hw⟩ => ⟨he, hw ▸ Below.refl _ _⟩)).mono ?_
  rintro e w2 ⟨a2, n2, c2, rfl, ho, hb⟩
  clear qA1 qA2 qA3 qA4 qA5
  have O2 := Lib.hid ho; clear ho
  have hl2 : n2 ≤ 1048576 := by have := O2.out.len; have := R.out.len; simp at *; omega
  replace A := Lib.hid (A.out.below hb)
  replace Z := Lib.hid (Z.out.below hb)
  replace BB := Lib.hid (below_go BB.out hb BB.out.size)
  clear hb
  have zz := Z.out.1
  go_wp2_with fail
  refine (backwards_any _ _ _ _ _ _ O2.out.reads hl2).mono ?_
  rintro e w3 ⟨a3, n3, c3, rfl, ho, hb⟩
  have O3 : Hid (Own (w.heap.size + 1 + 1) w3 a3 n3 c3 (xs.map fun x => -x).reverse) := Lib.hid (ho.mono (by omega)); clear ho
  replace Z := Lib.hid (Z.out.below hb)
  replace BB := Lib.hid (below_go BB.out hb BB.out.size)
  clear hb
  obtain ⟨qZ1, qZ2, qZ3, qZ4, qZ5⟩ := Z.out
  go_wp2
  obtain ⟨_, e2, e3, _, _⟩ := Z.out.fill (.int .i64 s) (.slice a3 n3 c3)
  refine bodyPost_ret (v := .agg #[.int .i64 s, .slice a3 n3 c3]) (by simp [results, Try.results73, go_sem, e2, e3]) rfl ⟨a3, n3, c3, rfl, ?_, ?_⟩
  · exact ((O3.out.setCell_below (by simp) _).setCell_below (by simp) _).mono (by omega)
  · exact (BB.out.setCell (p := ⟨w.heap.size + 1, 0, none⟩) (by simp) _).setCell (p := ⟨w.heap.size + 1, 1, none⟩) (by simp) _

end Go.Proofs.Ytehcbamfendbaaa
