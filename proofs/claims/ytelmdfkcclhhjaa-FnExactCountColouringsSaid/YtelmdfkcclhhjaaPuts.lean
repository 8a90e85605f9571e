/- What letters put for numbers of free words: the program. -/
import Derived.Test.YtelmdfkcclhhjaaActP
namespace Go.Proofs.Ytelmdfkcclhhjaa
open Go.RowKit Go.ChangeShapes

theorem generators_any (l : Int) (w : World) (h1 : -100 < l) (h2 : l < 100) :
    Calls Try.prog 106 #[.int .i64 l] w fun e w' => e = .returned (.tuple #[.int .i64 (genW l), .int .i64 (genP l)]) ∧ w' = w := by
  have i1 := fun W => index_any l W (by omega) (by omega)
  have I1 := Lib.hid i1; clear i1
  by_cases h : l < 0
  · have e1 : l * cnt l = -l := by rw [cnt_neg h]; omega
    have e2 : IntKind.i64.wrap (-l + 1) = -l + 1 := IntWalk.i64_in _ (by omega)
    have E1 := Lib.hid e1; clear e1
    go_enter Try.func106, Try.ntmps106
    go_wp2_with (go_at_call 102; refine (I1.out _).mono ?_; rintro e w' ⟨rfl, rfl⟩; rw [E1.out])
    go_ret2
    simp [genW, genP, h]
  · have e1 : l * cnt l = l := by rw [cnt_pos h]; omega
    have e2 : IntKind.i64.wrap (l + 1) = l + 1 := IntWalk.i64_in _ (by omega)
    have E1 := Lib.hid e1; clear e1
    go_enter Try.func106, Try.ntmps106
    go_wp2_with (go_at_call 102; refine (I1.out _).mono ?_; rintro e w' ⟨rfl, rfl⟩; rw [E1.out])
    go_ret2
    simp [genW, genP]
    omega

theorem genW_bd (l : Int) (h1 : -100 < l) (h2 : l < 100) : -101 < genW l ∧ genW l < 101 ∧ -101 < genP l ∧ genP l < 101 := by
  unfold genW genP
  split <;> omega

end Go.Proofs.Ytelmdfkcclhhjaa
