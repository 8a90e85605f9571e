/- Bands: the model's letters, the program's. -/
import Derived.Test.YtmlejlediflaaaaQA
import Derived.Deep.LoopGhost
namespace Go.Proofs.Ytmlejlediflaaaa
open Go.RowKit Go.ChangeShapes

/-- t, t - 1, .. : k letters; -(s + 2), -(s + 3), .. : k letters. -/
def dnL (t : Int) (k : Nat) : List Int := (List.range k).map fun (j : Nat) => t - j
def upL (s : Int) (k : Nat) : List Int := (List.range k).map fun (j : Nat) => -(s + 2 + j)
/-- The letters of a band. -/
def bandL (t s : Nat) : List Int := dnL t (t - s) ++ upL s (t - s - 1)

theorem dnL_step (t : Int) (k : Nat) : dnL t (k + 1) = dnL t k ++ [t - k] := by simp [dnL, List.range_succ]
theorem upL_step (s : Int) (k : Nat) : upL s (k + 1) = upL s k ++ [-(s + 2 + k)] := by simp [upL, List.range_succ]
theorem dnL_len (t : Int) (k : Nat) : (dnL t k).length = k := by simp [dnL]
theorem upL_len (s : Int) (k : Nat) : (upL s k).length = k := by simp [upL]
theorem bandL_len (t s : Nat) : (bandL t s).length = (t - s) + (t - s - 1) := by simp [bandL, dnL_len, upL_len]

/-- What a function that hands back a slice of numbers gives. -/
def RetSl (w : World) (xs : List Int) (e : Ending) (w' : World) : Prop :=
  ∃ a cap, e = .returned (.slice a xs.length cap) ∧ Own w.heap.size w' a xs.length cap xs ∧ Below w.heap.size w w'

set_option maxRecDepth 100000 in
set_option maxHeartbeats 1000000 in
theorem bandWord_any (t s : Nat) (hs : s < t) (ht : t < 8) (w : World) :
    Calls Try.prog 96 #[.int .i64 t, .int .i64 s] w (RetSl w (bandL t s)) := by
  obtain ⟨i0, hi, hz0, hz1, hz2⟩ := info_parts infoInt
  go_enter Try.func96, Try.ntmps96
  go_wp2
  go_loopw [5, 6] (fun v i wr => ∃ k : Nat, k ≤ t - s ∧ i = .int .i64 ((t : Int) - k) ∧ OwnV w.heap.size wr v k (dnL t k) ∧ Below w.heap.size w wr) (fun _ i _ => (intOf i - s).toNat)
  case atStart => exact ⟨0, Nat.zero_le _, by simp, OwnV.nil _ _, Below.refl _ _⟩
  case round =>
    obtain ⟨k, hk, rfl, hO, hB⟩ := hrel
    have HO := Lib.hid hO
    have BB := Lib.hid hB
    clear hO hB
    have zz := BB.out.size
    by_cases hlt : k < t - s
    · have HST := Lib.hid (dnL_step t k)
      have hgt : ((t : Int) - k) > s := by omega
      have hw : IntKind.i64.wrap ((t : Int) - k - 1) = (t : Int) - k - 1 := IntWalk.i64_in _ (by omega)
      go_wp2_with (at_builtin; refine wpList_append_own _ rfl _ _ 22 rfl w.heap.size 2 i0 (.int .i64 0) 1 8 Try.underlying22 hi hz0 hz1 hz2 rfl (by decide) _ _ _ rfl (World.ownsRow.alloc HO.out _) ⟨wr.heap.size, 0, none⟩ 1 1 [.int .i64 ((t : Int) - k)] rfl rfl (one_new wr ((t : Int) - k) _) (one_cell _) (by unfold maxLen; omega) (by omega) (by simp; omega) ?_)
      intro v' w1 hown' hgrow _
      have HO2 := Lib.hid (OwnV.appended hown')
      have HB2 := Lib.hid (below_appended BB.out zz HO.out hgrow)
      clear hown' hgrow
      go_wp2
      go_roundw
      case rel => exact ⟨k + 1, by omega, by rw [show ((t : Int) - (k + 1 : Nat)) = (t : Int) - k - 1 by omega], by rw [HST.out]; exact HO2.out, HB2.out⟩
      case measure => first | (simp [intOf]; done) | (simp [intOf]; omega)
    · have hk2 : k = t - s := by omega
      subst hk2
      have e1 : ((t : Int) - (t - s : Nat)) = s := by omega
      rw [e1]
      clear e1
      go_wp2
      go_loopw [5, 7] (fun v i wr => ∃ j : Nat, j ≤ t - s - 1 ∧ i = .int .i64 ((s : Int) + 2 + j) ∧ OwnV w.heap.size wr v (t - s + j) (dnL t (t - s) ++ upL s j) ∧ Below w.heap.size w wr) (fun _ i _ => (t + 1 - intOf i).toNat)
      case atStart => exact ⟨0, Nat.zero_le _, by simp, by simpa [upL] using HO.out, BB.out⟩
      case round =>
        obtain ⟨j, hj, rfl, hO, hB⟩ := hrel
        clear HO BB zz
        have HO := Lib.hid hO
        have BB := Lib.hid hB
        clear hO hB
        have zz := BB.out.size
        by_cases hlj : j < t - s - 1
        · have HST := Lib.hid (upL_step s j)
          have hle : (s : Int) + 2 + j ≤ t := by omega
          have hw : IntKind.i64.wrap (-((s : Int) + 2 + j)) = -((s : Int) + 2 + j) := IntWalk.i64_in _ (by omega)
          have hw2 : IntKind.i64.wrap ((s : Int) + 2 + j + 1) = (s : Int) + 2 + j + 1 := IntWalk.i64_in _ (by omega)
          go_wp2_with (at_builtin; refine wpList_append_own _ rfl _ _ 22 rfl w.heap.size 2 i0 (.int .i64 0) 1 8 Try.underlying22 hi hz0 hz1 hz2 rfl (by decide) _ _ _ rfl (World.ownsRow.alloc HO.out _) ⟨wr.heap.size, 0, none⟩ 1 1 [.int .i64 (-((s : Int) + 2 + j))] rfl rfl (one_new wr (-((s : Int) + 2 + j)) _) (one_cell _) (by unfold maxLen; omega) (by omega) (by simp; omega) ?_)
          intro v' w1 hown' hgrow _
          have HO2 := Lib.hid (OwnV.appended hown')
          have HB2 := Lib.hid (below_appended BB.out zz HO.out hgrow)
          clear hown' hgrow
          go_wp2
          go_roundw
          case rel => exact ⟨j + 1, by omega, by rw [show ((s : Int) + 2 + (j + 1 : Nat)) = (s : Int) + 2 + j + 1 by omega], by rw [HST.out, ← List.append_assoc, ← Nat.add_assoc]; exact HO2.out, HB2.out⟩
          case measure => first | (simp [intOf]; done) | (simp [intOf]; omega)
        · have hj2 : j = t - s - 1 := by omega
          subst hj2
          have hle : ¬ ((s : Int) + 2 + (t - s - 1 : Nat) ≤ t) := by omega
          obtain ⟨a, cap, rfl, ho⟩ := HO.out.form
          have HOW := Lib.hid ho
          clear ho
          go_wp2
          go_ret
          exact ⟨a, cap, by rw [bandL_len]; rfl, by rw [bandL_len]; exact HOW.out, BB.out⟩

end Go.Proofs.Ytmlejlediflaaaa
