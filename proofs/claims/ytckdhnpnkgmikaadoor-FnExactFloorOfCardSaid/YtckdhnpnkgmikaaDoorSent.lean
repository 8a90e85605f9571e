/- The package-level error that a long reduction panics with: what the condition on it gives a walk; a world that meets the condition. -/
import Derived.Test.YtckdhnpnkgmikaaDoorRows
import Derived.Test.YtckdhnpnkgmikaaDoorFacts
import Derived.Stop.LaidErr
import Derived.Stop.Joined
import Derived.LaidMore
import Derived.ChangeVars
import Derived.RowKitTokens
namespace Go.Proofs.YtckdhnpnkgmikaaDoor
open Go.ChangeShapes Go.WideShapes Go.RowKit

theorem gErr : Tryd.prog.globalNamed "loop.example/g01205/impl.errLongReduction" = some 0 := by kernel_rfl
theorem tErr : (Tryd.prog.globals[(0 : Nat)]?).map (·.type) = some 72 := by kernel_rfl
theorem cellsEs : Tryd.prog.cellsOf 108 = 1 := by kernel_rfl
theorem cellsStr : Tryd.prog.cellsOf 9 = 1 := by kernel_rfl
theorem starEs : "*" ++ "errors.errorString" = "*errors.errorString" := by decide
theorem rowEs (u : TypeId) (h : Tryd.prog.typeName? 3 u = some "*errors.errorString") : u = 90 :=
  typeName_ptr_named (nm := "errors.errorString") (by rw [starEs]; kernel_rfl) (by kernel_rfl) (by decide) u (by rw [starEs]; exact h)

/-- The list of one variable. -/
def laid1 : List (String × DataW Unit) := [("loop.example/g01205/impl.errLongReduction", Rows.laid_loop_example_g01205_impl_errLongReduction)]

theorem door_met (os : Os) (args : Array Value) : laidMetH Tryd.prog laid1 ((World.doorLaid Tryd.prog 400 os).forCall (fun _ _ => 0) ⟨#[], args, []⟩).memory :=
  laidMetH_of_parts3 (fuel := 8) (laidMet_of_run' 8 (by kernel_rfl) (by kernel_rfl)) (by kernel_rfl) (by kernel_rfl)

theorem sent_of_laid {W : World} (h : laidMetH Tryd.prog laid1 W) : ∃ a : Addr, W.var? Tryd.prog "loop.example/g01205/impl.errLongReduction" = some #[.iface 90 (.pointer (some a))] := by
  rw [MakeChecks.laidMetH_plain _ _ _ (by kernel_rfl)] at h
  obtain ⟨a0, s0, hv0, hc0, hs0, hz0⟩ := laid_sentinel h gErr tErr Tryd.underlying72 rowEs Tryd.underlying90 Tryd.underlying108 rfl rfl Tryd.underlying9 cellsEs cellsStr
  exact ⟨a0, hv0⟩

theorem sent_cell {W : World} {v : Value} (h : W.var? Tryd.prog "loop.example/g01205/impl.errLongReduction" = some #[v]) : W.cell? ⟨0, 0, none⟩ = some v := by
  simpa using World.var?_cell gErr h 0

theorem var_below {P : Program} {W W' : World} {n : String} {cs : Array Value} (h : W.var? P n = some cs) (hb : Below W.heap.size W W') : W'.var? P n = some cs := by
  unfold World.var? at h ⊢
  cases hg : P.globalNamed n with
  | none => simp [hg] at h
  | some g =>
    simp only [hg, Option.bind_some] at h ⊢
    have hlt : g < W.heap.size := by
      rcases Nat.lt_or_ge g W.heap.size with h' | h'
      · exact h'
      · simp [Array.getElem?_eq_none h'] at h
    rw [hb.block g hlt]
    exact h

theorem sent_reads {H : Type} (enc : TypeId × Value → H) {W : World} {u : TypeId} {x : Value} (h : W.var? Tryd.prog "loop.example/g01205/impl.errLongReduction" = some #[.iface u x]) (sp : Nat → Bool) :
    DataW.TrodVars enc Tryd.prog W sp ["loop.example/g01205/impl.errLongReduction"] [tok enc (.iface u x)] [.cell 0 0] :=
  vars_read1 enc gErr tErr Tryd.underlying72 h trivial sp

end Go.Proofs.YtckdhnpnkgmikaaDoor
