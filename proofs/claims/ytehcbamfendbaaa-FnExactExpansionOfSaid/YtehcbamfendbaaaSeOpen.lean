/- How the arguments of the laws are opened: a braid that came in is a number of strands and a slice of numbers of int64. -/
import Derived.Test.YtehcbamfendbaaaRows
import Derived.Test.YtehcbamfendbaaaSeQA
import Derived.ProofKit
import Derived.OpenShut
import Derived.ShutString
import Derived.ChangeOld
import Derived.Below
import Derived.Lib.SmallJoins
namespace Go.Proofs.Ytehcbamfendbaaa
open Go.ChangeShapes Go.WideShapes Go.ChangeAt Go.RowKit Go.Joins

theorem own : ownKnob Try.prog.godebug = none := by kernel_rfl
theorem laidOut : laidOutB Try.prog = true := by kernel_rfl
theorem cellsInt : Try.prog.cellsOf 2 = 1 := by kernel_rfl

theorem cellsBraid : Try.prog.cellsOf 24 = 2 := by kernel_rfl

set_option maxRecDepth 100000 in
theorem open_braid {H : Type} {enc : TypeId × Value → H} {W : World} {base : Nat} {v : Value} {d : DataW H} {p : List MemPlace}
  (hv : Value.okWide Try.prog W .any base 24 v) (h : DataW.Trod enc Try.prog W 0 (fun _ => true) true 24 v d p) :
  ∃ (s : Int) (a : Option Addr) (n cap : Nat) (xs : List Int), v = .agg #[.int .i64 s, .slice a n cap] ∧ (Lit.int .i64 s).wf = true ∧ Reads W a n xs ∧ Fits xs ∧ n ≤ maxLen := by
 obtain ⟨c0, c1, y0, y1, m, rfl, _, _, hy0, hy1⟩ := open_agg2 Try.underlying24 (by kernel_rfl) cellsBraid hv h
 obtain ⟨s, e0, _, ws⟩ := DataW.trod_int Try.underlying2 hy0
 simp at e0
 subst e0
 rcases open_ints Try.underlying22 Try.underlying2 cellsInt hy1 with ⟨hcs, _⟩ | ⟨x, l, c, zs, hcs, _, hl, hm, hz, _, hcell, hwz⟩
 ·simp at hcs
  subst hcs
  exact ⟨s, none, 0, 0, [], rfl, ws, .zero rfl, (fun x hx => by cases hx), Nat.zero_le _⟩
 ·simp at hcs hz
  subst hcs
  refine ⟨s, some x, l, c, zs.take l, rfl, ws, ⟨by simp; omega, ?_⟩, fun q hq => hwz q (List.mem_of_mem_take hq), by omega⟩
  by_cases h0 : l = 0
  ·exact .inl h0
  ·obtain ⟨b, off, spot⟩ := x
   have hspot : spot = none := by simpa [Addr.add] using World.cell?_spot (hcell 0 (by omega))
   subst hspot
   refine .inr ⟨b, off, rfl, fun j hj => ?_⟩
   have := hcell j (by omega)
   rw [Addr.add_lit] at this
   rw [this, getD_take_lt _ _ _ _ hj]

end Go.Proofs.Ytehcbamfendbaaa

