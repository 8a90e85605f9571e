/- Merged texts. -/
import Derived.Test.YtpkhddndapcpjaaRows
import Derived.Test.YtpkhddndapcpjaaIpQA
import Derived.ProofKit
import Derived.OpenShut
import Derived.ShutString
import Derived.ChangeOld
import Derived.Below
import Derived.Lib.SmallJoins
import Derived.Test.YtpkhddndapcpjaaIpKit11
import Derived.DataElems

/- How the arguments of the laws are opened: a braid that came in is a number of strands and a slice of numbers of int64. -/
namespace Go.Proofs.Ytpkhddndapcpjaa
open Go.ChangeShapes Go.WideShapes Go.ChangeAt Go.RowKit Go.Joins

theorem own : ownKnob Try.prog.godebug = none := by kernel_rfl
theorem laidOut : laidOutB Try.prog = true := by kernel_rfl
end Go.Proofs.Ytpkhddndapcpjaa

/- How an array argument of the laws is opened: eight bytes. -/
namespace Go.Proofs.Ytpkhddndapcpjaa
open Go.ChangeShapes Go.WideShapes Go.ChangeAt Go.RowKit Go.Joins

theorem cellsByte : Try.prog.cellsOf 5 = 1 := by kernel_rfl
theorem cellsArray : Try.prog.cellsOf 52 = 8 := by kernel_rfl

theorem byte_wf {x : Int} (h : (Lit.int .u8 x).wf = true) : 0 ≤ x ∧ x < 256 := by
 simp [Lit.wf, IntKind.min, IntKind.max, IntKind.bits, IntKind.signed] at h
 omega

end Go.Proofs.Ytpkhddndapcpjaa

/- How a normal form among the laws' arguments is opened: two numbers and a slice of arrays of eight bytes. -/
namespace Go.Proofs.Ytpkhddndapcpjaa
open Go.ChangeShapes Go.WideShapes Go.ChangeAt Go.RowKit Go.Joins

theorem cellsNormal : Try.prog.cellsOf 24 = 3 := by kernel_rfl

/-- The number in a cell. -/
def numAt (w : World) (x : Addr) : Int := match w.cell? x with | some (.int _ v) => v | _ => 0

theorem numAt_of {w : World} {x : Addr} {k : IntKind} {v : Int} (h : w.cell? x = some (.int k v)) : numAt w x = v := by
 unfold numAt
 rw [h]

/-- The row at an address. -/
def rowFrom (w : World) (x : Addr) : List Int := [numAt w x, numAt w (x.add 1), numAt w (x.add 2), numAt w (x.add 3), numAt w (x.add 4), numAt w (x.add 5), numAt w (x.add 6), numAt w (x.add 7)]

theorem at8_rowFrom (w : World) (x : Addr) (j : Nat) (hj : j < 8) : at8 (rowFrom w x) j = numAt w (x.add j) := by
 have h0 : x.add 0 = x := by unfold Addr.add; split <;> simp_all
 have : j = 0 ∨ j = 1 ∨ j = 2 ∨ j = 3 ∨ j = 4 ∨ j = 5 ∨ j = 6 ∨ j = 7 := by omega
 rcases this with rfl | rfl | rfl | rfl | rfl | rfl | rfl | rfl <;> simp [at8, rowFrom, List.getD, h0]

/-- An array of eight bytes in memory. -/
theorem open_row {H : Type} {enc : TypeId × Value → H} {W : World} {base fuel : Nat} {x : Addr} {y : DataW H × List MemPlace}
  (h : (W.cells? base x 8).bind (DataW.trod enc Try.prog W base (fun _ => true) true fuel 52) = some y) :
  ∀ j, j < 8 → W.cell? (x.add j) = some (.int .u8 (numAt W (x.add j))) ∧ 0 ≤ numAt W (x.add j) ∧ numAt W (x.add j) < 256 := by
 rw [Option.bind_eq_some_iff] at h
 obtain ⟨cs, hcs, hy⟩ := h
 intro j hj
 obtain ⟨_, hl, hc⟩ := World.cells?_some hcs
 obtain ⟨xs, m, _, _, _, hxl, hx⟩ := DataW.trod_array Try.underlying52 hy
 rw [cellsByte] at hx
 have h1 := hx j hj
 have h3 : ((cs.drop (j * 1)).take 1) = [cs[j]'(by omega)] := by
  rw [Nat.mul_one, List.drop_eq_getElem_cons (by omega)]
  rfl
 rw [h3, List.getElem?_eq_getElem (by omega)] at h1
 obtain ⟨v, e0, _, ws⟩ := DataW.trod_int Try.underlying5 h1
 have h2 := hc j (by omega)
 rw [List.getElem?_eq_getElem (by omega)] at h2
 simp only [List.cons.injEq, and_true] at e0
 rw [e0] at h2
 rw [numAt_of h2]
 exact ⟨h2, byte_wf ws⟩

set_option maxRecDepth 100000 in
theorem open_normal {H : Type} {enc : TypeId × Value → H} {W : World} {base : Nat} {v : Value} {d : DataW H} {p : List MemPlace}
  (hv : Value.okWide Try.prog W .any base 24 v) (h : DataW.Trod enc Try.prog W 0 (fun _ => true) true 24 v d p) :
  ∃ (s q : Int) (a : Option Addr) (n cap : Nat) (rs : List (List Int)), v = .agg #[.int .i64 s, .int .i64 q, .slice a n cap] ∧ (Lit.int .i64 s).wf = true ∧ (Lit.int .i64 q).wf = true ∧ ReadsA W a n rs ∧ BytesA rs ∧ n ≤ maxLen := by
 obtain ⟨c0, c1, c2, y0, y1, y2, m, rfl, _, _, hy0, hy1, hy2⟩ := open_agg3 Try.underlying24 (by kernel_rfl) cellsNormal hv h
 obtain ⟨s, e0, _, ws⟩ := DataW.trod_int Try.underlying2 hy0
 simp at e0
 subst e0
 obtain ⟨q, e1, _, wq⟩ := DataW.trod_int Try.underlying2 hy1
 simp at e1
 subst e1
 rcases DataW.trod_slice Try.underlying22 hy2 with h0 | ⟨a, len, cap, elems, rest, k, _, hcs, _, hb, hl, hm, hlen, hel, _, _⟩
 ·obtain ⟨hcs, _⟩ := h0
  simp at hcs
  subst hcs
  exact ⟨s, q, none, 0, 0, [], rfl, ws, wq, .zero, (fun r hr => absurd hr List.not_mem_nil), Nat.zero_le _⟩
 ·simp at hcs
  subst hcs
  have key : ∀ i, i < len → ∀ j, j < 8 → W.cell? ((a.add (i * 8)).add j) = some (.int .u8 (numAt W ((a.add (i * 8)).add j))) ∧ 0 ≤ numAt W ((a.add (i * 8)).add j) ∧ numAt W ((a.add (i * 8)).add j) < 256 := by
   intro i hi
   have h1 := hel i hi
   rw [cellsArray, List.getElem?_eq_getElem (by omega)] at h1
   exact open_row h1
  refine ⟨s, q, some a, len, cap, (List.range len).map fun i => rowFrom W (a.add (i * 8)), rfl, ws, wq, ⟨by simp, ?_, ?_⟩, ?_, by omega⟩
  ·intro r hr
   obtain ⟨i, _, rfl⟩ := List.mem_map.1 hr
   rfl
  ·by_cases h0 : len = 0
   ·exact .inl h0
   ·obtain ⟨b, off, spot⟩ := a
    have hspot : spot = none := by
     have h1 := World.cell?_spot (key 0 (by omega) 0 (by omega)).1
     simpa [Addr.add] using h1
    subst hspot
    refine .inr ⟨b, off, rfl, fun i hi j hj => ?_⟩
    have h1 := (key i hi j hj).1
    have h2 : rowAt ((List.range len).map fun i => rowFrom W ((⟨b, off, none⟩ : Addr).add (i * 8))) i = rowFrom W ((⟨b, off, none⟩ : Addr).add (i * 8)) := by
     unfold rowAt
     simp [List.getD, hi]
    rw [h2, at8_rowFrom _ _ _ hj]
    rw [Addr.add_lit, Addr.add_lit] at h1
    rw [Addr.add_lit, Addr.add_lit]
    exact h1
  ·intro r hr
   obtain ⟨i, hi, rfl⟩ := List.mem_map.1 hr
   have hi := List.mem_range.1 hi
   intro j
   by_cases hj : j < 8
   ·rw [at8_rowFrom _ _ _ hj]
    exact (key i hi j hj).2
   ·rw [at8_over rfl j (by omega)]
    omega

end Go.Proofs.Ytpkhddndapcpjaa
