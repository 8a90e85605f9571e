/-
  No cell of these rows narrows 'for every input' (looked for: loops, veiled, ifaces, maps, wideKeys, modest, calm, conditions, laid).
  DERIVED. THE GIVEN ROWS OF THIS SEAT. 3 by the template 'for every input the law returns true; each argument reads behind the call as it read before'; 0 by the template 'total and deterministic' (their statements: YtmiihjhhbjpalabTotals.lean).
  GIVEN WITH THE SEED: the statements are not yours to turn. If you find one false, say at which input.
  Laid BY PROGRAM, IN A SANDBOX (cutbox-rows.mjs): the forced cells as the released guide's own fill.sh prints them over the translation 943db44ea55117de… (all of the seat's roots in one cut). By AI agents, Wed Nov 11 2026. No macro, syntax, notation, axiom, sorry.
-/
import Derived.Test.YtmiihjhhbjpalabChecked
import GoSem.Claim
import GoSem.ClaimJoined
import GoSem.ClaimMapViews
import Derived.JoinedTies
import Derived.KernelRfl
namespace Go.Proofs.Ytmiihjhhbjpalab
/- THE CELL 'sum', in the pinned program and in every row, IS THE sha256 OF THE DUMP (.gsa) THAT YtmiihjhhbjpalabProg.lean LOADS. Nothing in Lean hashes anything: it is a label: what it is worth is what the hold of that sum in a sandbox is worth. -/
noncomputable def Try.pinned : Pinned := { name := "ytmiihjhhbjpalab", sum := "943db44ea55117de7ebd9c9bc5fc2aaa2ec4388fd93749f93961da507202d933", checked := Try.checked }
namespace Rows
def none {H : Type} : Left H := { results := [], args := [] }

/-- 'laws.FnExactIsPure': WHATEVER THE INPUT: true; the input reads as it did. -/
def fnExactIsPureSpec : ChangeSpec := { name := "fnExactIsPure", fn := fun _ => fun
  | [d] => { results := [.lit (.bool true)], args := [d] }
  | _ => none }
def fnExactIsPureRow : OpenClaim := { program := "ytmiihjhhbjpalab", sum := "943db44ea55117de7ebd9c9bc5fc2aaa2ec4388fd93749f93961da507202d933", func := "loop.example/g01205/laws.FnExactIsPure", spec := "fnExactIsPure", apart := false }
def FnExactIsPureSaid : Prop := fnExactIsPureRow.holds Try.pinned (OpenSpec.ofChange fnExactIsPureSpec)

/-- ITS FALSE NEIGHBOUR: 'it returns false'. Refute it at one input. -/
def fnExactIsPureWrong : ChangeSpec := { name := "fnExactIsPure", fn := fun _ => fun
  | [d] => { results := [.lit (.bool false)], args := [d] }
  | _ => none }
def FnExactIsPureWrongFalsely : Prop := fnExactIsPureRow.holds Try.pinned (OpenSpec.ofChange fnExactIsPureWrong)

/-- 'laws.FnExactHalfTurnBraid': WHATEVER THE INPUT: true; the input reads as it did. -/
def fnExactHalfTurnBraidSpec : ChangeSpec := { name := "fnExactHalfTurnBraid", fn := fun _ => fun
  | [d] => { results := [.lit (.bool true)], args := [d] }
  | _ => none }
def fnExactHalfTurnBraidRow : OpenClaim := { program := "ytmiihjhhbjpalab", sum := "943db44ea55117de7ebd9c9bc5fc2aaa2ec4388fd93749f93961da507202d933", func := "loop.example/g01205/laws.FnExactHalfTurnBraid", spec := "fnExactHalfTurnBraid", apart := false }
def FnExactHalfTurnBraidSaid : Prop := fnExactHalfTurnBraidRow.holds Try.pinned (OpenSpec.ofChange fnExactHalfTurnBraidSpec)

/-- ITS FALSE NEIGHBOUR: 'it returns false'. Refute it at one input. -/
def fnExactHalfTurnBraidWrong : ChangeSpec := { name := "fnExactHalfTurnBraid", fn := fun _ => fun
  | [d] => { results := [.lit (.bool false)], args := [d] }
  | _ => none }
def FnExactHalfTurnBraidWrongFalsely : Prop := fnExactHalfTurnBraidRow.holds Try.pinned (OpenSpec.ofChange fnExactHalfTurnBraidWrong)

/-- 'laws.FnExactFullTurnBraid': WHATEVER THE INPUT: true; the input reads as it did. -/
def fnExactFullTurnBraidSpec : ChangeSpec := { name := "fnExactFullTurnBraid", fn := fun _ => fun
  | [d] => { results := [.lit (.bool true)], args := [d] }
  | _ => none }
def fnExactFullTurnBraidRow : OpenClaim := { program := "ytmiihjhhbjpalab", sum := "943db44ea55117de7ebd9c9bc5fc2aaa2ec4388fd93749f93961da507202d933", func := "loop.example/g01205/laws.FnExactFullTurnBraid", spec := "fnExactFullTurnBraid", apart := false }
def FnExactFullTurnBraidSaid : Prop := fnExactFullTurnBraidRow.holds Try.pinned (OpenSpec.ofChange fnExactFullTurnBraidSpec)

/-- ITS FALSE NEIGHBOUR: 'it returns false'. Refute it at one input. -/
def fnExactFullTurnBraidWrong : ChangeSpec := { name := "fnExactFullTurnBraid", fn := fun _ => fun
  | [d] => { results := [.lit (.bool false)], args := [d] }
  | _ => none }
def FnExactFullTurnBraidWrongFalsely : Prop := fnExactFullTurnBraidRow.holds Try.pinned (OpenSpec.ofChange fnExactFullTurnBraidWrong)

/- THE SECOND FORM. 'bulk': how many values and letters a reading holds, each counted each time it is reached (what is shared counts as often as it is met; a slice's spare places count too). A statement '..UptoSaid' is the law's where the arguments, and the package variables that the reading takes, are together of bulk at most 1048576: NARROWER than '..Said'. Prove '..Said' where nothing that the law and all that it calls make is longer than what came in: it says more and counts as full. Else prove '..UptoSaid'. A law counts once. -/
mutual
def uptoBulk {H : Type} : DataW H → Nat
  | .lit (.string bytes) => bytes.length + 1
  | .lit _ => 1
  | .nil => 1
  | .ptr d => uptoBulk d + 1
  | .slice elems spare => uptoBulkAll elems + uptoBulkAll spare + 1
  | .agg parts => uptoBulkAll parts + 1
  | .iface _ d => uptoBulk d + 1
  | .map entries => uptoBulkEntries entries + 1
  | .held _ => 1
def uptoBulkAll {H : Type} : List (DataW H) → Nat
  | [] => 0
  | d :: r => uptoBulk d + uptoBulkAll r
def uptoBulkEntries {H : Type} : List (Lit × DataW H) → Nat
  | [] => 0
  | x :: r => uptoBulkEntry x + uptoBulkEntries r
def uptoBulkEntry {H : Type} : Lit × DataW H → Nat
  | (.string bytes, d) => bytes.length + uptoBulk d + 1
  | (_, d) => uptoBulk d + 1
 end
def uptoSmall : (H : Type) → List (DataW H) → Bool := fun _ ds => decide (uptoBulkAll ds ≤ 1048576)
def OpenSpec.upto (s : _root_.Go.ChangeSpec) : _root_.Go.OpenSpec := { _root_.Go.OpenSpec.ofChange s with cond := some uptoSmall }

/-- 'laws.FnExactIsPure', WHERE WHAT IT READS IS OF BULK AT MOST 1048576: true; the input reads as it did. -/
def fnExactIsPureUptoRow : OpenClaim := { program := "ytmiihjhhbjpalab", sum := "943db44ea55117de7ebd9c9bc5fc2aaa2ec4388fd93749f93961da507202d933", func := "loop.example/g01205/laws.FnExactIsPure", spec := "fnExactIsPure", apart := false, narrowed := true }
def FnExactIsPureUptoSaid : Prop := fnExactIsPureUptoRow.holds Try.pinned (OpenSpec.upto fnExactIsPureSpec)

/-- 'laws.FnExactHalfTurnBraid', WHERE WHAT IT READS IS OF BULK AT MOST 1048576: true; the input reads as it did. -/
def fnExactHalfTurnBraidUptoRow : OpenClaim := { program := "ytmiihjhhbjpalab", sum := "943db44ea55117de7ebd9c9bc5fc2aaa2ec4388fd93749f93961da507202d933", func := "loop.example/g01205/laws.FnExactHalfTurnBraid", spec := "fnExactHalfTurnBraid", apart := false, narrowed := true }
def FnExactHalfTurnBraidUptoSaid : Prop := fnExactHalfTurnBraidUptoRow.holds Try.pinned (OpenSpec.upto fnExactHalfTurnBraidSpec)

/-- 'laws.FnExactFullTurnBraid', WHERE WHAT IT READS IS OF BULK AT MOST 1048576: true; the input reads as it did. -/
def fnExactFullTurnBraidUptoRow : OpenClaim := { program := "ytmiihjhhbjpalab", sum := "943db44ea55117de7ebd9c9bc5fc2aaa2ec4388fd93749f93961da507202d933", func := "loop.example/g01205/laws.FnExactFullTurnBraid", spec := "fnExactFullTurnBraid", apart := false, narrowed := true }
def FnExactFullTurnBraidUptoSaid : Prop := fnExactFullTurnBraidUptoRow.holds Try.pinned (OpenSpec.upto fnExactFullTurnBraidSpec)

end Rows
end Go.Proofs.Ytmiihjhhbjpalab
