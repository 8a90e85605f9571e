/-
  No cell of these rows narrows 'for every input' (looked for: loops, veiled, ifaces, maps, wideKeys, modest, calm, conditions, laid).
  DERIVED. THE GIVEN ROWS OF THIS SEAT. 7 by the template 'for every input the law returns true; each argument reads behind the call as it read before'; 0 by the template 'total and deterministic' (their statements: YtinflgcpkeomlabTotals.lean).
  GIVEN WITH THE SEED: the statements are not yours to turn. If you find one false, say at which input.
  Laid BY PROGRAM, IN A SANDBOX (cutbox-rows.mjs): the forced cells as the released guide's own fill.sh prints them over the translation e30dec85109e90df… (all of the seat's roots in one cut). By AI agents, Wed Nov 11 2026. No macro, syntax, notation, axiom, sorry.
-/
import Derived.Test.YtinflgcpkeomlabChecked
import GoSem.Claim
import GoSem.ClaimJoined
import GoSem.ClaimMapViews
import Derived.JoinedTies
import Derived.KernelRfl
namespace Go.Proofs.Ytinflgcpkeomlab
/- THE CELL 'sum', in the pinned program and in every row, IS THE sha256 OF THE DUMP (.gsa) THAT YtinflgcpkeomlabProg.lean LOADS. Nothing in Lean hashes anything: it is a label: what it is worth is what the hold of that sum in a sandbox is worth. -/
noncomputable def Try.pinned : Pinned := { name := "ytinflgcpkeomlab", sum := "e30dec85109e90dfc4d76bb48fd309e801e6846eb2e23c8451b1fed01aff3ef7", checked := Try.checked }
namespace Rows
def none {H : Type} : Left H := { results := [], args := [] }

/-- 'laws.FnExactTurnOf': WHATEVER THE INPUT: true; the input reads as it did. -/
def fnExactTurnOfSpec : ChangeSpec := { name := "fnExactTurnOf", fn := fun _ => fun
  | [d1, d2] => { results := [.lit (.bool true)], args := [d1, d2] }
  | _ => none }
def fnExactTurnOfRow : OpenClaim := { program := "ytinflgcpkeomlab", sum := "e30dec85109e90dfc4d76bb48fd309e801e6846eb2e23c8451b1fed01aff3ef7", func := "loop.example/g01205/laws.FnExactTurnOf", spec := "fnExactTurnOf", unfollowed := true, recurses := true, plainKeys := false, apart := false }
def FnExactTurnOfSaid : Prop := fnExactTurnOfRow.holds Try.pinned (OpenSpec.ofChange fnExactTurnOfSpec)

/-- ITS FALSE NEIGHBOUR: 'it returns false'. Refute it at one input. -/
def fnExactTurnOfWrong : ChangeSpec := { name := "fnExactTurnOf", fn := fun _ => fun
  | [d1, d2] => { results := [.lit (.bool false)], args := [d1, d2] }
  | _ => none }
def FnExactTurnOfWrongFalsely : Prop := fnExactTurnOfRow.holds Try.pinned (OpenSpec.ofChange fnExactTurnOfWrong)

/-- 'laws.FnExactMeetOf': WHATEVER THE INPUT: true; the input reads as it did. -/
def fnExactMeetOfSpec : ChangeSpec := { name := "fnExactMeetOf", fn := fun _ => fun
  | [d1, d2, d3] => { results := [.lit (.bool true)], args := [d1, d2, d3] }
  | _ => none }
def fnExactMeetOfRow : OpenClaim := { program := "ytinflgcpkeomlab", sum := "e30dec85109e90dfc4d76bb48fd309e801e6846eb2e23c8451b1fed01aff3ef7", func := "loop.example/g01205/laws.FnExactMeetOf", spec := "fnExactMeetOf", unfollowed := true, recurses := true, plainKeys := false, apart := false }
def FnExactMeetOfSaid : Prop := fnExactMeetOfRow.holds Try.pinned (OpenSpec.ofChange fnExactMeetOfSpec)

/-- ITS FALSE NEIGHBOUR: 'it returns false'. Refute it at one input. -/
def fnExactMeetOfWrong : ChangeSpec := { name := "fnExactMeetOf", fn := fun _ => fun
  | [d1, d2, d3] => { results := [.lit (.bool false)], args := [d1, d2, d3] }
  | _ => none }
def FnExactMeetOfWrongFalsely : Prop := fnExactMeetOfRow.holds Try.pinned (OpenSpec.ofChange fnExactMeetOfWrong)

/-- 'laws.FnExactJoinOf': WHATEVER THE INPUT: true; the input reads as it did. -/
def fnExactJoinOfSpec : ChangeSpec := { name := "fnExactJoinOf", fn := fun _ => fun
  | [d1, d2, d3] => { results := [.lit (.bool true)], args := [d1, d2, d3] }
  | _ => none }
def fnExactJoinOfRow : OpenClaim := { program := "ytinflgcpkeomlab", sum := "e30dec85109e90dfc4d76bb48fd309e801e6846eb2e23c8451b1fed01aff3ef7", func := "loop.example/g01205/laws.FnExactJoinOf", spec := "fnExactJoinOf", unfollowed := true, recurses := true, plainKeys := false, apart := false }
def FnExactJoinOfSaid : Prop := fnExactJoinOfRow.holds Try.pinned (OpenSpec.ofChange fnExactJoinOfSpec)

/-- ITS FALSE NEIGHBOUR: 'it returns false'. Refute it at one input. -/
def fnExactJoinOfWrong : ChangeSpec := { name := "fnExactJoinOf", fn := fun _ => fun
  | [d1, d2, d3] => { results := [.lit (.bool false)], args := [d1, d2, d3] }
  | _ => none }
def FnExactJoinOfWrongFalsely : Prop := fnExactJoinOfRow.holds Try.pinned (OpenSpec.ofChange fnExactJoinOfWrong)

/-- 'laws.FnExactWordOfSimple': WHATEVER THE INPUT: true; the input reads as it did. -/
def fnExactWordOfSimpleSpec : ChangeSpec := { name := "fnExactWordOfSimple", fn := fun _ => fun
  | [d1, d2] => { results := [.lit (.bool true)], args := [d1, d2] }
  | _ => none }
def fnExactWordOfSimpleRow : OpenClaim := { program := "ytinflgcpkeomlab", sum := "e30dec85109e90dfc4d76bb48fd309e801e6846eb2e23c8451b1fed01aff3ef7", func := "loop.example/g01205/laws.FnExactWordOfSimple", spec := "fnExactWordOfSimple", unfollowed := true, recurses := true, plainKeys := false, apart := false }
def FnExactWordOfSimpleSaid : Prop := fnExactWordOfSimpleRow.holds Try.pinned (OpenSpec.ofChange fnExactWordOfSimpleSpec)

/-- ITS FALSE NEIGHBOUR: 'it returns false'. Refute it at one input. -/
def fnExactWordOfSimpleWrong : ChangeSpec := { name := "fnExactWordOfSimple", fn := fun _ => fun
  | [d1, d2] => { results := [.lit (.bool false)], args := [d1, d2] }
  | _ => none }
def FnExactWordOfSimpleWrongFalsely : Prop := fnExactWordOfSimpleRow.holds Try.pinned (OpenSpec.ofChange fnExactWordOfSimpleWrong)

/-- 'laws.FnExactSimpleOfWord': WHATEVER THE INPUT: true; the input reads as it did. -/
def fnExactSimpleOfWordSpec : ChangeSpec := { name := "fnExactSimpleOfWord", fn := fun _ => fun
  | [d1, d2] => { results := [.lit (.bool true)], args := [d1, d2] }
  | _ => none }
def fnExactSimpleOfWordRow : OpenClaim := { program := "ytinflgcpkeomlab", sum := "e30dec85109e90dfc4d76bb48fd309e801e6846eb2e23c8451b1fed01aff3ef7", func := "loop.example/g01205/laws.FnExactSimpleOfWord", spec := "fnExactSimpleOfWord", unfollowed := true, recurses := true, plainKeys := false, apart := false }
def FnExactSimpleOfWordSaid : Prop := fnExactSimpleOfWordRow.holds Try.pinned (OpenSpec.ofChange fnExactSimpleOfWordSpec)

/-- ITS FALSE NEIGHBOUR: 'it returns false'. Refute it at one input. -/
def fnExactSimpleOfWordWrong : ChangeSpec := { name := "fnExactSimpleOfWord", fn := fun _ => fun
  | [d1, d2] => { results := [.lit (.bool false)], args := [d1, d2] }
  | _ => none }
def FnExactSimpleOfWordWrongFalsely : Prop := fnExactSimpleOfWordRow.holds Try.pinned (OpenSpec.ofChange fnExactSimpleOfWordWrong)

/-- 'laws.FnSimples': WHATEVER THE INPUT: true; the input reads as it did. -/
def fnSimplesSpec : ChangeSpec := { name := "fnSimples", fn := fun _ => fun
  | [d] => { results := [.lit (.bool true)], args := [d] }
  | _ => none }
def fnSimplesRow : OpenClaim := { program := "ytinflgcpkeomlab", sum := "e30dec85109e90dfc4d76bb48fd309e801e6846eb2e23c8451b1fed01aff3ef7", func := "loop.example/g01205/laws.FnSimples", spec := "fnSimples", unfollowed := true, recurses := true, plainKeys := false, apart := false }
def FnSimplesSaid : Prop := fnSimplesRow.holds Try.pinned (OpenSpec.ofChange fnSimplesSpec)

/-- ITS FALSE NEIGHBOUR: 'it returns false'. Refute it at one input. -/
def fnSimplesWrong : ChangeSpec := { name := "fnSimples", fn := fun _ => fun
  | [d] => { results := [.lit (.bool false)], args := [d] }
  | _ => none }
def FnSimplesWrongFalsely : Prop := fnSimplesRow.holds Try.pinned (OpenSpec.ofChange fnSimplesWrong)

/-- 'laws.FnLattice': WHATEVER THE INPUT: true; the input reads as it did. -/
def fnLatticeSpec : ChangeSpec := { name := "fnLattice", fn := fun _ => fun
  | [d] => { results := [.lit (.bool true)], args := [d] }
  | _ => none }
def fnLatticeRow : OpenClaim := { program := "ytinflgcpkeomlab", sum := "e30dec85109e90dfc4d76bb48fd309e801e6846eb2e23c8451b1fed01aff3ef7", func := "loop.example/g01205/laws.FnLattice", spec := "fnLattice", unfollowed := true, recurses := true, plainKeys := false, apart := false }
def FnLatticeSaid : Prop := fnLatticeRow.holds Try.pinned (OpenSpec.ofChange fnLatticeSpec)

/-- ITS FALSE NEIGHBOUR: 'it returns false'. Refute it at one input. -/
def fnLatticeWrong : ChangeSpec := { name := "fnLattice", fn := fun _ => fun
  | [d] => { results := [.lit (.bool false)], args := [d] }
  | _ => none }
def FnLatticeWrongFalsely : Prop := fnLatticeRow.holds Try.pinned (OpenSpec.ofChange fnLatticeWrong)

/- THE SECOND FORM. 'bulk': how many values and letters a reading holds, each counted each time it is reached (what is shared counts as often as it is met; a slice's spare places count too). A statement '..UptoSaid' is the law's where the arguments, and the package variables that the reading takes, are together of bulk at most 1048576: NARROWER than '..Said'. Prove '..Said' where nothing that the law and all that it calls make is longer than what came in: it says more and counts as full. Else prove '..UptoSaid'. A law counts once. -/
mutual
def uptoBulk {H : Type} : DataW H → Nat
  | .lit (.string bytes) => bytes.length + 1
  | .lit _ => 1
  | .nil => 1
  | .ptr d => uptoBulk d + 1
  | .slice elems spare => uptoBulkAll elems + uptoBulkAll spare + 1
  | .agg parts => uptoBulkAll parts + 1
  | .iface _ d => uptoBulk d + 1
  | .map entries => uptoBulkEntries entries + 1
  | .held _ => 1
def uptoBulkAll {H : Type} : List (DataW H) → Nat
  | [] => 0
  | d :: r => uptoBulk d + uptoBulkAll r
def uptoBulkEntries {H : Type} : List (Lit × DataW H) → Nat
  | [] => 0
  | x :: r => uptoBulkEntry x + uptoBulkEntries r
def uptoBulkEntry {H : Type} : Lit × DataW H → Nat
  | (.string bytes, d) => bytes.length + uptoBulk d + 1
  | (_, d) => uptoBulk d + 1
 end
def uptoSmall : (H : Type) → List (DataW H) → Bool := fun _ ds => decide (uptoBulkAll ds ≤ 1048576)
def OpenSpec.upto (s : _root_.Go.ChangeSpec) : _root_.Go.OpenSpec := { _root_.Go.OpenSpec.ofChange s with cond := some uptoSmall }

/-- 'laws.FnExactTurnOf', WHERE WHAT IT READS IS OF BULK AT MOST 1048576: true; the input reads as it did. -/
def fnExactTurnOfUptoRow : OpenClaim := { program := "ytinflgcpkeomlab", sum := "e30dec85109e90dfc4d76bb48fd309e801e6846eb2e23c8451b1fed01aff3ef7", func := "loop.example/g01205/laws.FnExactTurnOf", spec := "fnExactTurnOf", unfollowed := true, recurses := true, plainKeys := false, apart := false, narrowed := true }
def FnExactTurnOfUptoSaid : Prop := fnExactTurnOfUptoRow.holds Try.pinned (OpenSpec.upto fnExactTurnOfSpec)

/-- 'laws.FnExactMeetOf', WHERE WHAT IT READS IS OF BULK AT MOST 1048576: true; the input reads as it did. -/
def fnExactMeetOfUptoRow : OpenClaim := { program := "ytinflgcpkeomlab", sum := "e30dec85109e90dfc4d76bb48fd309e801e6846eb2e23c8451b1fed01aff3ef7", func := "loop.example/g01205/laws.FnExactMeetOf", spec := "fnExactMeetOf", unfollowed := true, recurses := true, plainKeys := false, apart := false, narrowed := true }
def FnExactMeetOfUptoSaid : Prop := fnExactMeetOfUptoRow.holds Try.pinned (OpenSpec.upto fnExactMeetOfSpec)

/-- 'laws.FnExactJoinOf', WHERE WHAT IT READS IS OF BULK AT MOST 1048576: true; the input reads as it did. -/
def fnExactJoinOfUptoRow : OpenClaim := { program := "ytinflgcpkeomlab", sum := "e30dec85109e90dfc4d76bb48fd309e801e6846eb2e23c8451b1fed01aff3ef7", func := "loop.example/g01205/laws.FnExactJoinOf", spec := "fnExactJoinOf", unfollowed := true, recurses := true, plainKeys := false, apart := false, narrowed := true }
def FnExactJoinOfUptoSaid : Prop := fnExactJoinOfUptoRow.holds Try.pinned (OpenSpec.upto fnExactJoinOfSpec)

/-- 'laws.FnExactWordOfSimple', WHERE WHAT IT READS IS OF BULK AT MOST 1048576: true; the input reads as it did. -/
def fnExactWordOfSimpleUptoRow : OpenClaim := { program := "ytinflgcpkeomlab", sum := "e30dec85109e90dfc4d76bb48fd309e801e6846eb2e23c8451b1fed01aff3ef7", func := "loop.example/g01205/laws.FnExactWordOfSimple", spec := "fnExactWordOfSimple", unfollowed := true, recurses := true, plainKeys := false, apart := false, narrowed := true }
def FnExactWordOfSimpleUptoSaid : Prop := fnExactWordOfSimpleUptoRow.holds Try.pinned (OpenSpec.upto fnExactWordOfSimpleSpec)

/-- 'laws.FnExactSimpleOfWord', WHERE WHAT IT READS IS OF BULK AT MOST 1048576: true; the input reads as it did. -/
def fnExactSimpleOfWordUptoRow : OpenClaim := { program := "ytinflgcpkeomlab", sum := "e30dec85109e90dfc4d76bb48fd309e801e6846eb2e23c8451b1fed01aff3ef7", func := "loop.example/g01205/laws.FnExactSimpleOfWord", spec := "fnExactSimpleOfWord", unfollowed := true, recurses := true, plainKeys := false, apart := false, narrowed := true }
def FnExactSimpleOfWordUptoSaid : Prop := fnExactSimpleOfWordUptoRow.holds Try.pinned (OpenSpec.upto fnExactSimpleOfWordSpec)

/-- 'laws.FnSimples', WHERE WHAT IT READS IS OF BULK AT MOST 1048576: true; the input reads as it did. -/
def fnSimplesUptoRow : OpenClaim := { program := "ytinflgcpkeomlab", sum := "e30dec85109e90dfc4d76bb48fd309e801e6846eb2e23c8451b1fed01aff3ef7", func := "loop.example/g01205/laws.FnSimples", spec := "fnSimples", unfollowed := true, recurses := true, plainKeys := false, apart := false, narrowed := true }
def FnSimplesUptoSaid : Prop := fnSimplesUptoRow.holds Try.pinned (OpenSpec.upto fnSimplesSpec)

/-- 'laws.FnLattice', WHERE WHAT IT READS IS OF BULK AT MOST 1048576: true; the input reads as it did. -/
def fnLatticeUptoRow : OpenClaim := { program := "ytinflgcpkeomlab", sum := "e30dec85109e90dfc4d76bb48fd309e801e6846eb2e23c8451b1fed01aff3ef7", func := "loop.example/g01205/laws.FnLattice", spec := "fnLattice", unfollowed := true, recurses := true, plainKeys := false, apart := false, narrowed := true }
def FnLatticeUptoSaid : Prop := fnLatticeUptoRow.holds Try.pinned (OpenSpec.upto fnLatticeSpec)

end Rows
end Go.Proofs.Ytinflgcpkeomlab
