/-
  No cell of these rows narrows 'for every input' (looked for: loops, veiled, ifaces, maps, wideKeys, modest, calm, conditions, laid).
  DERIVED. THE GIVEN ROWS OF THIS SEAT. 4 by the template 'for every input the law returns true; each argument reads behind the call as it read before'; 0 by the template 'total and deterministic' (their statements: YteffndmifogicaaTotals.lean).
  GIVEN WITH THE SEED: the statements are not yours to turn. If you find one false, say at which input.
  Laid BY PROGRAM, IN A SANDBOX (cutbox-rows.mjs): the forced cells as the released guide's own fill.sh prints them over the translation 7e93888322c9b150… (all of the seat's roots in one cut). By AI agents, Wed Nov 11 2026. No macro, syntax, notation, axiom, sorry.
-/
import Derived.Test.YteffndmifogicaaChecked
import GoSem.Claim
import GoSem.ClaimJoined
import GoSem.ClaimMapViews
import Derived.JoinedTies
import Derived.KernelRfl
namespace Go.Proofs.Yteffndmifogicaa
/- THE CELL 'sum', in the pinned program and in every row, IS THE sha256 OF THE DUMP (.gsa) THAT YteffndmifogicaaProg.lean LOADS. Nothing in Lean hashes anything: it is a label: what it is worth is what the hold of that sum in a sandbox is worth. -/
noncomputable def Try.pinned : Pinned := { name := "yteffndmifogicaa", sum := "7e93888322c9b150dde99ba06945dca12f483213228ac4d03a52b3e522398b58", checked := Try.checked }
namespace Rows
def none {H : Type} : Left H := { results := [], args := [] }

/-- 'laws.FnExactCommonBeginning': WHATEVER THE INPUT: true; the input reads as it did. -/
def fnExactCommonBeginningSpec : ChangeSpec := { name := "fnExactCommonBeginning", fn := fun _ => fun
  | [d1, d2] => { results := [.lit (.bool true)], args := [d1, d2] }
  | _ => none }
def fnExactCommonBeginningRow : OpenClaim := { program := "yteffndmifogicaa", sum := "7e93888322c9b150dde99ba06945dca12f483213228ac4d03a52b3e522398b58", func := "loop.example/g01205/laws.FnExactCommonBeginning", spec := "fnExactCommonBeginning", unfollowed := true, recurses := true, plainKeys := false, apart := false }
def FnExactCommonBeginningSaid : Prop := fnExactCommonBeginningRow.holds Try.pinned (OpenSpec.ofChange fnExactCommonBeginningSpec)

/-- ITS FALSE NEIGHBOUR: 'it returns false'. Refute it at one input. -/
def fnExactCommonBeginningWrong : ChangeSpec := { name := "fnExactCommonBeginning", fn := fun _ => fun
  | [d1, d2] => { results := [.lit (.bool false)], args := [d1, d2] }
  | _ => none }
def FnExactCommonBeginningWrongFalsely : Prop := fnExactCommonBeginningRow.holds Try.pinned (OpenSpec.ofChange fnExactCommonBeginningWrong)

/-- 'laws.FnExactSameBraid': WHATEVER THE INPUT: true; the input reads as it did. -/
def fnExactSameBraidSpec : ChangeSpec := { name := "fnExactSameBraid", fn := fun _ => fun
  | [d1, d2] => { results := [.lit (.bool true)], args := [d1, d2] }
  | _ => none }
def fnExactSameBraidRow : OpenClaim := { program := "yteffndmifogicaa", sum := "7e93888322c9b150dde99ba06945dca12f483213228ac4d03a52b3e522398b58", func := "loop.example/g01205/laws.FnExactSameBraid", spec := "fnExactSameBraid", unfollowed := true, recurses := true, plainKeys := false, apart := false }
def FnExactSameBraidSaid : Prop := fnExactSameBraidRow.holds Try.pinned (OpenSpec.ofChange fnExactSameBraidSpec)

/-- ITS FALSE NEIGHBOUR: 'it returns false'. Refute it at one input. -/
def fnExactSameBraidWrong : ChangeSpec := { name := "fnExactSameBraid", fn := fun _ => fun
  | [d1, d2] => { results := [.lit (.bool false)], args := [d1, d2] }
  | _ => none }
def FnExactSameBraidWrongFalsely : Prop := fnExactSameBraidRow.holds Try.pinned (OpenSpec.ofChange fnExactSameBraidWrong)

/-- 'laws.FnExactWordOfNormal': WHATEVER THE INPUT: true; the input reads as it did. -/
def fnExactWordOfNormalSpec : ChangeSpec := { name := "fnExactWordOfNormal", fn := fun _ => fun
  | [d] => { results := [.lit (.bool true)], args := [d] }
  | _ => none }
def fnExactWordOfNormalRow : OpenClaim := { program := "yteffndmifogicaa", sum := "7e93888322c9b150dde99ba06945dca12f483213228ac4d03a52b3e522398b58", func := "loop.example/g01205/laws.FnExactWordOfNormal", spec := "fnExactWordOfNormal", unfollowed := true, recurses := true, plainKeys := false, apart := false }
def FnExactWordOfNormalSaid : Prop := fnExactWordOfNormalRow.holds Try.pinned (OpenSpec.ofChange fnExactWordOfNormalSpec)

/-- ITS FALSE NEIGHBOUR: 'it returns false'. Refute it at one input. -/
def fnExactWordOfNormalWrong : ChangeSpec := { name := "fnExactWordOfNormal", fn := fun _ => fun
  | [d] => { results := [.lit (.bool false)], args := [d] }
  | _ => none }
def FnExactWordOfNormalWrongFalsely : Prop := fnExactWordOfNormalRow.holds Try.pinned (OpenSpec.ofChange fnExactWordOfNormalWrong)

/-- 'laws.FnExactCrossingsOf': WHATEVER THE INPUT: true; the input reads as it did. -/
def fnExactCrossingsOfSpec : ChangeSpec := { name := "fnExactCrossingsOf", fn := fun _ => fun
  | [d] => { results := [.lit (.bool true)], args := [d] }
  | _ => none }
def fnExactCrossingsOfRow : OpenClaim := { program := "yteffndmifogicaa", sum := "7e93888322c9b150dde99ba06945dca12f483213228ac4d03a52b3e522398b58", func := "loop.example/g01205/laws.FnExactCrossingsOf", spec := "fnExactCrossingsOf", plainKeys := false, apart := false }
def FnExactCrossingsOfSaid : Prop := fnExactCrossingsOfRow.holds Try.pinned (OpenSpec.ofChange fnExactCrossingsOfSpec)

/-- ITS FALSE NEIGHBOUR: 'it returns false'. Refute it at one input. -/
def fnExactCrossingsOfWrong : ChangeSpec := { name := "fnExactCrossingsOf", fn := fun _ => fun
  | [d] => { results := [.lit (.bool false)], args := [d] }
  | _ => none }
def FnExactCrossingsOfWrongFalsely : Prop := fnExactCrossingsOfRow.holds Try.pinned (OpenSpec.ofChange fnExactCrossingsOfWrong)

/- THE SECOND FORM. 'bulk': how many values and letters a reading holds, each counted each time it is reached (what is shared counts as often as it is met; a slice's spare places count too). A statement '..UptoSaid' is the law's where the arguments, and the package variables that the reading takes, are together of bulk at most 1048576: NARROWER than '..Said'. Prove '..Said' where nothing that the law and all that it calls make is longer than what came in: it says more and counts as full. Else prove '..UptoSaid'. A law counts once. -/
mutual
def uptoBulk {H : Type} : DataW H → Nat
  | .lit (.string bytes) => bytes.length + 1
  | .lit _ => 1
  | .nil => 1
  | .ptr d => uptoBulk d + 1
  | .slice elems spare => uptoBulkAll elems + uptoBulkAll spare + 1
  | .agg parts => uptoBulkAll parts + 1
  | .iface _ d => uptoBulk d + 1
  | .map entries => uptoBulkEntries entries + 1
  | .held _ => 1
def uptoBulkAll {H : Type} : List (DataW H) → Nat
  | [] => 0
  | d :: r => uptoBulk d + uptoBulkAll r
def uptoBulkEntries {H : Type} : List (Lit × DataW H) → Nat
  | [] => 0
  | x :: r => uptoBulkEntry x + uptoBulkEntries r
def uptoBulkEntry {H : Type} : Lit × DataW H → Nat
  | (.string bytes, d) => bytes.length + uptoBulk d + 1
  | (_, d) => uptoBulk d + 1
 end
def uptoSmall : (H : Type) → List (DataW H) → Bool := fun _ ds => decide (uptoBulkAll ds ≤ 1048576)
def OpenSpec.upto (s : _root_.Go.ChangeSpec) : _root_.Go.OpenSpec := { _root_.Go.OpenSpec.ofChange s with cond := some uptoSmall }

/-- 'laws.FnExactCommonBeginning', WHERE WHAT IT READS IS OF BULK AT MOST 1048576: true; the input reads as it did. -/
def fnExactCommonBeginningUptoRow : OpenClaim := { program := "yteffndmifogicaa", sum := "7e93888322c9b150dde99ba06945dca12f483213228ac4d03a52b3e522398b58", func := "loop.example/g01205/laws.FnExactCommonBeginning", spec := "fnExactCommonBeginning", unfollowed := true, recurses := true, plainKeys := false, apart := false, narrowed := true }
def FnExactCommonBeginningUptoSaid : Prop := fnExactCommonBeginningUptoRow.holds Try.pinned (OpenSpec.upto fnExactCommonBeginningSpec)

/-- 'laws.FnExactSameBraid', WHERE WHAT IT READS IS OF BULK AT MOST 1048576: true; the input reads as it did. -/
def fnExactSameBraidUptoRow : OpenClaim := { program := "yteffndmifogicaa", sum := "7e93888322c9b150dde99ba06945dca12f483213228ac4d03a52b3e522398b58", func := "loop.example/g01205/laws.FnExactSameBraid", spec := "fnExactSameBraid", unfollowed := true, recurses := true, plainKeys := false, apart := false, narrowed := true }
def FnExactSameBraidUptoSaid : Prop := fnExactSameBraidUptoRow.holds Try.pinned (OpenSpec.upto fnExactSameBraidSpec)

/-- 'laws.FnExactWordOfNormal', WHERE WHAT IT READS IS OF BULK AT MOST 1048576: true; the input reads as it did. -/
def fnExactWordOfNormalUptoRow : OpenClaim := { program := "yteffndmifogicaa", sum := "7e93888322c9b150dde99ba06945dca12f483213228ac4d03a52b3e522398b58", func := "loop.example/g01205/laws.FnExactWordOfNormal", spec := "fnExactWordOfNormal", unfollowed := true, recurses := true, plainKeys := false, apart := false, narrowed := true }
def FnExactWordOfNormalUptoSaid : Prop := fnExactWordOfNormalUptoRow.holds Try.pinned (OpenSpec.upto fnExactWordOfNormalSpec)

/-- 'laws.FnExactCrossingsOf', WHERE WHAT IT READS IS OF BULK AT MOST 1048576: true; the input reads as it did. -/
def fnExactCrossingsOfUptoRow : OpenClaim := { program := "yteffndmifogicaa", sum := "7e93888322c9b150dde99ba06945dca12f483213228ac4d03a52b3e522398b58", func := "loop.example/g01205/laws.FnExactCrossingsOf", spec := "fnExactCrossingsOf", plainKeys := false, apart := false, narrowed := true }
def FnExactCrossingsOfUptoSaid : Prop := fnExactCrossingsOfUptoRow.holds Try.pinned (OpenSpec.upto fnExactCrossingsOfSpec)

end Rows
end Go.Proofs.Yteffndmifogicaa
