/-
  No cell of these rows narrows 'for every input' (looked for: loops, veiled, ifaces, maps, wideKeys, modest, calm, conditions, laid).
  DERIVED. THE GIVEN ROWS OF THIS SEAT. 14 by the template 'for every input the law returns true; each argument reads behind the call as it read before'; 0 by the template 'total and deterministic' (their statements: YtkedkleddpnanaaTotals.lean).
  GIVEN WITH THE SEED: the statements are not yours to turn. If you find one false, say at which input.
  Laid BY PROGRAM, IN A SANDBOX (cutbox-rows.mjs): the forced cells as the released guide's own fill.sh prints them over the translation 871d594fb661dbbc… (all of the seat's roots in one cut). By AI agents, Wed Nov 11 2026. No macro, syntax, notation, axiom, sorry.
-/
import Derived.Test.YtkedkleddpnanaaChecked
import GoSem.Claim
import GoSem.ClaimJoined
import GoSem.ClaimMapViews
import Derived.JoinedTies
import Derived.KernelRfl
namespace Go.Proofs.Ytkedkleddpnanaa
/- THE CELL 'sum', in the pinned program and in every row, IS THE sha256 OF THE DUMP (.gsa) THAT YtkedkleddpnanaaProg.lean LOADS. Nothing in Lean hashes anything: it is a label: what it is worth is what the hold of that sum in a sandbox is worth. -/
noncomputable def Try.pinned : Pinned := { name := "ytkedkleddpnanaa", sum := "871d594fb661dbbcb39201827337a40cbbb2ada0fdea5cafa174f06d15ccea37", checked := Try.checked }
namespace Rows
def none {H : Type} : Left H := { results := [], args := [] }

/-- 'laws.FnExactWordOfSimple': WHATEVER THE INPUT: true; the input reads as it did. -/
def fnExactWordOfSimpleSpec : ChangeSpec := { name := "fnExactWordOfSimple", fn := fun _ => fun
  | [d1, d2] => { results := [.lit (.bool true)], args := [d1, d2] }
  | _ => none }
def fnExactWordOfSimpleRow : OpenClaim := { program := "ytkedkleddpnanaa", sum := "871d594fb661dbbcb39201827337a40cbbb2ada0fdea5cafa174f06d15ccea37", func := "loop.example/g01205/laws.FnExactWordOfSimple", spec := "fnExactWordOfSimple", unfollowed := true, recurses := true, plainKeys := false, apart := false }
def FnExactWordOfSimpleSaid : Prop := fnExactWordOfSimpleRow.holds Try.pinned (OpenSpec.ofChange fnExactWordOfSimpleSpec)

/-- ITS FALSE NEIGHBOUR: 'it returns false'. Refute it at one input. -/
def fnExactWordOfSimpleWrong : ChangeSpec := { name := "fnExactWordOfSimple", fn := fun _ => fun
  | [d1, d2] => { results := [.lit (.bool false)], args := [d1, d2] }
  | _ => none }
def FnExactWordOfSimpleWrongFalsely : Prop := fnExactWordOfSimpleRow.holds Try.pinned (OpenSpec.ofChange fnExactWordOfSimpleWrong)

/-- 'laws.FnExactIsNormal': WHATEVER THE INPUT: true; the input reads as it did. -/
def fnExactIsNormalSpec : ChangeSpec := { name := "fnExactIsNormal", fn := fun _ => fun
  | [d] => { results := [.lit (.bool true)], args := [d] }
  | _ => none }
def fnExactIsNormalRow : OpenClaim := { program := "ytkedkleddpnanaa", sum := "871d594fb661dbbcb39201827337a40cbbb2ada0fdea5cafa174f06d15ccea37", func := "loop.example/g01205/laws.FnExactIsNormal", spec := "fnExactIsNormal", unfollowed := true, recurses := true, plainKeys := false, apart := false }
def FnExactIsNormalSaid : Prop := fnExactIsNormalRow.holds Try.pinned (OpenSpec.ofChange fnExactIsNormalSpec)

/-- ITS FALSE NEIGHBOUR: 'it returns false'. Refute it at one input. -/
def fnExactIsNormalWrong : ChangeSpec := { name := "fnExactIsNormal", fn := fun _ => fun
  | [d] => { results := [.lit (.bool false)], args := [d] }
  | _ => none }
def FnExactIsNormalWrongFalsely : Prop := fnExactIsNormalRow.holds Try.pinned (OpenSpec.ofChange fnExactIsNormalWrong)

/-- 'laws.FnExactNormalOf': WHATEVER THE INPUT: true; the input reads as it did. -/
def fnExactNormalOfSpec : ChangeSpec := { name := "fnExactNormalOf", fn := fun _ => fun
  | [d] => { results := [.lit (.bool true)], args := [d] }
  | _ => none }
def fnExactNormalOfRow : OpenClaim := { program := "ytkedkleddpnanaa", sum := "871d594fb661dbbcb39201827337a40cbbb2ada0fdea5cafa174f06d15ccea37", func := "loop.example/g01205/laws.FnExactNormalOf", spec := "fnExactNormalOf", unfollowed := true, recurses := true, plainKeys := false, apart := false }
def FnExactNormalOfSaid : Prop := fnExactNormalOfRow.holds Try.pinned (OpenSpec.ofChange fnExactNormalOfSpec)

/-- ITS FALSE NEIGHBOUR: 'it returns false'. Refute it at one input. -/
def fnExactNormalOfWrong : ChangeSpec := { name := "fnExactNormalOf", fn := fun _ => fun
  | [d] => { results := [.lit (.bool false)], args := [d] }
  | _ => none }
def FnExactNormalOfWrongFalsely : Prop := fnExactNormalOfRow.holds Try.pinned (OpenSpec.ofChange fnExactNormalOfWrong)

/-- 'laws.FnExactRightNormalOf': WHATEVER THE INPUT: true; the input reads as it did. -/
def fnExactRightNormalOfSpec : ChangeSpec := { name := "fnExactRightNormalOf", fn := fun _ => fun
  | [d] => { results := [.lit (.bool true)], args := [d] }
  | _ => none }
def fnExactRightNormalOfRow : OpenClaim := { program := "ytkedkleddpnanaa", sum := "871d594fb661dbbcb39201827337a40cbbb2ada0fdea5cafa174f06d15ccea37", func := "loop.example/g01205/laws.FnExactRightNormalOf", spec := "fnExactRightNormalOf", unfollowed := true, recurses := true, plainKeys := false, apart := false }
def FnExactRightNormalOfSaid : Prop := fnExactRightNormalOfRow.holds Try.pinned (OpenSpec.ofChange fnExactRightNormalOfSpec)

/-- ITS FALSE NEIGHBOUR: 'it returns false'. Refute it at one input. -/
def fnExactRightNormalOfWrong : ChangeSpec := { name := "fnExactRightNormalOf", fn := fun _ => fun
  | [d] => { results := [.lit (.bool false)], args := [d] }
  | _ => none }
def FnExactRightNormalOfWrongFalsely : Prop := fnExactRightNormalOfRow.holds Try.pinned (OpenSpec.ofChange fnExactRightNormalOfWrong)

/-- 'laws.FnExactMultiplyNormals': WHATEVER THE INPUT: true; the input reads as it did. -/
def fnExactMultiplyNormalsSpec : ChangeSpec := { name := "fnExactMultiplyNormals", fn := fun _ => fun
  | [d1, d2] => { results := [.lit (.bool true)], args := [d1, d2] }
  | _ => none }
def fnExactMultiplyNormalsRow : OpenClaim := { program := "ytkedkleddpnanaa", sum := "871d594fb661dbbcb39201827337a40cbbb2ada0fdea5cafa174f06d15ccea37", func := "loop.example/g01205/laws.FnExactMultiplyNormals", spec := "fnExactMultiplyNormals", unfollowed := true, recurses := true, plainKeys := false, apart := false }
def FnExactMultiplyNormalsSaid : Prop := fnExactMultiplyNormalsRow.holds Try.pinned (OpenSpec.ofChange fnExactMultiplyNormalsSpec)

/-- ITS FALSE NEIGHBOUR: 'it returns false'. Refute it at one input. -/
def fnExactMultiplyNormalsWrong : ChangeSpec := { name := "fnExactMultiplyNormals", fn := fun _ => fun
  | [d1, d2] => { results := [.lit (.bool false)], args := [d1, d2] }
  | _ => none }
def FnExactMultiplyNormalsWrongFalsely : Prop := fnExactMultiplyNormalsRow.holds Try.pinned (OpenSpec.ofChange fnExactMultiplyNormalsWrong)

/-- 'laws.FnExactInverseNormal': WHATEVER THE INPUT: true; the input reads as it did. -/
def fnExactInverseNormalSpec : ChangeSpec := { name := "fnExactInverseNormal", fn := fun _ => fun
  | [d] => { results := [.lit (.bool true)], args := [d] }
  | _ => none }
def fnExactInverseNormalRow : OpenClaim := { program := "ytkedkleddpnanaa", sum := "871d594fb661dbbcb39201827337a40cbbb2ada0fdea5cafa174f06d15ccea37", func := "loop.example/g01205/laws.FnExactInverseNormal", spec := "fnExactInverseNormal", unfollowed := true, recurses := true, plainKeys := false, apart := false }
def FnExactInverseNormalSaid : Prop := fnExactInverseNormalRow.holds Try.pinned (OpenSpec.ofChange fnExactInverseNormalSpec)

/-- ITS FALSE NEIGHBOUR: 'it returns false'. Refute it at one input. -/
def fnExactInverseNormalWrong : ChangeSpec := { name := "fnExactInverseNormal", fn := fun _ => fun
  | [d] => { results := [.lit (.bool false)], args := [d] }
  | _ => none }
def FnExactInverseNormalWrongFalsely : Prop := fnExactInverseNormalRow.holds Try.pinned (OpenSpec.ofChange fnExactInverseNormalWrong)

/-- 'laws.FnExactPowerNormal': WHATEVER THE INPUT: true; the input reads as it did. -/
def fnExactPowerNormalSpec : ChangeSpec := { name := "fnExactPowerNormal", fn := fun _ => fun
  | [d1, d2] => { results := [.lit (.bool true)], args := [d1, d2] }
  | _ => none }
def fnExactPowerNormalRow : OpenClaim := { program := "ytkedkleddpnanaa", sum := "871d594fb661dbbcb39201827337a40cbbb2ada0fdea5cafa174f06d15ccea37", func := "loop.example/g01205/laws.FnExactPowerNormal", spec := "fnExactPowerNormal", unfollowed := true, recurses := true, plainKeys := false, apart := false }
def FnExactPowerNormalSaid : Prop := fnExactPowerNormalRow.holds Try.pinned (OpenSpec.ofChange fnExactPowerNormalSpec)

/-- ITS FALSE NEIGHBOUR: 'it returns false'. Refute it at one input. -/
def fnExactPowerNormalWrong : ChangeSpec := { name := "fnExactPowerNormal", fn := fun _ => fun
  | [d1, d2] => { results := [.lit (.bool false)], args := [d1, d2] }
  | _ => none }
def FnExactPowerNormalWrongFalsely : Prop := fnExactPowerNormalRow.holds Try.pinned (OpenSpec.ofChange fnExactPowerNormalWrong)

/-- 'laws.FnExactLengthsOf': WHATEVER THE INPUT: true; the input reads as it did. -/
def fnExactLengthsOfSpec : ChangeSpec := { name := "fnExactLengthsOf", fn := fun _ => fun
  | [d] => { results := [.lit (.bool true)], args := [d] }
  | _ => none }
def fnExactLengthsOfRow : OpenClaim := { program := "ytkedkleddpnanaa", sum := "871d594fb661dbbcb39201827337a40cbbb2ada0fdea5cafa174f06d15ccea37", func := "loop.example/g01205/laws.FnExactLengthsOf", spec := "fnExactLengthsOf", unfollowed := true, recurses := true, plainKeys := false, apart := false }
def FnExactLengthsOfSaid : Prop := fnExactLengthsOfRow.holds Try.pinned (OpenSpec.ofChange fnExactLengthsOfSpec)

/-- ITS FALSE NEIGHBOUR: 'it returns false'. Refute it at one input. -/
def fnExactLengthsOfWrong : ChangeSpec := { name := "fnExactLengthsOf", fn := fun _ => fun
  | [d] => { results := [.lit (.bool false)], args := [d] }
  | _ => none }
def FnExactLengthsOfWrongFalsely : Prop := fnExactLengthsOfRow.holds Try.pinned (OpenSpec.ofChange fnExactLengthsOfWrong)

/-- 'laws.FnExactWordOfNormal': WHATEVER THE INPUT: true; the input reads as it did. -/
def fnExactWordOfNormalSpec : ChangeSpec := { name := "fnExactWordOfNormal", fn := fun _ => fun
  | [d] => { results := [.lit (.bool true)], args := [d] }
  | _ => none }
def fnExactWordOfNormalRow : OpenClaim := { program := "ytkedkleddpnanaa", sum := "871d594fb661dbbcb39201827337a40cbbb2ada0fdea5cafa174f06d15ccea37", func := "loop.example/g01205/laws.FnExactWordOfNormal", spec := "fnExactWordOfNormal", unfollowed := true, recurses := true, plainKeys := false, apart := false }
def FnExactWordOfNormalSaid : Prop := fnExactWordOfNormalRow.holds Try.pinned (OpenSpec.ofChange fnExactWordOfNormalSpec)

/-- ITS FALSE NEIGHBOUR: 'it returns false'. Refute it at one input. -/
def fnExactWordOfNormalWrong : ChangeSpec := { name := "fnExactWordOfNormal", fn := fun _ => fun
  | [d] => { results := [.lit (.bool false)], args := [d] }
  | _ => none }
def FnExactWordOfNormalWrongFalsely : Prop := fnExactWordOfNormalRow.holds Try.pinned (OpenSpec.ofChange fnExactWordOfNormalWrong)

/-- 'laws.FnExactSameBraid': WHATEVER THE INPUT: true; the input reads as it did. -/
def fnExactSameBraidSpec : ChangeSpec := { name := "fnExactSameBraid", fn := fun _ => fun
  | [d1, d2] => { results := [.lit (.bool true)], args := [d1, d2] }
  | _ => none }
def fnExactSameBraidRow : OpenClaim := { program := "ytkedkleddpnanaa", sum := "871d594fb661dbbcb39201827337a40cbbb2ada0fdea5cafa174f06d15ccea37", func := "loop.example/g01205/laws.FnExactSameBraid", spec := "fnExactSameBraid", unfollowed := true, recurses := true, plainKeys := false, apart := false }
def FnExactSameBraidSaid : Prop := fnExactSameBraidRow.holds Try.pinned (OpenSpec.ofChange fnExactSameBraidSpec)

/-- ITS FALSE NEIGHBOUR: 'it returns false'. Refute it at one input. -/
def fnExactSameBraidWrong : ChangeSpec := { name := "fnExactSameBraid", fn := fun _ => fun
  | [d1, d2] => { results := [.lit (.bool false)], args := [d1, d2] }
  | _ => none }
def FnExactSameBraidWrongFalsely : Prop := fnExactSameBraidRow.holds Try.pinned (OpenSpec.ofChange fnExactSameBraidWrong)

/-- 'laws.FnExactIsPositive': WHATEVER THE INPUT: true; the input reads as it did. -/
def fnExactIsPositiveSpec : ChangeSpec := { name := "fnExactIsPositive", fn := fun _ => fun
  | [d] => { results := [.lit (.bool true)], args := [d] }
  | _ => none }
def fnExactIsPositiveRow : OpenClaim := { program := "ytkedkleddpnanaa", sum := "871d594fb661dbbcb39201827337a40cbbb2ada0fdea5cafa174f06d15ccea37", func := "loop.example/g01205/laws.FnExactIsPositive", spec := "fnExactIsPositive", unfollowed := true, recurses := true, plainKeys := false, apart := false }
def FnExactIsPositiveSaid : Prop := fnExactIsPositiveRow.holds Try.pinned (OpenSpec.ofChange fnExactIsPositiveSpec)

/-- ITS FALSE NEIGHBOUR: 'it returns false'. Refute it at one input. -/
def fnExactIsPositiveWrong : ChangeSpec := { name := "fnExactIsPositive", fn := fun _ => fun
  | [d] => { results := [.lit (.bool false)], args := [d] }
  | _ => none }
def FnExactIsPositiveWrongFalsely : Prop := fnExactIsPositiveRow.holds Try.pinned (OpenSpec.ofChange fnExactIsPositiveWrong)

/-- 'laws.FnExactCommonBeginning': WHATEVER THE INPUT: true; the input reads as it did. -/
def fnExactCommonBeginningSpec : ChangeSpec := { name := "fnExactCommonBeginning", fn := fun _ => fun
  | [d1, d2] => { results := [.lit (.bool true)], args := [d1, d2] }
  | _ => none }
def fnExactCommonBeginningRow : OpenClaim := { program := "ytkedkleddpnanaa", sum := "871d594fb661dbbcb39201827337a40cbbb2ada0fdea5cafa174f06d15ccea37", func := "loop.example/g01205/laws.FnExactCommonBeginning", spec := "fnExactCommonBeginning", unfollowed := true, recurses := true, plainKeys := false, apart := false }
def FnExactCommonBeginningSaid : Prop := fnExactCommonBeginningRow.holds Try.pinned (OpenSpec.ofChange fnExactCommonBeginningSpec)

/-- ITS FALSE NEIGHBOUR: 'it returns false'. Refute it at one input. -/
def fnExactCommonBeginningWrong : ChangeSpec := { name := "fnExactCommonBeginning", fn := fun _ => fun
  | [d1, d2] => { results := [.lit (.bool false)], args := [d1, d2] }
  | _ => none }
def FnExactCommonBeginningWrongFalsely : Prop := fnExactCommonBeginningRow.holds Try.pinned (OpenSpec.ofChange fnExactCommonBeginningWrong)

/-- 'laws.FnExactIsBeginningOf': WHATEVER THE INPUT: true; the input reads as it did. -/
def fnExactIsBeginningOfSpec : ChangeSpec := { name := "fnExactIsBeginningOf", fn := fun _ => fun
  | [d1, d2] => { results := [.lit (.bool true)], args := [d1, d2] }
  | _ => none }
def fnExactIsBeginningOfRow : OpenClaim := { program := "ytkedkleddpnanaa", sum := "871d594fb661dbbcb39201827337a40cbbb2ada0fdea5cafa174f06d15ccea37", func := "loop.example/g01205/laws.FnExactIsBeginningOf", spec := "fnExactIsBeginningOf", unfollowed := true, recurses := true, plainKeys := false, apart := false }
def FnExactIsBeginningOfSaid : Prop := fnExactIsBeginningOfRow.holds Try.pinned (OpenSpec.ofChange fnExactIsBeginningOfSpec)

/-- ITS FALSE NEIGHBOUR: 'it returns false'. Refute it at one input. -/
def fnExactIsBeginningOfWrong : ChangeSpec := { name := "fnExactIsBeginningOf", fn := fun _ => fun
  | [d1, d2] => { results := [.lit (.bool false)], args := [d1, d2] }
  | _ => none }
def FnExactIsBeginningOfWrongFalsely : Prop := fnExactIsBeginningOfRow.holds Try.pinned (OpenSpec.ofChange fnExactIsBeginningOfWrong)

/-- 'laws.FnExactFractionOf': WHATEVER THE INPUT: true; the input reads as it did. -/
def fnExactFractionOfSpec : ChangeSpec := { name := "fnExactFractionOf", fn := fun _ => fun
  | [d] => { results := [.lit (.bool true)], args := [d] }
  | _ => none }
def fnExactFractionOfRow : OpenClaim := { program := "ytkedkleddpnanaa", sum := "871d594fb661dbbcb39201827337a40cbbb2ada0fdea5cafa174f06d15ccea37", func := "loop.example/g01205/laws.FnExactFractionOf", spec := "fnExactFractionOf", unfollowed := true, recurses := true, plainKeys := false, apart := false }
def FnExactFractionOfSaid : Prop := fnExactFractionOfRow.holds Try.pinned (OpenSpec.ofChange fnExactFractionOfSpec)

/-- ITS FALSE NEIGHBOUR: 'it returns false'. Refute it at one input. -/
def fnExactFractionOfWrong : ChangeSpec := { name := "fnExactFractionOf", fn := fun _ => fun
  | [d] => { results := [.lit (.bool false)], args := [d] }
  | _ => none }
def FnExactFractionOfWrongFalsely : Prop := fnExactFractionOfRow.holds Try.pinned (OpenSpec.ofChange fnExactFractionOfWrong)

/- THE SECOND FORM. 'bulk': how many values and letters a reading holds, each counted each time it is reached (what is shared counts as often as it is met; a slice's spare places count too). A statement '..UptoSaid' is the law's where the arguments, and the package variables that the reading takes, are together of bulk at most 1048576: NARROWER than '..Said'. Prove '..Said' where nothing that the law and all that it calls make is longer than what came in: it says more and counts as full. Else prove '..UptoSaid'. A law counts once. -/
mutual
def uptoBulk {H : Type} : DataW H → Nat
  | .lit (.string bytes) => bytes.length + 1
  | .lit _ => 1
  | .nil => 1
  | .ptr d => uptoBulk d + 1
  | .slice elems spare => uptoBulkAll elems + uptoBulkAll spare + 1
  | .agg parts => uptoBulkAll parts + 1
  | .iface _ d => uptoBulk d + 1
  | .map entries => uptoBulkEntries entries + 1
  | .held _ => 1
def uptoBulkAll {H : Type} : List (DataW H) → Nat
  | [] => 0
  | d :: r => uptoBulk d + uptoBulkAll r
def uptoBulkEntries {H : Type} : List (Lit × DataW H) → Nat
  | [] => 0
  | x :: r => uptoBulkEntry x + uptoBulkEntries r
def uptoBulkEntry {H : Type} : Lit × DataW H → Nat
  | (.string bytes, d) => bytes.length + uptoBulk d + 1
  | (_, d) => uptoBulk d + 1
 end
def uptoSmall : (H : Type) → List (DataW H) → Bool := fun _ ds => decide (uptoBulkAll ds ≤ 1048576)
def OpenSpec.upto (s : _root_.Go.ChangeSpec) : _root_.Go.OpenSpec := { _root_.Go.OpenSpec.ofChange s with cond := some uptoSmall }

/-- 'laws.FnExactWordOfSimple', WHERE WHAT IT READS IS OF BULK AT MOST 1048576: true; the input reads as it did. -/
def fnExactWordOfSimpleUptoRow : OpenClaim := { program := "ytkedkleddpnanaa", sum := "871d594fb661dbbcb39201827337a40cbbb2ada0fdea5cafa174f06d15ccea37", func := "loop.example/g01205/laws.FnExactWordOfSimple", spec := "fnExactWordOfSimple", unfollowed := true, recurses := true, plainKeys := false, apart := false, narrowed := true }
def FnExactWordOfSimpleUptoSaid : Prop := fnExactWordOfSimpleUptoRow.holds Try.pinned (OpenSpec.upto fnExactWordOfSimpleSpec)

/-- 'laws.FnExactIsNormal', WHERE WHAT IT READS IS OF BULK AT MOST 1048576: true; the input reads as it did. -/
def fnExactIsNormalUptoRow : OpenClaim := { program := "ytkedkleddpnanaa", sum := "871d594fb661dbbcb39201827337a40cbbb2ada0fdea5cafa174f06d15ccea37", func := "loop.example/g01205/laws.FnExactIsNormal", spec := "fnExactIsNormal", unfollowed := true, recurses := true, plainKeys := false, apart := false, narrowed := true }
def FnExactIsNormalUptoSaid : Prop := fnExactIsNormalUptoRow.holds Try.pinned (OpenSpec.upto fnExactIsNormalSpec)

/-- 'laws.FnExactNormalOf', WHERE WHAT IT READS IS OF BULK AT MOST 1048576: true; the input reads as it did. -/
def fnExactNormalOfUptoRow : OpenClaim := { program := "ytkedkleddpnanaa", sum := "871d594fb661dbbcb39201827337a40cbbb2ada0fdea5cafa174f06d15ccea37", func := "loop.example/g01205/laws.FnExactNormalOf", spec := "fnExactNormalOf", unfollowed := true, recurses := true, plainKeys := false, apart := false, narrowed := true }
def FnExactNormalOfUptoSaid : Prop := fnExactNormalOfUptoRow.holds Try.pinned (OpenSpec.upto fnExactNormalOfSpec)

/-- 'laws.FnExactRightNormalOf', WHERE WHAT IT READS IS OF BULK AT MOST 1048576: true; the input reads as it did. -/
def fnExactRightNormalOfUptoRow : OpenClaim := { program := "ytkedkleddpnanaa", sum := "871d594fb661dbbcb39201827337a40cbbb2ada0fdea5cafa174f06d15ccea37", func := "loop.example/g01205/laws.FnExactRightNormalOf", spec := "fnExactRightNormalOf", unfollowed := true, recurses := true, plainKeys := false, apart := false, narrowed := true }
def FnExactRightNormalOfUptoSaid : Prop := fnExactRightNormalOfUptoRow.holds Try.pinned (OpenSpec.upto fnExactRightNormalOfSpec)

/-- 'laws.FnExactMultiplyNormals', WHERE WHAT IT READS IS OF BULK AT MOST 1048576: true; the input reads as it did. -/
def fnExactMultiplyNormalsUptoRow : OpenClaim := { program := "ytkedkleddpnanaa", sum := "871d594fb661dbbcb39201827337a40cbbb2ada0fdea5cafa174f06d15ccea37", func := "loop.example/g01205/laws.FnExactMultiplyNormals", spec := "fnExactMultiplyNormals", unfollowed := true, recurses := true, plainKeys := false, apart := false, narrowed := true }
def FnExactMultiplyNormalsUptoSaid : Prop := fnExactMultiplyNormalsUptoRow.holds Try.pinned (OpenSpec.upto fnExactMultiplyNormalsSpec)

/-- 'laws.FnExactInverseNormal', WHERE WHAT IT READS IS OF BULK AT MOST 1048576: true; the input reads as it did. -/
def fnExactInverseNormalUptoRow : OpenClaim := { program := "ytkedkleddpnanaa", sum := "871d594fb661dbbcb39201827337a40cbbb2ada0fdea5cafa174f06d15ccea37", func := "loop.example/g01205/laws.FnExactInverseNormal", spec := "fnExactInverseNormal", unfollowed := true, recurses := true, plainKeys := false, apart := false, narrowed := true }
def FnExactInverseNormalUptoSaid : Prop := fnExactInverseNormalUptoRow.holds Try.pinned (OpenSpec.upto fnExactInverseNormalSpec)

/-- 'laws.FnExactPowerNormal', WHERE WHAT IT READS IS OF BULK AT MOST 1048576: true; the input reads as it did. -/
def fnExactPowerNormalUptoRow : OpenClaim := { program := "ytkedkleddpnanaa", sum := "871d594fb661dbbcb39201827337a40cbbb2ada0fdea5cafa174f06d15ccea37", func := "loop.example/g01205/laws.FnExactPowerNormal", spec := "fnExactPowerNormal", unfollowed := true, recurses := true, plainKeys := false, apart := false, narrowed := true }
def FnExactPowerNormalUptoSaid : Prop := fnExactPowerNormalUptoRow.holds Try.pinned (OpenSpec.upto fnExactPowerNormalSpec)

/-- 'laws.FnExactLengthsOf', WHERE WHAT IT READS IS OF BULK AT MOST 1048576: true; the input reads as it did. -/
def fnExactLengthsOfUptoRow : OpenClaim := { program := "ytkedkleddpnanaa", sum := "871d594fb661dbbcb39201827337a40cbbb2ada0fdea5cafa174f06d15ccea37", func := "loop.example/g01205/laws.FnExactLengthsOf", spec := "fnExactLengthsOf", unfollowed := true, recurses := true, plainKeys := false, apart := false, narrowed := true }
def FnExactLengthsOfUptoSaid : Prop := fnExactLengthsOfUptoRow.holds Try.pinned (OpenSpec.upto fnExactLengthsOfSpec)

/-- 'laws.FnExactWordOfNormal', WHERE WHAT IT READS IS OF BULK AT MOST 1048576: true; the input reads as it did. -/
def fnExactWordOfNormalUptoRow : OpenClaim := { program := "ytkedkleddpnanaa", sum := "871d594fb661dbbcb39201827337a40cbbb2ada0fdea5cafa174f06d15ccea37", func := "loop.example/g01205/laws.FnExactWordOfNormal", spec := "fnExactWordOfNormal", unfollowed := true, recurses := true, plainKeys := false, apart := false, narrowed := true }
def FnExactWordOfNormalUptoSaid : Prop := fnExactWordOfNormalUptoRow.holds Try.pinned (OpenSpec.upto fnExactWordOfNormalSpec)

/-- 'laws.FnExactSameBraid', WHERE WHAT IT READS IS OF BULK AT MOST 1048576: true; the input reads as it did. -/
def fnExactSameBraidUptoRow : OpenClaim := { program := "ytkedkleddpnanaa", sum := "871d594fb661dbbcb39201827337a40cbbb2ada0fdea5cafa174f06d15ccea37", func := "loop.example/g01205/laws.FnExactSameBraid", spec := "fnExactSameBraid", unfollowed := true, recurses := true, plainKeys := false, apart := false, narrowed := true }
def FnExactSameBraidUptoSaid : Prop := fnExactSameBraidUptoRow.holds Try.pinned (OpenSpec.upto fnExactSameBraidSpec)

/-- 'laws.FnExactIsPositive', WHERE WHAT IT READS IS OF BULK AT MOST 1048576: true; the input reads as it did. -/
def fnExactIsPositiveUptoRow : OpenClaim := { program := "ytkedkleddpnanaa", sum := "871d594fb661dbbcb39201827337a40cbbb2ada0fdea5cafa174f06d15ccea37", func := "loop.example/g01205/laws.FnExactIsPositive", spec := "fnExactIsPositive", unfollowed := true, recurses := true, plainKeys := false, apart := false, narrowed := true }
def FnExactIsPositiveUptoSaid : Prop := fnExactIsPositiveUptoRow.holds Try.pinned (OpenSpec.upto fnExactIsPositiveSpec)

/-- 'laws.FnExactCommonBeginning', WHERE WHAT IT READS IS OF BULK AT MOST 1048576: true; the input reads as it did. -/
def fnExactCommonBeginningUptoRow : OpenClaim := { program := "ytkedkleddpnanaa", sum := "871d594fb661dbbcb39201827337a40cbbb2ada0fdea5cafa174f06d15ccea37", func := "loop.example/g01205/laws.FnExactCommonBeginning", spec := "fnExactCommonBeginning", unfollowed := true, recurses := true, plainKeys := false, apart := false, narrowed := true }
def FnExactCommonBeginningUptoSaid : Prop := fnExactCommonBeginningUptoRow.holds Try.pinned (OpenSpec.upto fnExactCommonBeginningSpec)

/-- 'laws.FnExactIsBeginningOf', WHERE WHAT IT READS IS OF BULK AT MOST 1048576: true; the input reads as it did. -/
def fnExactIsBeginningOfUptoRow : OpenClaim := { program := "ytkedkleddpnanaa", sum := "871d594fb661dbbcb39201827337a40cbbb2ada0fdea5cafa174f06d15ccea37", func := "loop.example/g01205/laws.FnExactIsBeginningOf", spec := "fnExactIsBeginningOf", unfollowed := true, recurses := true, plainKeys := false, apart := false, narrowed := true }
def FnExactIsBeginningOfUptoSaid : Prop := fnExactIsBeginningOfUptoRow.holds Try.pinned (OpenSpec.upto fnExactIsBeginningOfSpec)

/-- 'laws.FnExactFractionOf', WHERE WHAT IT READS IS OF BULK AT MOST 1048576: true; the input reads as it did. -/
def fnExactFractionOfUptoRow : OpenClaim := { program := "ytkedkleddpnanaa", sum := "871d594fb661dbbcb39201827337a40cbbb2ada0fdea5cafa174f06d15ccea37", func := "loop.example/g01205/laws.FnExactFractionOf", spec := "fnExactFractionOf", unfollowed := true, recurses := true, plainKeys := false, apart := false, narrowed := true }
def FnExactFractionOfUptoSaid : Prop := fnExactFractionOfUptoRow.holds Try.pinned (OpenSpec.upto fnExactFractionOfSpec)

end Rows
end Go.Proofs.Ytkedkleddpnanaa
