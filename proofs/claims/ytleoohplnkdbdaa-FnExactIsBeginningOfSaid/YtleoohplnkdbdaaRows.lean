/-
  No cell of these rows narrows 'for every input' (looked for: loops, veiled, ifaces, maps, wideKeys, modest, calm, conditions, laid).
  DERIVED. THE GIVEN ROWS OF THIS SEAT. 6 by the template 'for every input the law returns true; each argument reads behind the call as it read before'; 0 by the template 'total and deterministic' (their statements: YtleoohplnkdbdaaTotals.lean).
  GIVEN WITH THE SEED: the statements are not yours to turn. If you find one false, say at which input.
  Laid BY PROGRAM, IN A SANDBOX (cutbox-rows.mjs): the forced cells as the released guide's own fill.sh prints them over the translation f2473814c25ff395… (all of the seat's roots in one cut). By AI agents, Wed Nov 11 2026. No macro, syntax, notation, axiom, sorry.
-/
import Derived.Test.YtleoohplnkdbdaaChecked
import GoSem.Claim
import GoSem.ClaimJoined
import GoSem.ClaimMapViews
import Derived.JoinedTies
import Derived.KernelRfl
namespace Go.Proofs.Ytleoohplnkdbdaa
/- THE CELL 'sum', in the pinned program and in every row, IS THE sha256 OF THE DUMP (.gsa) THAT YtleoohplnkdbdaaProg.lean LOADS. Nothing in Lean hashes anything: it is a label: what it is worth is what the hold of that sum in a sandbox is worth. -/
noncomputable def Try.pinned : Pinned := { name := "ytleoohplnkdbdaa", sum := "f2473814c25ff395cd6d76c01d8fd47af1fdcd4e9625f984a029c0481685647e", checked := Try.checked }
namespace Rows
def none {H : Type} : Left H := { results := [], args := [] }

/-- 'laws.FnExactMultiplyNormals': WHATEVER THE INPUT: true; the input reads as it did. -/
def fnExactMultiplyNormalsSpec : ChangeSpec := { name := "fnExactMultiplyNormals", fn := fun _ => fun
  | [d1, d2] => { results := [.lit (.bool true)], args := [d1, d2] }
  | _ => none }
def fnExactMultiplyNormalsRow : OpenClaim := { program := "ytleoohplnkdbdaa", sum := "f2473814c25ff395cd6d76c01d8fd47af1fdcd4e9625f984a029c0481685647e", func := "loop.example/g01205/laws.FnExactMultiplyNormals", spec := "fnExactMultiplyNormals", unfollowed := true, recurses := true, apart := false }
def FnExactMultiplyNormalsSaid : Prop := fnExactMultiplyNormalsRow.holds Try.pinned (OpenSpec.ofChange fnExactMultiplyNormalsSpec)

/-- ITS FALSE NEIGHBOUR: 'it returns false'. Refute it at one input. -/
def fnExactMultiplyNormalsWrong : ChangeSpec := { name := "fnExactMultiplyNormals", fn := fun _ => fun
  | [d1, d2] => { results := [.lit (.bool false)], args := [d1, d2] }
  | _ => none }
def FnExactMultiplyNormalsWrongFalsely : Prop := fnExactMultiplyNormalsRow.holds Try.pinned (OpenSpec.ofChange fnExactMultiplyNormalsWrong)

/-- 'laws.FnExactInverseNormal': WHATEVER THE INPUT: true; the input reads as it did. -/
def fnExactInverseNormalSpec : ChangeSpec := { name := "fnExactInverseNormal", fn := fun _ => fun
  | [d] => { results := [.lit (.bool true)], args := [d] }
  | _ => none }
def fnExactInverseNormalRow : OpenClaim := { program := "ytleoohplnkdbdaa", sum := "f2473814c25ff395cd6d76c01d8fd47af1fdcd4e9625f984a029c0481685647e", func := "loop.example/g01205/laws.FnExactInverseNormal", spec := "fnExactInverseNormal", unfollowed := true, recurses := true, apart := false }
def FnExactInverseNormalSaid : Prop := fnExactInverseNormalRow.holds Try.pinned (OpenSpec.ofChange fnExactInverseNormalSpec)

/-- ITS FALSE NEIGHBOUR: 'it returns false'. Refute it at one input. -/
def fnExactInverseNormalWrong : ChangeSpec := { name := "fnExactInverseNormal", fn := fun _ => fun
  | [d] => { results := [.lit (.bool false)], args := [d] }
  | _ => none }
def FnExactInverseNormalWrongFalsely : Prop := fnExactInverseNormalRow.holds Try.pinned (OpenSpec.ofChange fnExactInverseNormalWrong)

/-- 'laws.FnExactPowerNormal': WHATEVER THE INPUT: true; the input reads as it did. -/
def fnExactPowerNormalSpec : ChangeSpec := { name := "fnExactPowerNormal", fn := fun _ => fun
  | [d1, d2] => { results := [.lit (.bool true)], args := [d1, d2] }
  | _ => none }
def fnExactPowerNormalRow : OpenClaim := { program := "ytleoohplnkdbdaa", sum := "f2473814c25ff395cd6d76c01d8fd47af1fdcd4e9625f984a029c0481685647e", func := "loop.example/g01205/laws.FnExactPowerNormal", spec := "fnExactPowerNormal", unfollowed := true, recurses := true, apart := false }
def FnExactPowerNormalSaid : Prop := fnExactPowerNormalRow.holds Try.pinned (OpenSpec.ofChange fnExactPowerNormalSpec)

/-- ITS FALSE NEIGHBOUR: 'it returns false'. Refute it at one input. -/
def fnExactPowerNormalWrong : ChangeSpec := { name := "fnExactPowerNormal", fn := fun _ => fun
  | [d1, d2] => { results := [.lit (.bool false)], args := [d1, d2] }
  | _ => none }
def FnExactPowerNormalWrongFalsely : Prop := fnExactPowerNormalRow.holds Try.pinned (OpenSpec.ofChange fnExactPowerNormalWrong)

/-- 'laws.FnExactIsBeginningOf': WHATEVER THE INPUT: true; the input reads as it did. -/
def fnExactIsBeginningOfSpec : ChangeSpec := { name := "fnExactIsBeginningOf", fn := fun _ => fun
  | [d1, d2] => { results := [.lit (.bool true)], args := [d1, d2] }
  | _ => none }
def fnExactIsBeginningOfRow : OpenClaim := { program := "ytleoohplnkdbdaa", sum := "f2473814c25ff395cd6d76c01d8fd47af1fdcd4e9625f984a029c0481685647e", func := "loop.example/g01205/laws.FnExactIsBeginningOf", spec := "fnExactIsBeginningOf", unfollowed := true, recurses := true, apart := false }
def FnExactIsBeginningOfSaid : Prop := fnExactIsBeginningOfRow.holds Try.pinned (OpenSpec.ofChange fnExactIsBeginningOfSpec)

/-- ITS FALSE NEIGHBOUR: 'it returns false'. Refute it at one input. -/
def fnExactIsBeginningOfWrong : ChangeSpec := { name := "fnExactIsBeginningOf", fn := fun _ => fun
  | [d1, d2] => { results := [.lit (.bool false)], args := [d1, d2] }
  | _ => none }
def FnExactIsBeginningOfWrongFalsely : Prop := fnExactIsBeginningOfRow.holds Try.pinned (OpenSpec.ofChange fnExactIsBeginningOfWrong)

/-- 'laws.FnExactFractionOf': WHATEVER THE INPUT: true; the input reads as it did. -/
def fnExactFractionOfSpec : ChangeSpec := { name := "fnExactFractionOf", fn := fun _ => fun
  | [d] => { results := [.lit (.bool true)], args := [d] }
  | _ => none }
def fnExactFractionOfRow : OpenClaim := { program := "ytleoohplnkdbdaa", sum := "f2473814c25ff395cd6d76c01d8fd47af1fdcd4e9625f984a029c0481685647e", func := "loop.example/g01205/laws.FnExactFractionOf", spec := "fnExactFractionOf", unfollowed := true, recurses := true, apart := false }
def FnExactFractionOfSaid : Prop := fnExactFractionOfRow.holds Try.pinned (OpenSpec.ofChange fnExactFractionOfSpec)

/-- ITS FALSE NEIGHBOUR: 'it returns false'. Refute it at one input. -/
def fnExactFractionOfWrong : ChangeSpec := { name := "fnExactFractionOf", fn := fun _ => fun
  | [d] => { results := [.lit (.bool false)], args := [d] }
  | _ => none }
def FnExactFractionOfWrongFalsely : Prop := fnExactFractionOfRow.holds Try.pinned (OpenSpec.ofChange fnExactFractionOfWrong)

/-- 'laws.FnExactNormalOf': WHATEVER THE INPUT: true; the input reads as it did. -/
def fnExactNormalOfSpec : ChangeSpec := { name := "fnExactNormalOf", fn := fun _ => fun
  | [d] => { results := [.lit (.bool true)], args := [d] }
  | _ => none }
def fnExactNormalOfRow : OpenClaim := { program := "ytleoohplnkdbdaa", sum := "f2473814c25ff395cd6d76c01d8fd47af1fdcd4e9625f984a029c0481685647e", func := "loop.example/g01205/laws.FnExactNormalOf", spec := "fnExactNormalOf", unfollowed := true, recurses := true, apart := false }
def FnExactNormalOfSaid : Prop := fnExactNormalOfRow.holds Try.pinned (OpenSpec.ofChange fnExactNormalOfSpec)

/-- ITS FALSE NEIGHBOUR: 'it returns false'. Refute it at one input. -/
def fnExactNormalOfWrong : ChangeSpec := { name := "fnExactNormalOf", fn := fun _ => fun
  | [d] => { results := [.lit (.bool false)], args := [d] }
  | _ => none }
def FnExactNormalOfWrongFalsely : Prop := fnExactNormalOfRow.holds Try.pinned (OpenSpec.ofChange fnExactNormalOfWrong)

/- THE SECOND FORM. 'bulk': how many values and letters a reading holds, each counted each time it is reached (what is shared counts as often as it is met; a slice's spare places count too). A statement '..UptoSaid' is the law's where the arguments, and the package variables that the reading takes, are together of bulk at most 1048576: NARROWER than '..Said'. Prove '..Said' where nothing that the law and all that it calls make is longer than what came in: it says more and counts as full. Else prove '..UptoSaid'. A law counts once. -/
mutual
def uptoBulk {H : Type} : DataW H → Nat
  | .lit (.string bytes) => bytes.length + 1
  | .lit _ => 1
  | .nil => 1
  | .ptr d => uptoBulk d + 1
  | .slice elems spare => uptoBulkAll elems + uptoBulkAll spare + 1
  | .agg parts => uptoBulkAll parts + 1
  | .iface _ d => uptoBulk d + 1
  | .map entries => uptoBulkEntries entries + 1
  | .held _ => 1
def uptoBulkAll {H : Type} : List (DataW H) → Nat
  | [] => 0
  | d :: r => uptoBulk d + uptoBulkAll r
def uptoBulkEntries {H : Type} : List (Lit × DataW H) → Nat
  | [] => 0
  | x :: r => uptoBulkEntry x + uptoBulkEntries r
def uptoBulkEntry {H : Type} : Lit × DataW H → Nat
  | (.string bytes, d) => bytes.length + uptoBulk d + 1
  | (_, d) => uptoBulk d + 1
 end
def uptoSmall : (H : Type) → List (DataW H) → Bool := fun _ ds => decide (uptoBulkAll ds ≤ 1048576)
def OpenSpec.upto (s : _root_.Go.ChangeSpec) : _root_.Go.OpenSpec := { _root_.Go.OpenSpec.ofChange s with cond := some uptoSmall }

/-- 'laws.FnExactMultiplyNormals', WHERE WHAT IT READS IS OF BULK AT MOST 1048576: true; the input reads as it did. -/
def fnExactMultiplyNormalsUptoRow : OpenClaim := { program := "ytleoohplnkdbdaa", sum := "f2473814c25ff395cd6d76c01d8fd47af1fdcd4e9625f984a029c0481685647e", func := "loop.example/g01205/laws.FnExactMultiplyNormals", spec := "fnExactMultiplyNormals", unfollowed := true, recurses := true, apart := false, narrowed := true }
def FnExactMultiplyNormalsUptoSaid : Prop := fnExactMultiplyNormalsUptoRow.holds Try.pinned (OpenSpec.upto fnExactMultiplyNormalsSpec)

/-- 'laws.FnExactInverseNormal', WHERE WHAT IT READS IS OF BULK AT MOST 1048576: true; the input reads as it did. -/
def fnExactInverseNormalUptoRow : OpenClaim := { program := "ytleoohplnkdbdaa", sum := "f2473814c25ff395cd6d76c01d8fd47af1fdcd4e9625f984a029c0481685647e", func := "loop.example/g01205/laws.FnExactInverseNormal", spec := "fnExactInverseNormal", unfollowed := true, recurses := true, apart := false, narrowed := true }
def FnExactInverseNormalUptoSaid : Prop := fnExactInverseNormalUptoRow.holds Try.pinned (OpenSpec.upto fnExactInverseNormalSpec)

/-- 'laws.FnExactPowerNormal', WHERE WHAT IT READS IS OF BULK AT MOST 1048576: true; the input reads as it did. -/
def fnExactPowerNormalUptoRow : OpenClaim := { program := "ytleoohplnkdbdaa", sum := "f2473814c25ff395cd6d76c01d8fd47af1fdcd4e9625f984a029c0481685647e", func := "loop.example/g01205/laws.FnExactPowerNormal", spec := "fnExactPowerNormal", unfollowed := true, recurses := true, apart := false, narrowed := true }
def FnExactPowerNormalUptoSaid : Prop := fnExactPowerNormalUptoRow.holds Try.pinned (OpenSpec.upto fnExactPowerNormalSpec)

/-- 'laws.FnExactIsBeginningOf', WHERE WHAT IT READS IS OF BULK AT MOST 1048576: true; the input reads as it did. -/
def fnExactIsBeginningOfUptoRow : OpenClaim := { program := "ytleoohplnkdbdaa", sum := "f2473814c25ff395cd6d76c01d8fd47af1fdcd4e9625f984a029c0481685647e", func := "loop.example/g01205/laws.FnExactIsBeginningOf", spec := "fnExactIsBeginningOf", unfollowed := true, recurses := true, apart := false, narrowed := true }
def FnExactIsBeginningOfUptoSaid : Prop := fnExactIsBeginningOfUptoRow.holds Try.pinned (OpenSpec.upto fnExactIsBeginningOfSpec)

/-- 'laws.FnExactFractionOf', WHERE WHAT IT READS IS OF BULK AT MOST 1048576: true; the input reads as it did. -/
def fnExactFractionOfUptoRow : OpenClaim := { program := "ytleoohplnkdbdaa", sum := "f2473814c25ff395cd6d76c01d8fd47af1fdcd4e9625f984a029c0481685647e", func := "loop.example/g01205/laws.FnExactFractionOf", spec := "fnExactFractionOf", unfollowed := true, recurses := true, apart := false, narrowed := true }
def FnExactFractionOfUptoSaid : Prop := fnExactFractionOfUptoRow.holds Try.pinned (OpenSpec.upto fnExactFractionOfSpec)

/-- 'laws.FnExactNormalOf', WHERE WHAT IT READS IS OF BULK AT MOST 1048576: true; the input reads as it did. -/
def fnExactNormalOfUptoRow : OpenClaim := { program := "ytleoohplnkdbdaa", sum := "f2473814c25ff395cd6d76c01d8fd47af1fdcd4e9625f984a029c0481685647e", func := "loop.example/g01205/laws.FnExactNormalOf", spec := "fnExactNormalOf", unfollowed := true, recurses := true, apart := false, narrowed := true }
def FnExactNormalOfUptoSaid : Prop := fnExactNormalOfUptoRow.holds Try.pinned (OpenSpec.upto fnExactNormalOfSpec)

end Rows
end Go.Proofs.Ytleoohplnkdbdaa
