/-
  No cell of these rows narrows 'for every input' (looked for: loops, veiled, ifaces, maps, wideKeys, modest, calm, conditions, laid).
  DERIVED. THE GIVEN ROWS OF THIS SEAT. 10 by the template 'for every input the law returns true; each argument reads behind the call as it read before'; 0 by the template 'total and deterministic' (their statements: YtelmdfkcclhhjaaTotals.lean).
  GIVEN WITH THE SEED: the statements are not yours to turn. If you find one false, say at which input.
  Laid BY PROGRAM, IN A SANDBOX (cutbox-rows.mjs): the forced cells as the released guide's own fill.sh prints them over the translation 1b30b33e29afce94… (all of the seat's roots in one cut). By AI agents, Wed Nov 11 2026. No macro, syntax, notation, axiom, sorry.
-/
import Derived.Test.YtelmdfkcclhhjaaChecked
import GoSem.Claim
import GoSem.ClaimJoined
import GoSem.ClaimMapViews
import Derived.JoinedTies
import Derived.KernelRfl
namespace Go.Proofs.Ytelmdfkcclhhjaa
/- THE CELL 'sum', in the pinned program and in every row, IS THE sha256 OF THE DUMP (.gsa) THAT YtelmdfkcclhhjaaProg.lean LOADS. Nothing in Lean hashes anything: it is a label: what it is worth is what the hold of that sum in a sandbox is worth. -/
noncomputable def Try.pinned : Pinned := { name := "ytelmdfkcclhhjaa", sum := "1b30b33e29afce94d3ec179e6c206f1f76815b67ae9bf79d1fe97284e7a8ab52", checked := Try.checked }
namespace Rows
def none {H : Type} : Left H := { results := [], args := [] }

/-- 'laws.FnExactCountColourings': WHATEVER THE INPUT: true; the input reads as it did. -/
def fnExactCountColouringsSpec : ChangeSpec := { name := "fnExactCountColourings", fn := fun _ => fun
  | [d1, d2] => { results := [.lit (.bool true)], args := [d1, d2] }
  | _ => none }
def fnExactCountColouringsRow : OpenClaim := { program := "ytelmdfkcclhhjaa", sum := "1b30b33e29afce94d3ec179e6c206f1f76815b67ae9bf79d1fe97284e7a8ab52", func := "loop.example/g01205/laws.FnExactCountColourings", spec := "fnExactCountColourings", unfollowed := true, recurses := true, apart := false }
def FnExactCountColouringsSaid : Prop := fnExactCountColouringsRow.holds Try.pinned (OpenSpec.ofChange fnExactCountColouringsSpec)

/-- ITS FALSE NEIGHBOUR: 'it returns false'. Refute it at one input. -/
def fnExactCountColouringsWrong : ChangeSpec := { name := "fnExactCountColourings", fn := fun _ => fun
  | [d1, d2] => { results := [.lit (.bool false)], args := [d1, d2] }
  | _ => none }
def FnExactCountColouringsWrongFalsely : Prop := fnExactCountColouringsRow.holds Try.pinned (OpenSpec.ofChange fnExactCountColouringsWrong)

/-- 'laws.FnExactIsFieldMatrix': WHATEVER THE INPUT: true; the input reads as it did. -/
def fnExactIsFieldMatrixSpec : ChangeSpec := { name := "fnExactIsFieldMatrix", fn := fun _ => fun
  | [d] => { results := [.lit (.bool true)], args := [d] }
  | _ => none }
def fnExactIsFieldMatrixRow : OpenClaim := { program := "ytelmdfkcclhhjaa", sum := "1b30b33e29afce94d3ec179e6c206f1f76815b67ae9bf79d1fe97284e7a8ab52", func := "loop.example/g01205/laws.FnExactIsFieldMatrix", spec := "fnExactIsFieldMatrix", apart := false }
def FnExactIsFieldMatrixSaid : Prop := fnExactIsFieldMatrixRow.holds Try.pinned (OpenSpec.ofChange fnExactIsFieldMatrixSpec)

/-- ITS FALSE NEIGHBOUR: 'it returns false'. Refute it at one input. -/
def fnExactIsFieldMatrixWrong : ChangeSpec := { name := "fnExactIsFieldMatrix", fn := fun _ => fun
  | [d] => { results := [.lit (.bool false)], args := [d] }
  | _ => none }
def FnExactIsFieldMatrixWrongFalsely : Prop := fnExactIsFieldMatrixRow.holds Try.pinned (OpenSpec.ofChange fnExactIsFieldMatrixWrong)

/-- 'laws.FnExactMultiplyMatrices': WHATEVER THE INPUT: true; the input reads as it did. -/
def fnExactMultiplyMatricesSpec : ChangeSpec := { name := "fnExactMultiplyMatrices", fn := fun _ => fun
  | [d1, d2] => { results := [.lit (.bool true)], args := [d1, d2] }
  | _ => none }
def fnExactMultiplyMatricesRow : OpenClaim := { program := "ytelmdfkcclhhjaa", sum := "1b30b33e29afce94d3ec179e6c206f1f76815b67ae9bf79d1fe97284e7a8ab52", func := "loop.example/g01205/laws.FnExactMultiplyMatrices", spec := "fnExactMultiplyMatrices", apart := false }
def FnExactMultiplyMatricesSaid : Prop := fnExactMultiplyMatricesRow.holds Try.pinned (OpenSpec.ofChange fnExactMultiplyMatricesSpec)

/-- ITS FALSE NEIGHBOUR: 'it returns false'. Refute it at one input. -/
def fnExactMultiplyMatricesWrong : ChangeSpec := { name := "fnExactMultiplyMatrices", fn := fun _ => fun
  | [d1, d2] => { results := [.lit (.bool false)], args := [d1, d2] }
  | _ => none }
def FnExactMultiplyMatricesWrongFalsely : Prop := fnExactMultiplyMatricesRow.holds Try.pinned (OpenSpec.ofChange fnExactMultiplyMatricesWrong)

/-- 'laws.FnExactInverseMatrix': WHATEVER THE INPUT: true; the input reads as it did. -/
def fnExactInverseMatrixSpec : ChangeSpec := { name := "fnExactInverseMatrix", fn := fun _ => fun
  | [d] => { results := [.lit (.bool true)], args := [d] }
  | _ => none }
def fnExactInverseMatrixRow : OpenClaim := { program := "ytelmdfkcclhhjaa", sum := "1b30b33e29afce94d3ec179e6c206f1f76815b67ae9bf79d1fe97284e7a8ab52", func := "loop.example/g01205/laws.FnExactInverseMatrix", spec := "fnExactInverseMatrix", unfollowed := true, recurses := true, apart := false }
def FnExactInverseMatrixSaid : Prop := fnExactInverseMatrixRow.holds Try.pinned (OpenSpec.ofChange fnExactInverseMatrixSpec)

/-- ITS FALSE NEIGHBOUR: 'it returns false'. Refute it at one input. -/
def fnExactInverseMatrixWrong : ChangeSpec := { name := "fnExactInverseMatrix", fn := fun _ => fun
  | [d] => { results := [.lit (.bool false)], args := [d] }
  | _ => none }
def FnExactInverseMatrixWrongFalsely : Prop := fnExactInverseMatrixRow.holds Try.pinned (OpenSpec.ofChange fnExactInverseMatrixWrong)

/-- 'laws.FnExactDeterminantIn': WHATEVER THE INPUT: true; the input reads as it did. -/
def fnExactDeterminantInSpec : ChangeSpec := { name := "fnExactDeterminantIn", fn := fun _ => fun
  | [d] => { results := [.lit (.bool true)], args := [d] }
  | _ => none }
def fnExactDeterminantInRow : OpenClaim := { program := "ytelmdfkcclhhjaa", sum := "1b30b33e29afce94d3ec179e6c206f1f76815b67ae9bf79d1fe97284e7a8ab52", func := "loop.example/g01205/laws.FnExactDeterminantIn", spec := "fnExactDeterminantIn", unfollowed := true, recurses := true, apart := false }
def FnExactDeterminantInSaid : Prop := fnExactDeterminantInRow.holds Try.pinned (OpenSpec.ofChange fnExactDeterminantInSpec)

/-- ITS FALSE NEIGHBOUR: 'it returns false'. Refute it at one input. -/
def fnExactDeterminantInWrong : ChangeSpec := { name := "fnExactDeterminantIn", fn := fun _ => fun
  | [d] => { results := [.lit (.bool false)], args := [d] }
  | _ => none }
def FnExactDeterminantInWrongFalsely : Prop := fnExactDeterminantInRow.holds Try.pinned (OpenSpec.ofChange fnExactDeterminantInWrong)

/-- 'laws.FnExactTraceIn': WHATEVER THE INPUT: true; the input reads as it did. -/
def fnExactTraceInSpec : ChangeSpec := { name := "fnExactTraceIn", fn := fun _ => fun
  | [d] => { results := [.lit (.bool true)], args := [d] }
  | _ => none }
def fnExactTraceInRow : OpenClaim := { program := "ytelmdfkcclhhjaa", sum := "1b30b33e29afce94d3ec179e6c206f1f76815b67ae9bf79d1fe97284e7a8ab52", func := "loop.example/g01205/laws.FnExactTraceIn", spec := "fnExactTraceIn", apart := false }
def FnExactTraceInSaid : Prop := fnExactTraceInRow.holds Try.pinned (OpenSpec.ofChange fnExactTraceInSpec)

/-- ITS FALSE NEIGHBOUR: 'it returns false'. Refute it at one input. -/
def fnExactTraceInWrong : ChangeSpec := { name := "fnExactTraceIn", fn := fun _ => fun
  | [d] => { results := [.lit (.bool false)], args := [d] }
  | _ => none }
def FnExactTraceInWrongFalsely : Prop := fnExactTraceInRow.holds Try.pinned (OpenSpec.ofChange fnExactTraceInWrong)

/-- 'laws.FnExactCharacteristicOf': WHATEVER THE INPUT: true; the input reads as it did. -/
def fnExactCharacteristicOfSpec : ChangeSpec := { name := "fnExactCharacteristicOf", fn := fun _ => fun
  | [d] => { results := [.lit (.bool true)], args := [d] }
  | _ => none }
def fnExactCharacteristicOfRow : OpenClaim := { program := "ytelmdfkcclhhjaa", sum := "1b30b33e29afce94d3ec179e6c206f1f76815b67ae9bf79d1fe97284e7a8ab52", func := "loop.example/g01205/laws.FnExactCharacteristicOf", spec := "fnExactCharacteristicOf", recurses := true, apart := false }
def FnExactCharacteristicOfSaid : Prop := fnExactCharacteristicOfRow.holds Try.pinned (OpenSpec.ofChange fnExactCharacteristicOfSpec)

/-- ITS FALSE NEIGHBOUR: 'it returns false'. Refute it at one input. -/
def fnExactCharacteristicOfWrong : ChangeSpec := { name := "fnExactCharacteristicOf", fn := fun _ => fun
  | [d] => { results := [.lit (.bool false)], args := [d] }
  | _ => none }
def FnExactCharacteristicOfWrongFalsely : Prop := fnExactCharacteristicOfRow.holds Try.pinned (OpenSpec.ofChange fnExactCharacteristicOfWrong)

/-- 'laws.FnExactKrammerMatrix': WHATEVER THE INPUT: true; the input reads as it did. -/
def fnExactKrammerMatrixSpec : ChangeSpec := { name := "fnExactKrammerMatrix", fn := fun _ => fun
  | [d1, d2, d3] => { results := [.lit (.bool true)], args := [d1, d2, d3] }
  | _ => none }
def fnExactKrammerMatrixRow : OpenClaim := { program := "ytelmdfkcclhhjaa", sum := "1b30b33e29afce94d3ec179e6c206f1f76815b67ae9bf79d1fe97284e7a8ab52", func := "loop.example/g01205/laws.FnExactKrammerMatrix", spec := "fnExactKrammerMatrix", unfollowed := true, recurses := true, apart := false }
def FnExactKrammerMatrixSaid : Prop := fnExactKrammerMatrixRow.holds Try.pinned (OpenSpec.ofChange fnExactKrammerMatrixSpec)

/-- ITS FALSE NEIGHBOUR: 'it returns false'. Refute it at one input. -/
def fnExactKrammerMatrixWrong : ChangeSpec := { name := "fnExactKrammerMatrix", fn := fun _ => fun
  | [d1, d2, d3] => { results := [.lit (.bool false)], args := [d1, d2, d3] }
  | _ => none }
def FnExactKrammerMatrixWrongFalsely : Prop := fnExactKrammerMatrixRow.holds Try.pinned (OpenSpec.ofChange fnExactKrammerMatrixWrong)

/-- 'laws.FnExactBurauModulo': WHATEVER THE INPUT: true; the input reads as it did. -/
def fnExactBurauModuloSpec : ChangeSpec := { name := "fnExactBurauModulo", fn := fun _ => fun
  | [d1, d2] => { results := [.lit (.bool true)], args := [d1, d2] }
  | _ => none }
def fnExactBurauModuloRow : OpenClaim := { program := "ytelmdfkcclhhjaa", sum := "1b30b33e29afce94d3ec179e6c206f1f76815b67ae9bf79d1fe97284e7a8ab52", func := "loop.example/g01205/laws.FnExactBurauModulo", spec := "fnExactBurauModulo", unfollowed := true, recurses := true, apart := false }
def FnExactBurauModuloSaid : Prop := fnExactBurauModuloRow.holds Try.pinned (OpenSpec.ofChange fnExactBurauModuloSpec)

/-- ITS FALSE NEIGHBOUR: 'it returns false'. Refute it at one input. -/
def fnExactBurauModuloWrong : ChangeSpec := { name := "fnExactBurauModulo", fn := fun _ => fun
  | [d1, d2] => { results := [.lit (.bool false)], args := [d1, d2] }
  | _ => none }
def FnExactBurauModuloWrongFalsely : Prop := fnExactBurauModuloRow.holds Try.pinned (OpenSpec.ofChange fnExactBurauModuloWrong)

/-- 'laws.FnExactKrammerTrace': WHATEVER THE INPUT: true; the input reads as it did. -/
def fnExactKrammerTraceSpec : ChangeSpec := { name := "fnExactKrammerTrace", fn := fun _ => fun
  | [d1, d2, d3] => { results := [.lit (.bool true)], args := [d1, d2, d3] }
  | _ => none }
def fnExactKrammerTraceRow : OpenClaim := { program := "ytelmdfkcclhhjaa", sum := "1b30b33e29afce94d3ec179e6c206f1f76815b67ae9bf79d1fe97284e7a8ab52", func := "loop.example/g01205/laws.FnExactKrammerTrace", spec := "fnExactKrammerTrace", unfollowed := true, recurses := true, apart := false }
def FnExactKrammerTraceSaid : Prop := fnExactKrammerTraceRow.holds Try.pinned (OpenSpec.ofChange fnExactKrammerTraceSpec)

/-- ITS FALSE NEIGHBOUR: 'it returns false'. Refute it at one input. -/
def fnExactKrammerTraceWrong : ChangeSpec := { name := "fnExactKrammerTrace", fn := fun _ => fun
  | [d1, d2, d3] => { results := [.lit (.bool false)], args := [d1, d2, d3] }
  | _ => none }
def FnExactKrammerTraceWrongFalsely : Prop := fnExactKrammerTraceRow.holds Try.pinned (OpenSpec.ofChange fnExactKrammerTraceWrong)

/- THE SECOND FORM. 'bulk': how many values and letters a reading holds, each counted each time it is reached (what is shared counts as often as it is met; a slice's spare places count too). A statement '..UptoSaid' is the law's where the arguments, and the package variables that the reading takes, are together of bulk at most 1048576: NARROWER than '..Said'. Prove '..Said' where nothing that the law and all that it calls make is longer than what came in: it says more and counts as full. Else prove '..UptoSaid'. A law counts once. -/
mutual
def uptoBulk {H : Type} : DataW H → Nat
  | .lit (.string bytes) => bytes.length + 1
  | .lit _ => 1
  | .nil => 1
  | .ptr d => uptoBulk d + 1
  | .slice elems spare => uptoBulkAll elems + uptoBulkAll spare + 1
  | .agg parts => uptoBulkAll parts + 1
  | .iface _ d => uptoBulk d + 1
  | .map entries => uptoBulkEntries entries + 1
  | .held _ => 1
def uptoBulkAll {H : Type} : List (DataW H) → Nat
  | [] => 0
  | d :: r => uptoBulk d + uptoBulkAll r
def uptoBulkEntries {H : Type} : List (Lit × DataW H) → Nat
  | [] => 0
  | x :: r => uptoBulkEntry x + uptoBulkEntries r
def uptoBulkEntry {H : Type} : Lit × DataW H → Nat
  | (.string bytes, d) => bytes.length + uptoBulk d + 1
  | (_, d) => uptoBulk d + 1
 end
def uptoSmall : (H : Type) → List (DataW H) → Bool := fun _ ds => decide (uptoBulkAll ds ≤ 1048576)
def OpenSpec.upto (s : _root_.Go.ChangeSpec) : _root_.Go.OpenSpec := { _root_.Go.OpenSpec.ofChange s with cond := some uptoSmall }

/-- 'laws.FnExactCountColourings', WHERE WHAT IT READS IS OF BULK AT MOST 1048576: true; the input reads as it did. -/
def fnExactCountColouringsUptoRow : OpenClaim := { program := "ytelmdfkcclhhjaa", sum := "1b30b33e29afce94d3ec179e6c206f1f76815b67ae9bf79d1fe97284e7a8ab52", func := "loop.example/g01205/laws.FnExactCountColourings", spec := "fnExactCountColourings", unfollowed := true, recurses := true, apart := false, narrowed := true }
def FnExactCountColouringsUptoSaid : Prop := fnExactCountColouringsUptoRow.holds Try.pinned (OpenSpec.upto fnExactCountColouringsSpec)

/-- 'laws.FnExactIsFieldMatrix', WHERE WHAT IT READS IS OF BULK AT MOST 1048576: true; the input reads as it did. -/
def fnExactIsFieldMatrixUptoRow : OpenClaim := { program := "ytelmdfkcclhhjaa", sum := "1b30b33e29afce94d3ec179e6c206f1f76815b67ae9bf79d1fe97284e7a8ab52", func := "loop.example/g01205/laws.FnExactIsFieldMatrix", spec := "fnExactIsFieldMatrix", apart := false, narrowed := true }
def FnExactIsFieldMatrixUptoSaid : Prop := fnExactIsFieldMatrixUptoRow.holds Try.pinned (OpenSpec.upto fnExactIsFieldMatrixSpec)

/-- 'laws.FnExactMultiplyMatrices', WHERE WHAT IT READS IS OF BULK AT MOST 1048576: true; the input reads as it did. -/
def fnExactMultiplyMatricesUptoRow : OpenClaim := { program := "ytelmdfkcclhhjaa", sum := "1b30b33e29afce94d3ec179e6c206f1f76815b67ae9bf79d1fe97284e7a8ab52", func := "loop.example/g01205/laws.FnExactMultiplyMatrices", spec := "fnExactMultiplyMatrices", apart := false, narrowed := true }
def FnExactMultiplyMatricesUptoSaid : Prop := fnExactMultiplyMatricesUptoRow.holds Try.pinned (OpenSpec.upto fnExactMultiplyMatricesSpec)

/-- 'laws.FnExactInverseMatrix', WHERE WHAT IT READS IS OF BULK AT MOST 1048576: true; the input reads as it did. -/
def fnExactInverseMatrixUptoRow : OpenClaim := { program := "ytelmdfkcclhhjaa", sum := "1b30b33e29afce94d3ec179e6c206f1f76815b67ae9bf79d1fe97284e7a8ab52", func := "loop.example/g01205/laws.FnExactInverseMatrix", spec := "fnExactInverseMatrix", unfollowed := true, recurses := true, apart := false, narrowed := true }
def FnExactInverseMatrixUptoSaid : Prop := fnExactInverseMatrixUptoRow.holds Try.pinned (OpenSpec.upto fnExactInverseMatrixSpec)

/-- 'laws.FnExactDeterminantIn', WHERE WHAT IT READS IS OF BULK AT MOST 1048576: true; the input reads as it did. -/
def fnExactDeterminantInUptoRow : OpenClaim := { program := "ytelmdfkcclhhjaa", sum := "1b30b33e29afce94d3ec179e6c206f1f76815b67ae9bf79d1fe97284e7a8ab52", func := "loop.example/g01205/laws.FnExactDeterminantIn", spec := "fnExactDeterminantIn", unfollowed := true, recurses := true, apart := false, narrowed := true }
def FnExactDeterminantInUptoSaid : Prop := fnExactDeterminantInUptoRow.holds Try.pinned (OpenSpec.upto fnExactDeterminantInSpec)

/-- 'laws.FnExactTraceIn', WHERE WHAT IT READS IS OF BULK AT MOST 1048576: true; the input reads as it did. -/
def fnExactTraceInUptoRow : OpenClaim := { program := "ytelmdfkcclhhjaa", sum := "1b30b33e29afce94d3ec179e6c206f1f76815b67ae9bf79d1fe97284e7a8ab52", func := "loop.example/g01205/laws.FnExactTraceIn", spec := "fnExactTraceIn", apart := false, narrowed := true }
def FnExactTraceInUptoSaid : Prop := fnExactTraceInUptoRow.holds Try.pinned (OpenSpec.upto fnExactTraceInSpec)

/-- 'laws.FnExactCharacteristicOf', WHERE WHAT IT READS IS OF BULK AT MOST 1048576: true; the input reads as it did. -/
def fnExactCharacteristicOfUptoRow : OpenClaim := { program := "ytelmdfkcclhhjaa", sum := "1b30b33e29afce94d3ec179e6c206f1f76815b67ae9bf79d1fe97284e7a8ab52", func := "loop.example/g01205/laws.FnExactCharacteristicOf", spec := "fnExactCharacteristicOf", recurses := true, apart := false, narrowed := true }
def FnExactCharacteristicOfUptoSaid : Prop := fnExactCharacteristicOfUptoRow.holds Try.pinned (OpenSpec.upto fnExactCharacteristicOfSpec)

/-- 'laws.FnExactKrammerMatrix', WHERE WHAT IT READS IS OF BULK AT MOST 1048576: true; the input reads as it did. -/
def fnExactKrammerMatrixUptoRow : OpenClaim := { program := "ytelmdfkcclhhjaa", sum := "1b30b33e29afce94d3ec179e6c206f1f76815b67ae9bf79d1fe97284e7a8ab52", func := "loop.example/g01205/laws.FnExactKrammerMatrix", spec := "fnExactKrammerMatrix", unfollowed := true, recurses := true, apart := false, narrowed := true }
def FnExactKrammerMatrixUptoSaid : Prop := fnExactKrammerMatrixUptoRow.holds Try.pinned (OpenSpec.upto fnExactKrammerMatrixSpec)

/-- 'laws.FnExactBurauModulo', WHERE WHAT IT READS IS OF BULK AT MOST 1048576: true; the input reads as it did. -/
def fnExactBurauModuloUptoRow : OpenClaim := { program := "ytelmdfkcclhhjaa", sum := "1b30b33e29afce94d3ec179e6c206f1f76815b67ae9bf79d1fe97284e7a8ab52", func := "loop.example/g01205/laws.FnExactBurauModulo", spec := "fnExactBurauModulo", unfollowed := true, recurses := true, apart := false, narrowed := true }
def FnExactBurauModuloUptoSaid : Prop := fnExactBurauModuloUptoRow.holds Try.pinned (OpenSpec.upto fnExactBurauModuloSpec)

/-- 'laws.FnExactKrammerTrace', WHERE WHAT IT READS IS OF BULK AT MOST 1048576: true; the input reads as it did. -/
def fnExactKrammerTraceUptoRow : OpenClaim := { program := "ytelmdfkcclhhjaa", sum := "1b30b33e29afce94d3ec179e6c206f1f76815b67ae9bf79d1fe97284e7a8ab52", func := "loop.example/g01205/laws.FnExactKrammerTrace", spec := "fnExactKrammerTrace", unfollowed := true, recurses := true, apart := false, narrowed := true }
def FnExactKrammerTraceUptoSaid : Prop := fnExactKrammerTraceUptoRow.holds Try.pinned (OpenSpec.upto fnExactKrammerTraceSpec)

end Rows
end Go.Proofs.Ytelmdfkcclhhjaa
