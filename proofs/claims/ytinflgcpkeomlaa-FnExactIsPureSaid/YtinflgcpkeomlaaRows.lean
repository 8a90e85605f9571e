/-
  No cell of these rows narrows 'for every input' (looked for: loops, veiled, ifaces, maps, wideKeys, modest, calm, conditions, laid).
  DERIVED. THE GIVEN ROWS OF THIS SEAT. 12 by the template 'for every input the law returns true; each argument reads behind the call as it read before'; 0 by the template 'total and deterministic' (their statements: YtinflgcpkeomlaaTotals.lean).
  GIVEN WITH THE SEED: the statements are not yours to turn. If you find one false, say at which input.
  Laid BY PROGRAM, IN A SANDBOX (cutbox-rows.mjs): the forced cells as the released guide's own fill.sh prints them over the translation f5e74234cb034b3d… (all of the seat's roots in one cut). By AI agents, Wed Nov 11 2026. No macro, syntax, notation, axiom, sorry.
-/
import Derived.Test.YtinflgcpkeomlaaChecked
import GoSem.Claim
import GoSem.ClaimJoined
import GoSem.ClaimMapViews
import Derived.JoinedTies
import Derived.KernelRfl
namespace Go.Proofs.Ytinflgcpkeomlaa
/- THE CELL 'sum', in the pinned program and in every row, IS THE sha256 OF THE DUMP (.gsa) THAT YtinflgcpkeomlaaProg.lean LOADS. Nothing in Lean hashes anything: it is a label: what it is worth is what the hold of that sum in a sandbox is worth. -/
noncomputable def Try.pinned : Pinned := { name := "ytinflgcpkeomlaa", sum := "f5e74234cb034b3d519cc0791fe6f0ccb96eb4fbf5a0934f2511828cb814b257", checked := Try.checked }
namespace Rows
def none {H : Type} : Left H := { results := [], args := [] }

/-- 'laws.FnExactCrossingsOf': WHATEVER THE INPUT: true; the input reads as it did. -/
def fnExactCrossingsOfSpec : ChangeSpec := { name := "fnExactCrossingsOf", fn := fun _ => fun
  | [d] => { results := [.lit (.bool true)], args := [d] }
  | _ => none }
def fnExactCrossingsOfRow : OpenClaim := { program := "ytinflgcpkeomlaa", sum := "f5e74234cb034b3d519cc0791fe6f0ccb96eb4fbf5a0934f2511828cb814b257", func := "loop.example/g01205/laws.FnExactCrossingsOf", spec := "fnExactCrossingsOf", apart := false }
def FnExactCrossingsOfSaid : Prop := fnExactCrossingsOfRow.holds Try.pinned (OpenSpec.ofChange fnExactCrossingsOfSpec)

/-- ITS FALSE NEIGHBOUR: 'it returns false'. Refute it at one input. -/
def fnExactCrossingsOfWrong : ChangeSpec := { name := "fnExactCrossingsOf", fn := fun _ => fun
  | [d] => { results := [.lit (.bool false)], args := [d] }
  | _ => none }
def FnExactCrossingsOfWrongFalsely : Prop := fnExactCrossingsOfRow.holds Try.pinned (OpenSpec.ofChange fnExactCrossingsOfWrong)

/-- 'laws.FnExactIsPure': WHATEVER THE INPUT: true; the input reads as it did. -/
def fnExactIsPureSpec : ChangeSpec := { name := "fnExactIsPure", fn := fun _ => fun
  | [d] => { results := [.lit (.bool true)], args := [d] }
  | _ => none }
def fnExactIsPureRow : OpenClaim := { program := "ytinflgcpkeomlaa", sum := "f5e74234cb034b3d519cc0791fe6f0ccb96eb4fbf5a0934f2511828cb814b257", func := "loop.example/g01205/laws.FnExactIsPure", spec := "fnExactIsPure", apart := false }
def FnExactIsPureSaid : Prop := fnExactIsPureRow.holds Try.pinned (OpenSpec.ofChange fnExactIsPureSpec)

/-- ITS FALSE NEIGHBOUR: 'it returns false'. Refute it at one input. -/
def fnExactIsPureWrong : ChangeSpec := { name := "fnExactIsPure", fn := fun _ => fun
  | [d] => { results := [.lit (.bool false)], args := [d] }
  | _ => none }
def FnExactIsPureWrongFalsely : Prop := fnExactIsPureRow.holds Try.pinned (OpenSpec.ofChange fnExactIsPureWrong)

/-- 'laws.FnExactIsSimple': WHATEVER THE INPUT: true; the input reads as it did. -/
def fnExactIsSimpleSpec : ChangeSpec := { name := "fnExactIsSimple", fn := fun _ => fun
  | [d1, d2] => { results := [.lit (.bool true)], args := [d1, d2] }
  | _ => none }
def fnExactIsSimpleRow : OpenClaim := { program := "ytinflgcpkeomlaa", sum := "f5e74234cb034b3d519cc0791fe6f0ccb96eb4fbf5a0934f2511828cb814b257", func := "loop.example/g01205/laws.FnExactIsSimple", spec := "fnExactIsSimple", unfollowed := true, recurses := true, apart := false }
def FnExactIsSimpleSaid : Prop := fnExactIsSimpleRow.holds Try.pinned (OpenSpec.ofChange fnExactIsSimpleSpec)

/-- ITS FALSE NEIGHBOUR: 'it returns false'. Refute it at one input. -/
def fnExactIsSimpleWrong : ChangeSpec := { name := "fnExactIsSimple", fn := fun _ => fun
  | [d1, d2] => { results := [.lit (.bool false)], args := [d1, d2] }
  | _ => none }
def FnExactIsSimpleWrongFalsely : Prop := fnExactIsSimpleRow.holds Try.pinned (OpenSpec.ofChange fnExactIsSimpleWrong)

/-- 'laws.FnExactHalfTurn': WHATEVER THE INPUT: true; the input reads as it did. -/
def fnExactHalfTurnSpec : ChangeSpec := { name := "fnExactHalfTurn", fn := fun _ => fun
  | [d] => { results := [.lit (.bool true)], args := [d] }
  | _ => none }
def fnExactHalfTurnRow : OpenClaim := { program := "ytinflgcpkeomlaa", sum := "f5e74234cb034b3d519cc0791fe6f0ccb96eb4fbf5a0934f2511828cb814b257", func := "loop.example/g01205/laws.FnExactHalfTurn", spec := "fnExactHalfTurn", unfollowed := true, recurses := true, apart := false }
def FnExactHalfTurnSaid : Prop := fnExactHalfTurnRow.holds Try.pinned (OpenSpec.ofChange fnExactHalfTurnSpec)

/-- ITS FALSE NEIGHBOUR: 'it returns false'. Refute it at one input. -/
def fnExactHalfTurnWrong : ChangeSpec := { name := "fnExactHalfTurn", fn := fun _ => fun
  | [d] => { results := [.lit (.bool false)], args := [d] }
  | _ => none }
def FnExactHalfTurnWrongFalsely : Prop := fnExactHalfTurnRow.holds Try.pinned (OpenSpec.ofChange fnExactHalfTurnWrong)

/-- 'laws.FnExactLengthOfSimple': WHATEVER THE INPUT: true; the input reads as it did. -/
def fnExactLengthOfSimpleSpec : ChangeSpec := { name := "fnExactLengthOfSimple", fn := fun _ => fun
  | [d1, d2] => { results := [.lit (.bool true)], args := [d1, d2] }
  | _ => none }
def fnExactLengthOfSimpleRow : OpenClaim := { program := "ytinflgcpkeomlaa", sum := "f5e74234cb034b3d519cc0791fe6f0ccb96eb4fbf5a0934f2511828cb814b257", func := "loop.example/g01205/laws.FnExactLengthOfSimple", spec := "fnExactLengthOfSimple", unfollowed := true, recurses := true, apart := false }
def FnExactLengthOfSimpleSaid : Prop := fnExactLengthOfSimpleRow.holds Try.pinned (OpenSpec.ofChange fnExactLengthOfSimpleSpec)

/-- ITS FALSE NEIGHBOUR: 'it returns false'. Refute it at one input. -/
def fnExactLengthOfSimpleWrong : ChangeSpec := { name := "fnExactLengthOfSimple", fn := fun _ => fun
  | [d1, d2] => { results := [.lit (.bool false)], args := [d1, d2] }
  | _ => none }
def FnExactLengthOfSimpleWrongFalsely : Prop := fnExactLengthOfSimpleRow.holds Try.pinned (OpenSpec.ofChange fnExactLengthOfSimpleWrong)

/-- 'laws.FnExactThenSimple': WHATEVER THE INPUT: true; the input reads as it did. -/
def fnExactThenSimpleSpec : ChangeSpec := { name := "fnExactThenSimple", fn := fun _ => fun
  | [d1, d2, d3] => { results := [.lit (.bool true)], args := [d1, d2, d3] }
  | _ => none }
def fnExactThenSimpleRow : OpenClaim := { program := "ytinflgcpkeomlaa", sum := "f5e74234cb034b3d519cc0791fe6f0ccb96eb4fbf5a0934f2511828cb814b257", func := "loop.example/g01205/laws.FnExactThenSimple", spec := "fnExactThenSimple", unfollowed := true, recurses := true, apart := false }
def FnExactThenSimpleSaid : Prop := fnExactThenSimpleRow.holds Try.pinned (OpenSpec.ofChange fnExactThenSimpleSpec)

/-- ITS FALSE NEIGHBOUR: 'it returns false'. Refute it at one input. -/
def fnExactThenSimpleWrong : ChangeSpec := { name := "fnExactThenSimple", fn := fun _ => fun
  | [d1, d2, d3] => { results := [.lit (.bool false)], args := [d1, d2, d3] }
  | _ => none }
def FnExactThenSimpleWrongFalsely : Prop := fnExactThenSimpleRow.holds Try.pinned (OpenSpec.ofChange fnExactThenSimpleWrong)

/-- 'laws.FnExactIsShort': WHATEVER THE INPUT: true; the input reads as it did. -/
def fnExactIsShortSpec : ChangeSpec := { name := "fnExactIsShort", fn := fun _ => fun
  | [d1, d2, d3] => { results := [.lit (.bool true)], args := [d1, d2, d3] }
  | _ => none }
def fnExactIsShortRow : OpenClaim := { program := "ytinflgcpkeomlaa", sum := "f5e74234cb034b3d519cc0791fe6f0ccb96eb4fbf5a0934f2511828cb814b257", func := "loop.example/g01205/laws.FnExactIsShort", spec := "fnExactIsShort", unfollowed := true, recurses := true, apart := false }
def FnExactIsShortSaid : Prop := fnExactIsShortRow.holds Try.pinned (OpenSpec.ofChange fnExactIsShortSpec)

/-- ITS FALSE NEIGHBOUR: 'it returns false'. Refute it at one input. -/
def fnExactIsShortWrong : ChangeSpec := { name := "fnExactIsShort", fn := fun _ => fun
  | [d1, d2, d3] => { results := [.lit (.bool false)], args := [d1, d2, d3] }
  | _ => none }
def FnExactIsShortWrongFalsely : Prop := fnExactIsShortRow.holds Try.pinned (OpenSpec.ofChange fnExactIsShortWrong)

/-- 'laws.FnExactBeginningLetters': WHATEVER THE INPUT: true; the input reads as it did. -/
def fnExactBeginningLettersSpec : ChangeSpec := { name := "fnExactBeginningLetters", fn := fun _ => fun
  | [d1, d2] => { results := [.lit (.bool true)], args := [d1, d2] }
  | _ => none }
def fnExactBeginningLettersRow : OpenClaim := { program := "ytinflgcpkeomlaa", sum := "f5e74234cb034b3d519cc0791fe6f0ccb96eb4fbf5a0934f2511828cb814b257", func := "loop.example/g01205/laws.FnExactBeginningLetters", spec := "fnExactBeginningLetters", unfollowed := true, recurses := true, apart := false }
def FnExactBeginningLettersSaid : Prop := fnExactBeginningLettersRow.holds Try.pinned (OpenSpec.ofChange fnExactBeginningLettersSpec)

/-- ITS FALSE NEIGHBOUR: 'it returns false'. Refute it at one input. -/
def fnExactBeginningLettersWrong : ChangeSpec := { name := "fnExactBeginningLetters", fn := fun _ => fun
  | [d1, d2] => { results := [.lit (.bool false)], args := [d1, d2] }
  | _ => none }
def FnExactBeginningLettersWrongFalsely : Prop := fnExactBeginningLettersRow.holds Try.pinned (OpenSpec.ofChange fnExactBeginningLettersWrong)

/-- 'laws.FnExactEndingLetters': WHATEVER THE INPUT: true; the input reads as it did. -/
def fnExactEndingLettersSpec : ChangeSpec := { name := "fnExactEndingLetters", fn := fun _ => fun
  | [d1, d2] => { results := [.lit (.bool true)], args := [d1, d2] }
  | _ => none }
def fnExactEndingLettersRow : OpenClaim := { program := "ytinflgcpkeomlaa", sum := "f5e74234cb034b3d519cc0791fe6f0ccb96eb4fbf5a0934f2511828cb814b257", func := "loop.example/g01205/laws.FnExactEndingLetters", spec := "fnExactEndingLetters", unfollowed := true, recurses := true, apart := false }
def FnExactEndingLettersSaid : Prop := fnExactEndingLettersRow.holds Try.pinned (OpenSpec.ofChange fnExactEndingLettersSpec)

/-- ITS FALSE NEIGHBOUR: 'it returns false'. Refute it at one input. -/
def fnExactEndingLettersWrong : ChangeSpec := { name := "fnExactEndingLetters", fn := fun _ => fun
  | [d1, d2] => { results := [.lit (.bool false)], args := [d1, d2] }
  | _ => none }
def FnExactEndingLettersWrongFalsely : Prop := fnExactEndingLettersRow.holds Try.pinned (OpenSpec.ofChange fnExactEndingLettersWrong)

/-- 'laws.FnExactIsBeginning': WHATEVER THE INPUT: true; the input reads as it did. -/
def fnExactIsBeginningSpec : ChangeSpec := { name := "fnExactIsBeginning", fn := fun _ => fun
  | [d1, d2, d3] => { results := [.lit (.bool true)], args := [d1, d2, d3] }
  | _ => none }
def fnExactIsBeginningRow : OpenClaim := { program := "ytinflgcpkeomlaa", sum := "f5e74234cb034b3d519cc0791fe6f0ccb96eb4fbf5a0934f2511828cb814b257", func := "loop.example/g01205/laws.FnExactIsBeginning", spec := "fnExactIsBeginning", unfollowed := true, recurses := true, apart := false }
def FnExactIsBeginningSaid : Prop := fnExactIsBeginningRow.holds Try.pinned (OpenSpec.ofChange fnExactIsBeginningSpec)

/-- ITS FALSE NEIGHBOUR: 'it returns false'. Refute it at one input. -/
def fnExactIsBeginningWrong : ChangeSpec := { name := "fnExactIsBeginning", fn := fun _ => fun
  | [d1, d2, d3] => { results := [.lit (.bool false)], args := [d1, d2, d3] }
  | _ => none }
def FnExactIsBeginningWrongFalsely : Prop := fnExactIsBeginningRow.holds Try.pinned (OpenSpec.ofChange fnExactIsBeginningWrong)

/-- 'laws.FnExactComplementOf': WHATEVER THE INPUT: true; the input reads as it did. -/
def fnExactComplementOfSpec : ChangeSpec := { name := "fnExactComplementOf", fn := fun _ => fun
  | [d1, d2] => { results := [.lit (.bool true)], args := [d1, d2] }
  | _ => none }
def fnExactComplementOfRow : OpenClaim := { program := "ytinflgcpkeomlaa", sum := "f5e74234cb034b3d519cc0791fe6f0ccb96eb4fbf5a0934f2511828cb814b257", func := "loop.example/g01205/laws.FnExactComplementOf", spec := "fnExactComplementOf", unfollowed := true, recurses := true, apart := false }
def FnExactComplementOfSaid : Prop := fnExactComplementOfRow.holds Try.pinned (OpenSpec.ofChange fnExactComplementOfSpec)

/-- ITS FALSE NEIGHBOUR: 'it returns false'. Refute it at one input. -/
def fnExactComplementOfWrong : ChangeSpec := { name := "fnExactComplementOf", fn := fun _ => fun
  | [d1, d2] => { results := [.lit (.bool false)], args := [d1, d2] }
  | _ => none }
def FnExactComplementOfWrongFalsely : Prop := fnExactComplementOfRow.holds Try.pinned (OpenSpec.ofChange fnExactComplementOfWrong)

/-- 'laws.FnExactLeftComplementOf': WHATEVER THE INPUT: true; the input reads as it did. -/
def fnExactLeftComplementOfSpec : ChangeSpec := { name := "fnExactLeftComplementOf", fn := fun _ => fun
  | [d1, d2] => { results := [.lit (.bool true)], args := [d1, d2] }
  | _ => none }
def fnExactLeftComplementOfRow : OpenClaim := { program := "ytinflgcpkeomlaa", sum := "f5e74234cb034b3d519cc0791fe6f0ccb96eb4fbf5a0934f2511828cb814b257", func := "loop.example/g01205/laws.FnExactLeftComplementOf", spec := "fnExactLeftComplementOf", unfollowed := true, recurses := true, apart := false }
def FnExactLeftComplementOfSaid : Prop := fnExactLeftComplementOfRow.holds Try.pinned (OpenSpec.ofChange fnExactLeftComplementOfSpec)

/-- ITS FALSE NEIGHBOUR: 'it returns false'. Refute it at one input. -/
def fnExactLeftComplementOfWrong : ChangeSpec := { name := "fnExactLeftComplementOf", fn := fun _ => fun
  | [d1, d2] => { results := [.lit (.bool false)], args := [d1, d2] }
  | _ => none }
def FnExactLeftComplementOfWrongFalsely : Prop := fnExactLeftComplementOfRow.holds Try.pinned (OpenSpec.ofChange fnExactLeftComplementOfWrong)

/- THE SECOND FORM. 'bulk': how many values and letters a reading holds, each counted each time it is reached (what is shared counts as often as it is met; a slice's spare places count too). A statement '..UptoSaid' is the law's where the arguments, and the package variables that the reading takes, are together of bulk at most 1048576: NARROWER than '..Said'. Prove '..Said' where nothing that the law and all that it calls make is longer than what came in: it says more and counts as full. Else prove '..UptoSaid'. A law counts once. -/
mutual
def uptoBulk {H : Type} : DataW H → Nat
  | .lit (.string bytes) => bytes.length + 1
  | .lit _ => 1
  | .nil => 1
  | .ptr d => uptoBulk d + 1
  | .slice elems spare => uptoBulkAll elems + uptoBulkAll spare + 1
  | .agg parts => uptoBulkAll parts + 1
  | .iface _ d => uptoBulk d + 1
  | .map entries => uptoBulkEntries entries + 1
  | .held _ => 1
def uptoBulkAll {H : Type} : List (DataW H) → Nat
  | [] => 0
  | d :: r => uptoBulk d + uptoBulkAll r
def uptoBulkEntries {H : Type} : List (Lit × DataW H) → Nat
  | [] => 0
  | x :: r => uptoBulkEntry x + uptoBulkEntries r
def uptoBulkEntry {H : Type} : Lit × DataW H → Nat
  | (.string bytes, d) => bytes.length + uptoBulk d + 1
  | (_, d) => uptoBulk d + 1
 end
def uptoSmall : (H : Type) → List (DataW H) → Bool := fun _ ds => decide (uptoBulkAll ds ≤ 1048576)
def OpenSpec.upto (s : _root_.Go.ChangeSpec) : _root_.Go.OpenSpec := { _root_.Go.OpenSpec.ofChange s with cond := some uptoSmall }

/-- 'laws.FnExactCrossingsOf', WHERE WHAT IT READS IS OF BULK AT MOST 1048576: true; the input reads as it did. -/
def fnExactCrossingsOfUptoRow : OpenClaim := { program := "ytinflgcpkeomlaa", sum := "f5e74234cb034b3d519cc0791fe6f0ccb96eb4fbf5a0934f2511828cb814b257", func := "loop.example/g01205/laws.FnExactCrossingsOf", spec := "fnExactCrossingsOf", apart := false, narrowed := true }
def FnExactCrossingsOfUptoSaid : Prop := fnExactCrossingsOfUptoRow.holds Try.pinned (OpenSpec.upto fnExactCrossingsOfSpec)

/-- 'laws.FnExactIsPure', WHERE WHAT IT READS IS OF BULK AT MOST 1048576: true; the input reads as it did. -/
def fnExactIsPureUptoRow : OpenClaim := { program := "ytinflgcpkeomlaa", sum := "f5e74234cb034b3d519cc0791fe6f0ccb96eb4fbf5a0934f2511828cb814b257", func := "loop.example/g01205/laws.FnExactIsPure", spec := "fnExactIsPure", apart := false, narrowed := true }
def FnExactIsPureUptoSaid : Prop := fnExactIsPureUptoRow.holds Try.pinned (OpenSpec.upto fnExactIsPureSpec)

/-- 'laws.FnExactIsSimple', WHERE WHAT IT READS IS OF BULK AT MOST 1048576: true; the input reads as it did. -/
def fnExactIsSimpleUptoRow : OpenClaim := { program := "ytinflgcpkeomlaa", sum := "f5e74234cb034b3d519cc0791fe6f0ccb96eb4fbf5a0934f2511828cb814b257", func := "loop.example/g01205/laws.FnExactIsSimple", spec := "fnExactIsSimple", unfollowed := true, recurses := true, apart := false, narrowed := true }
def FnExactIsSimpleUptoSaid : Prop := fnExactIsSimpleUptoRow.holds Try.pinned (OpenSpec.upto fnExactIsSimpleSpec)

/-- 'laws.FnExactHalfTurn', WHERE WHAT IT READS IS OF BULK AT MOST 1048576: true; the input reads as it did. -/
def fnExactHalfTurnUptoRow : OpenClaim := { program := "ytinflgcpkeomlaa", sum := "f5e74234cb034b3d519cc0791fe6f0ccb96eb4fbf5a0934f2511828cb814b257", func := "loop.example/g01205/laws.FnExactHalfTurn", spec := "fnExactHalfTurn", unfollowed := true, recurses := true, apart := false, narrowed := true }
def FnExactHalfTurnUptoSaid : Prop := fnExactHalfTurnUptoRow.holds Try.pinned (OpenSpec.upto fnExactHalfTurnSpec)

/-- 'laws.FnExactLengthOfSimple', WHERE WHAT IT READS IS OF BULK AT MOST 1048576: true; the input reads as it did. -/
def fnExactLengthOfSimpleUptoRow : OpenClaim := { program := "ytinflgcpkeomlaa", sum := "f5e74234cb034b3d519cc0791fe6f0ccb96eb4fbf5a0934f2511828cb814b257", func := "loop.example/g01205/laws.FnExactLengthOfSimple", spec := "fnExactLengthOfSimple", unfollowed := true, recurses := true, apart := false, narrowed := true }
def FnExactLengthOfSimpleUptoSaid : Prop := fnExactLengthOfSimpleUptoRow.holds Try.pinned (OpenSpec.upto fnExactLengthOfSimpleSpec)

/-- 'laws.FnExactThenSimple', WHERE WHAT IT READS IS OF BULK AT MOST 1048576: true; the input reads as it did. -/
def fnExactThenSimpleUptoRow : OpenClaim := { program := "ytinflgcpkeomlaa", sum := "f5e74234cb034b3d519cc0791fe6f0ccb96eb4fbf5a0934f2511828cb814b257", func := "loop.example/g01205/laws.FnExactThenSimple", spec := "fnExactThenSimple", unfollowed := true, recurses := true, apart := false, narrowed := true }
def FnExactThenSimpleUptoSaid : Prop := fnExactThenSimpleUptoRow.holds Try.pinned (OpenSpec.upto fnExactThenSimpleSpec)

/-- 'laws.FnExactIsShort', WHERE WHAT IT READS IS OF BULK AT MOST 1048576: true; the input reads as it did. -/
def fnExactIsShortUptoRow : OpenClaim := { program := "ytinflgcpkeomlaa", sum := "f5e74234cb034b3d519cc0791fe6f0ccb96eb4fbf5a0934f2511828cb814b257", func := "loop.example/g01205/laws.FnExactIsShort", spec := "fnExactIsShort", unfollowed := true, recurses := true, apart := false, narrowed := true }
def FnExactIsShortUptoSaid : Prop := fnExactIsShortUptoRow.holds Try.pinned (OpenSpec.upto fnExactIsShortSpec)

/-- 'laws.FnExactBeginningLetters', WHERE WHAT IT READS IS OF BULK AT MOST 1048576: true; the input reads as it did. -/
def fnExactBeginningLettersUptoRow : OpenClaim := { program := "ytinflgcpkeomlaa", sum := "f5e74234cb034b3d519cc0791fe6f0ccb96eb4fbf5a0934f2511828cb814b257", func := "loop.example/g01205/laws.FnExactBeginningLetters", spec := "fnExactBeginningLetters", unfollowed := true, recurses := true, apart := false, narrowed := true }
def FnExactBeginningLettersUptoSaid : Prop := fnExactBeginningLettersUptoRow.holds Try.pinned (OpenSpec.upto fnExactBeginningLettersSpec)

/-- 'laws.FnExactEndingLetters', WHERE WHAT IT READS IS OF BULK AT MOST 1048576: true; the input reads as it did. -/
def fnExactEndingLettersUptoRow : OpenClaim := { program := "ytinflgcpkeomlaa", sum := "f5e74234cb034b3d519cc0791fe6f0ccb96eb4fbf5a0934f2511828cb814b257", func := "loop.example/g01205/laws.FnExactEndingLetters", spec := "fnExactEndingLetters", unfollowed := true, recurses := true, apart := false, narrowed := true }
def FnExactEndingLettersUptoSaid : Prop := fnExactEndingLettersUptoRow.holds Try.pinned (OpenSpec.upto fnExactEndingLettersSpec)

/-- 'laws.FnExactIsBeginning', WHERE WHAT IT READS IS OF BULK AT MOST 1048576: true; the input reads as it did. -/
def fnExactIsBeginningUptoRow : OpenClaim := { program := "ytinflgcpkeomlaa", sum := "f5e74234cb034b3d519cc0791fe6f0ccb96eb4fbf5a0934f2511828cb814b257", func := "loop.example/g01205/laws.FnExactIsBeginning", spec := "fnExactIsBeginning", unfollowed := true, recurses := true, apart := false, narrowed := true }
def FnExactIsBeginningUptoSaid : Prop := fnExactIsBeginningUptoRow.holds Try.pinned (OpenSpec.upto fnExactIsBeginningSpec)

/-- 'laws.FnExactComplementOf', WHERE WHAT IT READS IS OF BULK AT MOST 1048576: true; the input reads as it did. -/
def fnExactComplementOfUptoRow : OpenClaim := { program := "ytinflgcpkeomlaa", sum := "f5e74234cb034b3d519cc0791fe6f0ccb96eb4fbf5a0934f2511828cb814b257", func := "loop.example/g01205/laws.FnExactComplementOf", spec := "fnExactComplementOf", unfollowed := true, recurses := true, apart := false, narrowed := true }
def FnExactComplementOfUptoSaid : Prop := fnExactComplementOfUptoRow.holds Try.pinned (OpenSpec.upto fnExactComplementOfSpec)

/-- 'laws.FnExactLeftComplementOf', WHERE WHAT IT READS IS OF BULK AT MOST 1048576: true; the input reads as it did. -/
def fnExactLeftComplementOfUptoRow : OpenClaim := { program := "ytinflgcpkeomlaa", sum := "f5e74234cb034b3d519cc0791fe6f0ccb96eb4fbf5a0934f2511828cb814b257", func := "loop.example/g01205/laws.FnExactLeftComplementOf", spec := "fnExactLeftComplementOf", unfollowed := true, recurses := true, apart := false, narrowed := true }
def FnExactLeftComplementOfUptoSaid : Prop := fnExactLeftComplementOfUptoRow.holds Try.pinned (OpenSpec.upto fnExactLeftComplementOfSpec)

end Rows
end Go.Proofs.Ytinflgcpkeomlaa
