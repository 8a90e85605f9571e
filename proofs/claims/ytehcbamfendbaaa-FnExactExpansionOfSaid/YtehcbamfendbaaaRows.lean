/-
  No cell of these rows narrows 'for every input' (looked for: loops, veiled, ifaces, maps, wideKeys, modest, calm, conditions, laid).
  DERIVED. THE GIVEN ROWS OF THIS SEAT. 13 by the template 'for every input the law returns true; each argument reads behind the call as it read before'; 0 by the template 'total and deterministic' (their statements: YtehcbamfendbaaaTotals.lean).
  GIVEN WITH THE SEED: the statements are not yours to turn. If you find one false, say at which input.
  Laid BY PROGRAM, IN A SANDBOX (cutbox-rows.mjs): the forced cells as the released guide's own fill.sh prints them over the translation fb22472ccb186929… (all of the seat's roots in one cut). By AI agents, Wed Nov 11 2026. No macro, syntax, notation, axiom, sorry.
-/
import Derived.Test.YtehcbamfendbaaaChecked
import GoSem.Claim
import GoSem.ClaimJoined
import GoSem.ClaimMapViews
import Derived.JoinedTies
import Derived.KernelRfl
namespace Go.Proofs.Ytehcbamfendbaaa
/- THE CELL 'sum', in the pinned program and in every row, IS THE sha256 OF THE DUMP (.gsa) THAT YtehcbamfendbaaaProg.lean LOADS. Nothing in Lean hashes anything: it is a label: what it is worth is what the hold of that sum in a sandbox is worth. -/
noncomputable def Try.pinned : Pinned := { name := "ytehcbamfendbaaa", sum := "fb22472ccb1869296edbdf9e784b9eac8d70fa00c93d57cff8a917661ccd73b0", checked := Try.checked }
namespace Rows
def none {H : Type} : Left H := { results := [], args := [] }

/-- 'laws.FnExactComponentsOf': WHATEVER THE INPUT: true; the input reads as it did. -/
def fnExactComponentsOfSpec : ChangeSpec := { name := "fnExactComponentsOf", fn := fun _ => fun
  | [d] => { results := [.lit (.bool true)], args := [d] }
  | _ => none }
def fnExactComponentsOfRow : OpenClaim := { program := "ytehcbamfendbaaa", sum := "fb22472ccb1869296edbdf9e784b9eac8d70fa00c93d57cff8a917661ccd73b0", func := "loop.example/g01205/laws.FnExactComponentsOf", spec := "fnExactComponentsOf", unfollowed := true, recurses := true, apart := false }
def FnExactComponentsOfSaid : Prop := fnExactComponentsOfRow.holds Try.pinned (OpenSpec.ofChange fnExactComponentsOfSpec)

/-- ITS FALSE NEIGHBOUR: 'it returns false'. Refute it at one input. -/
def fnExactComponentsOfWrong : ChangeSpec := { name := "fnExactComponentsOf", fn := fun _ => fun
  | [d] => { results := [.lit (.bool false)], args := [d] }
  | _ => none }
def FnExactComponentsOfWrongFalsely : Prop := fnExactComponentsOfRow.holds Try.pinned (OpenSpec.ofChange fnExactComponentsOfWrong)

/-- 'laws.FnExactComponentLinkings': WHATEVER THE INPUT: true; the input reads as it did. -/
def fnExactComponentLinkingsSpec : ChangeSpec := { name := "fnExactComponentLinkings", fn := fun _ => fun
  | [d] => { results := [.lit (.bool true)], args := [d] }
  | _ => none }
def fnExactComponentLinkingsRow : OpenClaim := { program := "ytehcbamfendbaaa", sum := "fb22472ccb1869296edbdf9e784b9eac8d70fa00c93d57cff8a917661ccd73b0", func := "loop.example/g01205/laws.FnExactComponentLinkings", spec := "fnExactComponentLinkings", unfollowed := true, recurses := true, apart := false }
def FnExactComponentLinkingsSaid : Prop := fnExactComponentLinkingsRow.holds Try.pinned (OpenSpec.ofChange fnExactComponentLinkingsSpec)

/-- ITS FALSE NEIGHBOUR: 'it returns false'. Refute it at one input. -/
def fnExactComponentLinkingsWrong : ChangeSpec := { name := "fnExactComponentLinkings", fn := fun _ => fun
  | [d] => { results := [.lit (.bool false)], args := [d] }
  | _ => none }
def FnExactComponentLinkingsWrongFalsely : Prop := fnExactComponentLinkingsRow.holds Try.pinned (OpenSpec.ofChange fnExactComponentLinkingsWrong)

/-- 'laws.FnExactSeifertNumber': WHATEVER THE INPUT: true; the input reads as it did. -/
def fnExactSeifertNumberSpec : ChangeSpec := { name := "fnExactSeifertNumber", fn := fun _ => fun
  | [d] => { results := [.lit (.bool true)], args := [d] }
  | _ => none }
def fnExactSeifertNumberRow : OpenClaim := { program := "ytehcbamfendbaaa", sum := "fb22472ccb1869296edbdf9e784b9eac8d70fa00c93d57cff8a917661ccd73b0", func := "loop.example/g01205/laws.FnExactSeifertNumber", spec := "fnExactSeifertNumber", apart := false }
def FnExactSeifertNumberSaid : Prop := fnExactSeifertNumberRow.holds Try.pinned (OpenSpec.ofChange fnExactSeifertNumberSpec)

/-- ITS FALSE NEIGHBOUR: 'it returns false'. Refute it at one input. -/
def fnExactSeifertNumberWrong : ChangeSpec := { name := "fnExactSeifertNumber", fn := fun _ => fun
  | [d] => { results := [.lit (.bool false)], args := [d] }
  | _ => none }
def FnExactSeifertNumberWrongFalsely : Prop := fnExactSeifertNumberRow.holds Try.pinned (OpenSpec.ofChange fnExactSeifertNumberWrong)

/-- 'laws.FnExactSeifertGenus': WHATEVER THE INPUT: true; the input reads as it did. -/
def fnExactSeifertGenusSpec : ChangeSpec := { name := "fnExactSeifertGenus", fn := fun _ => fun
  | [d] => { results := [.lit (.bool true)], args := [d] }
  | _ => none }
def fnExactSeifertGenusRow : OpenClaim := { program := "ytehcbamfendbaaa", sum := "fb22472ccb1869296edbdf9e784b9eac8d70fa00c93d57cff8a917661ccd73b0", func := "loop.example/g01205/laws.FnExactSeifertGenus", spec := "fnExactSeifertGenus", unfollowed := true, recurses := true, apart := false }
def FnExactSeifertGenusSaid : Prop := fnExactSeifertGenusRow.holds Try.pinned (OpenSpec.ofChange fnExactSeifertGenusSpec)

/-- ITS FALSE NEIGHBOUR: 'it returns false'. Refute it at one input. -/
def fnExactSeifertGenusWrong : ChangeSpec := { name := "fnExactSeifertGenus", fn := fun _ => fun
  | [d] => { results := [.lit (.bool false)], args := [d] }
  | _ => none }
def FnExactSeifertGenusWrongFalsely : Prop := fnExactSeifertGenusRow.holds Try.pinned (OpenSpec.ofChange fnExactSeifertGenusWrong)

/-- 'laws.FnExactConjugateWord': WHATEVER THE INPUT: true; the input reads as it did. -/
def fnExactConjugateWordSpec : ChangeSpec := { name := "fnExactConjugateWord", fn := fun _ => fun
  | [d1, d2] => { results := [.lit (.bool true)], args := [d1, d2] }
  | _ => none }
def fnExactConjugateWordRow : OpenClaim := { program := "ytehcbamfendbaaa", sum := "fb22472ccb1869296edbdf9e784b9eac8d70fa00c93d57cff8a917661ccd73b0", func := "loop.example/g01205/laws.FnExactConjugateWord", spec := "fnExactConjugateWord", unfollowed := true, recurses := true, apart := false }
def FnExactConjugateWordSaid : Prop := fnExactConjugateWordRow.holds Try.pinned (OpenSpec.ofChange fnExactConjugateWordSpec)

/-- ITS FALSE NEIGHBOUR: 'it returns false'. Refute it at one input. -/
def fnExactConjugateWordWrong : ChangeSpec := { name := "fnExactConjugateWord", fn := fun _ => fun
  | [d1, d2] => { results := [.lit (.bool false)], args := [d1, d2] }
  | _ => none }
def FnExactConjugateWordWrongFalsely : Prop := fnExactConjugateWordRow.holds Try.pinned (OpenSpec.ofChange fnExactConjugateWordWrong)

/-- 'laws.FnExactAddStrand': WHATEVER THE INPUT: true; the input reads as it did. -/
def fnExactAddStrandSpec : ChangeSpec := { name := "fnExactAddStrand", fn := fun _ => fun
  | [d1, d2] => { results := [.lit (.bool true)], args := [d1, d2] }
  | _ => none }
def fnExactAddStrandRow : OpenClaim := { program := "ytehcbamfendbaaa", sum := "fb22472ccb1869296edbdf9e784b9eac8d70fa00c93d57cff8a917661ccd73b0", func := "loop.example/g01205/laws.FnExactAddStrand", spec := "fnExactAddStrand", apart := false }
def FnExactAddStrandSaid : Prop := fnExactAddStrandRow.holds Try.pinned (OpenSpec.ofChange fnExactAddStrandSpec)

/-- ITS FALSE NEIGHBOUR: 'it returns false'. Refute it at one input. -/
def fnExactAddStrandWrong : ChangeSpec := { name := "fnExactAddStrand", fn := fun _ => fun
  | [d1, d2] => { results := [.lit (.bool false)], args := [d1, d2] }
  | _ => none }
def FnExactAddStrandWrongFalsely : Prop := fnExactAddStrandRow.holds Try.pinned (OpenSpec.ofChange fnExactAddStrandWrong)

/-- 'laws.FnExactRemoveStrand': WHATEVER THE INPUT: true; the input reads as it did. -/
def fnExactRemoveStrandSpec : ChangeSpec := { name := "fnExactRemoveStrand", fn := fun _ => fun
  | [d] => { results := [.lit (.bool true)], args := [d] }
  | _ => none }
def fnExactRemoveStrandRow : OpenClaim := { program := "ytehcbamfendbaaa", sum := "fb22472ccb1869296edbdf9e784b9eac8d70fa00c93d57cff8a917661ccd73b0", func := "loop.example/g01205/laws.FnExactRemoveStrand", spec := "fnExactRemoveStrand", unfollowed := true, recurses := true, apart := false }
def FnExactRemoveStrandSaid : Prop := fnExactRemoveStrandRow.holds Try.pinned (OpenSpec.ofChange fnExactRemoveStrandSpec)

/-- ITS FALSE NEIGHBOUR: 'it returns false'. Refute it at one input. -/
def fnExactRemoveStrandWrong : ChangeSpec := { name := "fnExactRemoveStrand", fn := fun _ => fun
  | [d] => { results := [.lit (.bool false)], args := [d] }
  | _ => none }
def FnExactRemoveStrandWrongFalsely : Prop := fnExactRemoveStrandRow.holds Try.pinned (OpenSpec.ofChange fnExactRemoveStrandWrong)

/-- 'laws.FnExactTorusBraid': WHATEVER THE INPUT: true; the input reads as it did. -/
def fnExactTorusBraidSpec : ChangeSpec := { name := "fnExactTorusBraid", fn := fun _ => fun
  | [d1, d2] => { results := [.lit (.bool true)], args := [d1, d2] }
  | _ => none }
def fnExactTorusBraidRow : OpenClaim := { program := "ytehcbamfendbaaa", sum := "fb22472ccb1869296edbdf9e784b9eac8d70fa00c93d57cff8a917661ccd73b0", func := "loop.example/g01205/laws.FnExactTorusBraid", spec := "fnExactTorusBraid", apart := false }
def FnExactTorusBraidSaid : Prop := fnExactTorusBraidRow.holds Try.pinned (OpenSpec.ofChange fnExactTorusBraidSpec)

/-- ITS FALSE NEIGHBOUR: 'it returns false'. Refute it at one input. -/
def fnExactTorusBraidWrong : ChangeSpec := { name := "fnExactTorusBraid", fn := fun _ => fun
  | [d1, d2] => { results := [.lit (.bool false)], args := [d1, d2] }
  | _ => none }
def FnExactTorusBraidWrongFalsely : Prop := fnExactTorusBraidRow.holds Try.pinned (OpenSpec.ofChange fnExactTorusBraidWrong)

/-- 'laws.FnExactPlatComponents': WHATEVER THE INPUT: true; the input reads as it did. -/
def fnExactPlatComponentsSpec : ChangeSpec := { name := "fnExactPlatComponents", fn := fun _ => fun
  | [d] => { results := [.lit (.bool true)], args := [d] }
  | _ => none }
def fnExactPlatComponentsRow : OpenClaim := { program := "ytehcbamfendbaaa", sum := "fb22472ccb1869296edbdf9e784b9eac8d70fa00c93d57cff8a917661ccd73b0", func := "loop.example/g01205/laws.FnExactPlatComponents", spec := "fnExactPlatComponents", unfollowed := true, recurses := true, apart := false }
def FnExactPlatComponentsSaid : Prop := fnExactPlatComponentsRow.holds Try.pinned (OpenSpec.ofChange fnExactPlatComponentsSpec)

/-- ITS FALSE NEIGHBOUR: 'it returns false'. Refute it at one input. -/
def fnExactPlatComponentsWrong : ChangeSpec := { name := "fnExactPlatComponents", fn := fun _ => fun
  | [d] => { results := [.lit (.bool false)], args := [d] }
  | _ => none }
def FnExactPlatComponentsWrongFalsely : Prop := fnExactPlatComponentsRow.holds Try.pinned (OpenSpec.ofChange fnExactPlatComponentsWrong)

/-- 'laws.FnExactCombOf': WHATEVER THE INPUT: true; the input reads as it did. -/
def fnExactCombOfSpec : ChangeSpec := { name := "fnExactCombOf", fn := fun _ => fun
  | [d] => { results := [.lit (.bool true)], args := [d] }
  | _ => none }
def fnExactCombOfRow : OpenClaim := { program := "ytehcbamfendbaaa", sum := "fb22472ccb1869296edbdf9e784b9eac8d70fa00c93d57cff8a917661ccd73b0", func := "loop.example/g01205/laws.FnExactCombOf", spec := "fnExactCombOf", unfollowed := true, recurses := true, apart := false }
def FnExactCombOfSaid : Prop := fnExactCombOfRow.holds Try.pinned (OpenSpec.ofChange fnExactCombOfSpec)

/-- ITS FALSE NEIGHBOUR: 'it returns false'. Refute it at one input. -/
def fnExactCombOfWrong : ChangeSpec := { name := "fnExactCombOf", fn := fun _ => fun
  | [d] => { results := [.lit (.bool false)], args := [d] }
  | _ => none }
def FnExactCombOfWrongFalsely : Prop := fnExactCombOfRow.holds Try.pinned (OpenSpec.ofChange fnExactCombOfWrong)

/-- 'laws.FnExactIsBrunnian': WHATEVER THE INPUT: true; the input reads as it did. -/
def fnExactIsBrunnianSpec : ChangeSpec := { name := "fnExactIsBrunnian", fn := fun _ => fun
  | [d] => { results := [.lit (.bool true)], args := [d] }
  | _ => none }
def fnExactIsBrunnianRow : OpenClaim := { program := "ytehcbamfendbaaa", sum := "fb22472ccb1869296edbdf9e784b9eac8d70fa00c93d57cff8a917661ccd73b0", func := "loop.example/g01205/laws.FnExactIsBrunnian", spec := "fnExactIsBrunnian", unfollowed := true, recurses := true, apart := false }
def FnExactIsBrunnianSaid : Prop := fnExactIsBrunnianRow.holds Try.pinned (OpenSpec.ofChange fnExactIsBrunnianSpec)

/-- ITS FALSE NEIGHBOUR: 'it returns false'. Refute it at one input. -/
def fnExactIsBrunnianWrong : ChangeSpec := { name := "fnExactIsBrunnian", fn := fun _ => fun
  | [d] => { results := [.lit (.bool false)], args := [d] }
  | _ => none }
def FnExactIsBrunnianWrongFalsely : Prop := fnExactIsBrunnianRow.holds Try.pinned (OpenSpec.ofChange fnExactIsBrunnianWrong)

/-- 'laws.FnExactExpansionOf': WHATEVER THE INPUT: true; the input reads as it did. -/
def fnExactExpansionOfSpec : ChangeSpec := { name := "fnExactExpansionOf", fn := fun _ => fun
  | [d1, d2] => { results := [.lit (.bool true)], args := [d1, d2] }
  | _ => none }
def fnExactExpansionOfRow : OpenClaim := { program := "ytehcbamfendbaaa", sum := "fb22472ccb1869296edbdf9e784b9eac8d70fa00c93d57cff8a917661ccd73b0", func := "loop.example/g01205/laws.FnExactExpansionOf", spec := "fnExactExpansionOf", unfollowed := true, recurses := true, apart := false }
def FnExactExpansionOfSaid : Prop := fnExactExpansionOfRow.holds Try.pinned (OpenSpec.ofChange fnExactExpansionOfSpec)

/-- ITS FALSE NEIGHBOUR: 'it returns false'. Refute it at one input. -/
def fnExactExpansionOfWrong : ChangeSpec := { name := "fnExactExpansionOf", fn := fun _ => fun
  | [d1, d2] => { results := [.lit (.bool false)], args := [d1, d2] }
  | _ => none }
def FnExactExpansionOfWrongFalsely : Prop := fnExactExpansionOfRow.holds Try.pinned (OpenSpec.ofChange fnExactExpansionOfWrong)

/-- 'laws.FnExactBraidOfComb': WHATEVER THE INPUT: true; the input reads as it did. -/
def fnExactBraidOfCombSpec : ChangeSpec := { name := "fnExactBraidOfComb", fn := fun _ => fun
  | [d1, d2] => { results := [.lit (.bool true)], args := [d1, d2] }
  | _ => none }
def fnExactBraidOfCombRow : OpenClaim := { program := "ytehcbamfendbaaa", sum := "fb22472ccb1869296edbdf9e784b9eac8d70fa00c93d57cff8a917661ccd73b0", func := "loop.example/g01205/laws.FnExactBraidOfComb", spec := "fnExactBraidOfComb", inPlace := ["slices.overlaps[int64]"], unfollowed := true, recurses := true, apart := false }
def FnExactBraidOfCombSaid : Prop := fnExactBraidOfCombRow.holds Try.pinned (OpenSpec.ofChange fnExactBraidOfCombSpec)

/-- ITS FALSE NEIGHBOUR: 'it returns false'. Refute it at one input. -/
def fnExactBraidOfCombWrong : ChangeSpec := { name := "fnExactBraidOfComb", fn := fun _ => fun
  | [d1, d2] => { results := [.lit (.bool false)], args := [d1, d2] }
  | _ => none }
def FnExactBraidOfCombWrongFalsely : Prop := fnExactBraidOfCombRow.holds Try.pinned (OpenSpec.ofChange fnExactBraidOfCombWrong)

/- THE SECOND FORM. 'bulk': how many values and letters a reading holds, each counted each time it is reached (what is shared counts as often as it is met; a slice's spare places count too). A statement '..UptoSaid' is the law's where the arguments, and the package variables that the reading takes, are together of bulk at most 1048576: NARROWER than '..Said'. Prove '..Said' where nothing that the law and all that it calls make is longer than what came in: it says more and counts as full. Else prove '..UptoSaid'. A law counts once. -/
mutual
def uptoBulk {H : Type} : DataW H → Nat
  | .lit (.string bytes) => bytes.length + 1
  | .lit _ => 1
  | .nil => 1
  | .ptr d => uptoBulk d + 1
  | .slice elems spare => uptoBulkAll elems + uptoBulkAll spare + 1
  | .agg parts => uptoBulkAll parts + 1
  | .iface _ d => uptoBulk d + 1
  | .map entries => uptoBulkEntries entries + 1
  | .held _ => 1
def uptoBulkAll {H : Type} : List (DataW H) → Nat
  | [] => 0
  | d :: r => uptoBulk d + uptoBulkAll r
def uptoBulkEntries {H : Type} : List (Lit × DataW H) → Nat
  | [] => 0
  | x :: r => uptoBulkEntry x + uptoBulkEntries r
def uptoBulkEntry {H : Type} : Lit × DataW H → Nat
  | (.string bytes, d) => bytes.length + uptoBulk d + 1
  | (_, d) => uptoBulk d + 1
 end
def uptoSmall : (H : Type) → List (DataW H) → Bool := fun _ ds => decide (uptoBulkAll ds ≤ 1048576)
def OpenSpec.upto (s : _root_.Go.ChangeSpec) : _root_.Go.OpenSpec := { _root_.Go.OpenSpec.ofChange s with cond := some uptoSmall }

/-- 'laws.FnExactComponentsOf', WHERE WHAT IT READS IS OF BULK AT MOST 1048576: true; the input reads as it did. -/
def fnExactComponentsOfUptoRow : OpenClaim := { program := "ytehcbamfendbaaa", sum := "fb22472ccb1869296edbdf9e784b9eac8d70fa00c93d57cff8a917661ccd73b0", func := "loop.example/g01205/laws.FnExactComponentsOf", spec := "fnExactComponentsOf", unfollowed := true, recurses := true, apart := false, narrowed := true }
def FnExactComponentsOfUptoSaid : Prop := fnExactComponentsOfUptoRow.holds Try.pinned (OpenSpec.upto fnExactComponentsOfSpec)

/-- 'laws.FnExactComponentLinkings', WHERE WHAT IT READS IS OF BULK AT MOST 1048576: true; the input reads as it did. -/
def fnExactComponentLinkingsUptoRow : OpenClaim := { program := "ytehcbamfendbaaa", sum := "fb22472ccb1869296edbdf9e784b9eac8d70fa00c93d57cff8a917661ccd73b0", func := "loop.example/g01205/laws.FnExactComponentLinkings", spec := "fnExactComponentLinkings", unfollowed := true, recurses := true, apart := false, narrowed := true }
def FnExactComponentLinkingsUptoSaid : Prop := fnExactComponentLinkingsUptoRow.holds Try.pinned (OpenSpec.upto fnExactComponentLinkingsSpec)

/-- 'laws.FnExactSeifertNumber', WHERE WHAT IT READS IS OF BULK AT MOST 1048576: true; the input reads as it did. -/
def fnExactSeifertNumberUptoRow : OpenClaim := { program := "ytehcbamfendbaaa", sum := "fb22472ccb1869296edbdf9e784b9eac8d70fa00c93d57cff8a917661ccd73b0", func := "loop.example/g01205/laws.FnExactSeifertNumber", spec := "fnExactSeifertNumber", apart := false, narrowed := true }
def FnExactSeifertNumberUptoSaid : Prop := fnExactSeifertNumberUptoRow.holds Try.pinned (OpenSpec.upto fnExactSeifertNumberSpec)

/-- 'laws.FnExactSeifertGenus', WHERE WHAT IT READS IS OF BULK AT MOST 1048576: true; the input reads as it did. -/
def fnExactSeifertGenusUptoRow : OpenClaim := { program := "ytehcbamfendbaaa", sum := "fb22472ccb1869296edbdf9e784b9eac8d70fa00c93d57cff8a917661ccd73b0", func := "loop.example/g01205/laws.FnExactSeifertGenus", spec := "fnExactSeifertGenus", unfollowed := true, recurses := true, apart := false, narrowed := true }
def FnExactSeifertGenusUptoSaid : Prop := fnExactSeifertGenusUptoRow.holds Try.pinned (OpenSpec.upto fnExactSeifertGenusSpec)

/-- 'laws.FnExactConjugateWord', WHERE WHAT IT READS IS OF BULK AT MOST 1048576: true; the input reads as it did. -/
def fnExactConjugateWordUptoRow : OpenClaim := { program := "ytehcbamfendbaaa", sum := "fb22472ccb1869296edbdf9e784b9eac8d70fa00c93d57cff8a917661ccd73b0", func := "loop.example/g01205/laws.FnExactConjugateWord", spec := "fnExactConjugateWord", unfollowed := true, recurses := true, apart := false, narrowed := true }
def FnExactConjugateWordUptoSaid : Prop := fnExactConjugateWordUptoRow.holds Try.pinned (OpenSpec.upto fnExactConjugateWordSpec)

/-- 'laws.FnExactAddStrand', WHERE WHAT IT READS IS OF BULK AT MOST 1048576: true; the input reads as it did. -/
def fnExactAddStrandUptoRow : OpenClaim := { program := "ytehcbamfendbaaa", sum := "fb22472ccb1869296edbdf9e784b9eac8d70fa00c93d57cff8a917661ccd73b0", func := "loop.example/g01205/laws.FnExactAddStrand", spec := "fnExactAddStrand", apart := false, narrowed := true }
def FnExactAddStrandUptoSaid : Prop := fnExactAddStrandUptoRow.holds Try.pinned (OpenSpec.upto fnExactAddStrandSpec)

/-- 'laws.FnExactRemoveStrand', WHERE WHAT IT READS IS OF BULK AT MOST 1048576: true; the input reads as it did. -/
def fnExactRemoveStrandUptoRow : OpenClaim := { program := "ytehcbamfendbaaa", sum := "fb22472ccb1869296edbdf9e784b9eac8d70fa00c93d57cff8a917661ccd73b0", func := "loop.example/g01205/laws.FnExactRemoveStrand", spec := "fnExactRemoveStrand", unfollowed := true, recurses := true, apart := false, narrowed := true }
def FnExactRemoveStrandUptoSaid : Prop := fnExactRemoveStrandUptoRow.holds Try.pinned (OpenSpec.upto fnExactRemoveStrandSpec)

/-- 'laws.FnExactTorusBraid', WHERE WHAT IT READS IS OF BULK AT MOST 1048576: true; the input reads as it did. -/
def fnExactTorusBraidUptoRow : OpenClaim := { program := "ytehcbamfendbaaa", sum := "fb22472ccb1869296edbdf9e784b9eac8d70fa00c93d57cff8a917661ccd73b0", func := "loop.example/g01205/laws.FnExactTorusBraid", spec := "fnExactTorusBraid", apart := false, narrowed := true }
def FnExactTorusBraidUptoSaid : Prop := fnExactTorusBraidUptoRow.holds Try.pinned (OpenSpec.upto fnExactTorusBraidSpec)

/-- 'laws.FnExactPlatComponents', WHERE WHAT IT READS IS OF BULK AT MOST 1048576: true; the input reads as it did. -/
def fnExactPlatComponentsUptoRow : OpenClaim := { program := "ytehcbamfendbaaa", sum := "fb22472ccb1869296edbdf9e784b9eac8d70fa00c93d57cff8a917661ccd73b0", func := "loop.example/g01205/laws.FnExactPlatComponents", spec := "fnExactPlatComponents", unfollowed := true, recurses := true, apart := false, narrowed := true }
def FnExactPlatComponentsUptoSaid : Prop := fnExactPlatComponentsUptoRow.holds Try.pinned (OpenSpec.upto fnExactPlatComponentsSpec)

/-- 'laws.FnExactCombOf', WHERE WHAT IT READS IS OF BULK AT MOST 1048576: true; the input reads as it did. -/
def fnExactCombOfUptoRow : OpenClaim := { program := "ytehcbamfendbaaa", sum := "fb22472ccb1869296edbdf9e784b9eac8d70fa00c93d57cff8a917661ccd73b0", func := "loop.example/g01205/laws.FnExactCombOf", spec := "fnExactCombOf", unfollowed := true, recurses := true, apart := false, narrowed := true }
def FnExactCombOfUptoSaid : Prop := fnExactCombOfUptoRow.holds Try.pinned (OpenSpec.upto fnExactCombOfSpec)

/-- 'laws.FnExactIsBrunnian', WHERE WHAT IT READS IS OF BULK AT MOST 1048576: true; the input reads as it did. -/
def fnExactIsBrunnianUptoRow : OpenClaim := { program := "ytehcbamfendbaaa", sum := "fb22472ccb1869296edbdf9e784b9eac8d70fa00c93d57cff8a917661ccd73b0", func := "loop.example/g01205/laws.FnExactIsBrunnian", spec := "fnExactIsBrunnian", unfollowed := true, recurses := true, apart := false, narrowed := true }
def FnExactIsBrunnianUptoSaid : Prop := fnExactIsBrunnianUptoRow.holds Try.pinned (OpenSpec.upto fnExactIsBrunnianSpec)

/-- 'laws.FnExactExpansionOf', WHERE WHAT IT READS IS OF BULK AT MOST 1048576: true; the input reads as it did. -/
def fnExactExpansionOfUptoRow : OpenClaim := { program := "ytehcbamfendbaaa", sum := "fb22472ccb1869296edbdf9e784b9eac8d70fa00c93d57cff8a917661ccd73b0", func := "loop.example/g01205/laws.FnExactExpansionOf", spec := "fnExactExpansionOf", unfollowed := true, recurses := true, apart := false, narrowed := true }
def FnExactExpansionOfUptoSaid : Prop := fnExactExpansionOfUptoRow.holds Try.pinned (OpenSpec.upto fnExactExpansionOfSpec)

/-- 'laws.FnExactBraidOfComb', WHERE WHAT IT READS IS OF BULK AT MOST 1048576: true; the input reads as it did. -/
def fnExactBraidOfCombUptoRow : OpenClaim := { program := "ytehcbamfendbaaa", sum := "fb22472ccb1869296edbdf9e784b9eac8d70fa00c93d57cff8a917661ccd73b0", func := "loop.example/g01205/laws.FnExactBraidOfComb", spec := "fnExactBraidOfComb", inPlace := ["slices.overlaps[int64]"], unfollowed := true, recurses := true, apart := false, narrowed := true }
def FnExactBraidOfCombUptoSaid : Prop := fnExactBraidOfCombUptoRow.holds Try.pinned (OpenSpec.upto fnExactBraidOfCombSpec)

end Rows
end Go.Proofs.Ytehcbamfendbaaa
