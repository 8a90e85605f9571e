/-
  No cell of these rows narrows 'for every input' (looked for: loops, veiled, ifaces, maps, wideKeys, modest, calm, conditions, laid).
  DERIVED. THE GIVEN ROWS OF THIS SEAT. 14 by the template 'for every input the law returns true; each argument reads behind the call as it read before'; 0 by the template 'total and deterministic' (their statements: YtmlejlediflaaaaTotals.lean).
  GIVEN WITH THE SEED: the statements are not yours to turn. If you find one false, say at which input.
  Laid BY PROGRAM, IN A SANDBOX (cutbox-rows.mjs): the forced cells as the released guide's own fill.sh prints them over the translation 27a96c0fed305c16… (all of the seat's roots in one cut). By AI agents, Wed Nov 11 2026. No macro, syntax, notation, axiom, sorry.
-/
import Derived.Test.YtmlejlediflaaaaChecked
import GoSem.Claim
import GoSem.ClaimJoined
import GoSem.ClaimMapViews
import Derived.JoinedTies
import Derived.KernelRfl
namespace Go.Proofs.Ytmlejlediflaaaa
/- THE CELL 'sum', in the pinned program and in every row, IS THE sha256 OF THE DUMP (.gsa) THAT YtmlejlediflaaaaProg.lean LOADS. Nothing in Lean hashes anything: it is a label: what it is worth is what the hold of that sum in a sandbox is worth. -/
noncomputable def Try.pinned : Pinned := { name := "ytmlejlediflaaaa", sum := "27a96c0fed305c16382057b2fed81830f2b9c6c46b92fc8de752e32395f5f677", checked := Try.checked }
namespace Rows
def none {H : Type} : Left H := { results := [], args := [] }

/-- 'laws.FnExactGeneratorOf': WHATEVER THE INPUT: true; the input reads as it did. -/
def fnExactGeneratorOfSpec : ChangeSpec := { name := "fnExactGeneratorOf", fn := fun _ => fun
  | [d1, d2, d3] => { results := [.lit (.bool true)], args := [d1, d2, d3] }
  | _ => none }
def fnExactGeneratorOfRow : OpenClaim := { program := "ytmlejlediflaaaa", sum := "27a96c0fed305c16382057b2fed81830f2b9c6c46b92fc8de752e32395f5f677", func := "loop.example/g01205/laws.FnExactGeneratorOf", spec := "fnExactGeneratorOf", inPlace := ["slices.overlaps[int64]"], apart := false }
def FnExactGeneratorOfSaid : Prop := fnExactGeneratorOfRow.holds Try.pinned (OpenSpec.ofChange fnExactGeneratorOfSpec)

/-- ITS FALSE NEIGHBOUR: 'it returns false'. Refute it at one input. -/
def fnExactGeneratorOfWrong : ChangeSpec := { name := "fnExactGeneratorOf", fn := fun _ => fun
  | [d1, d2, d3] => { results := [.lit (.bool false)], args := [d1, d2, d3] }
  | _ => none }
def FnExactGeneratorOfWrongFalsely : Prop := fnExactGeneratorOfRow.holds Try.pinned (OpenSpec.ofChange fnExactGeneratorOfWrong)

/-- 'laws.FnExactIsComb': WHATEVER THE INPUT: true; the input reads as it did. -/
def fnExactIsCombSpec : ChangeSpec := { name := "fnExactIsComb", fn := fun _ => fun
  | [d1, d2] => { results := [.lit (.bool true)], args := [d1, d2] }
  | _ => none }
def fnExactIsCombRow : OpenClaim := { program := "ytmlejlediflaaaa", sum := "27a96c0fed305c16382057b2fed81830f2b9c6c46b92fc8de752e32395f5f677", func := "loop.example/g01205/laws.FnExactIsComb", spec := "fnExactIsComb", apart := false }
def FnExactIsCombSaid : Prop := fnExactIsCombRow.holds Try.pinned (OpenSpec.ofChange fnExactIsCombSpec)

/-- ITS FALSE NEIGHBOUR: 'it returns false'. Refute it at one input. -/
def fnExactIsCombWrong : ChangeSpec := { name := "fnExactIsComb", fn := fun _ => fun
  | [d1, d2] => { results := [.lit (.bool false)], args := [d1, d2] }
  | _ => none }
def FnExactIsCombWrongFalsely : Prop := fnExactIsCombRow.holds Try.pinned (OpenSpec.ofChange fnExactIsCombWrong)

/-- 'laws.FnExactCombOf': WHATEVER THE INPUT: true; the input reads as it did. -/
def fnExactCombOfSpec : ChangeSpec := { name := "fnExactCombOf", fn := fun _ => fun
  | [d] => { results := [.lit (.bool true)], args := [d] }
  | _ => none }
def fnExactCombOfRow : OpenClaim := { program := "ytmlejlediflaaaa", sum := "27a96c0fed305c16382057b2fed81830f2b9c6c46b92fc8de752e32395f5f677", func := "loop.example/g01205/laws.FnExactCombOf", spec := "fnExactCombOf", unfollowed := true, recurses := true, apart := false }
def FnExactCombOfSaid : Prop := fnExactCombOfRow.holds Try.pinned (OpenSpec.ofChange fnExactCombOfSpec)

/-- ITS FALSE NEIGHBOUR: 'it returns false'. Refute it at one input. -/
def fnExactCombOfWrong : ChangeSpec := { name := "fnExactCombOf", fn := fun _ => fun
  | [d] => { results := [.lit (.bool false)], args := [d] }
  | _ => none }
def FnExactCombOfWrongFalsely : Prop := fnExactCombOfRow.holds Try.pinned (OpenSpec.ofChange fnExactCombOfWrong)

/-- 'laws.FnExactBraidOfComb': WHATEVER THE INPUT: true; the input reads as it did. -/
def fnExactBraidOfCombSpec : ChangeSpec := { name := "fnExactBraidOfComb", fn := fun _ => fun
  | [d1, d2] => { results := [.lit (.bool true)], args := [d1, d2] }
  | _ => none }
def fnExactBraidOfCombRow : OpenClaim := { program := "ytmlejlediflaaaa", sum := "27a96c0fed305c16382057b2fed81830f2b9c6c46b92fc8de752e32395f5f677", func := "loop.example/g01205/laws.FnExactBraidOfComb", spec := "fnExactBraidOfComb", inPlace := ["slices.overlaps[int64]"], unfollowed := true, recurses := true, apart := false }
def FnExactBraidOfCombSaid : Prop := fnExactBraidOfCombRow.holds Try.pinned (OpenSpec.ofChange fnExactBraidOfCombSpec)

/-- ITS FALSE NEIGHBOUR: 'it returns false'. Refute it at one input. -/
def fnExactBraidOfCombWrong : ChangeSpec := { name := "fnExactBraidOfComb", fn := fun _ => fun
  | [d1, d2] => { results := [.lit (.bool false)], args := [d1, d2] }
  | _ => none }
def FnExactBraidOfCombWrongFalsely : Prop := fnExactBraidOfCombRow.holds Try.pinned (OpenSpec.ofChange fnExactBraidOfCombWrong)

/-- 'laws.FnExactLinkingsOf': WHATEVER THE INPUT: true; the input reads as it did. -/
def fnExactLinkingsOfSpec : ChangeSpec := { name := "fnExactLinkingsOf", fn := fun _ => fun
  | [d] => { results := [.lit (.bool true)], args := [d] }
  | _ => none }
def fnExactLinkingsOfRow : OpenClaim := { program := "ytmlejlediflaaaa", sum := "27a96c0fed305c16382057b2fed81830f2b9c6c46b92fc8de752e32395f5f677", func := "loop.example/g01205/laws.FnExactLinkingsOf", spec := "fnExactLinkingsOf", apart := false }
def FnExactLinkingsOfSaid : Prop := fnExactLinkingsOfRow.holds Try.pinned (OpenSpec.ofChange fnExactLinkingsOfSpec)

/-- ITS FALSE NEIGHBOUR: 'it returns false'. Refute it at one input. -/
def fnExactLinkingsOfWrong : ChangeSpec := { name := "fnExactLinkingsOf", fn := fun _ => fun
  | [d] => { results := [.lit (.bool false)], args := [d] }
  | _ => none }
def FnExactLinkingsOfWrongFalsely : Prop := fnExactLinkingsOfRow.holds Try.pinned (OpenSpec.ofChange fnExactLinkingsOfWrong)

/-- 'laws.FnExactExpansionOf': WHATEVER THE INPUT: true; the input reads as it did. -/
def fnExactExpansionOfSpec : ChangeSpec := { name := "fnExactExpansionOf", fn := fun _ => fun
  | [d1, d2] => { results := [.lit (.bool true)], args := [d1, d2] }
  | _ => none }
def fnExactExpansionOfRow : OpenClaim := { program := "ytmlejlediflaaaa", sum := "27a96c0fed305c16382057b2fed81830f2b9c6c46b92fc8de752e32395f5f677", func := "loop.example/g01205/laws.FnExactExpansionOf", spec := "fnExactExpansionOf", unfollowed := true, recurses := true, apart := false }
def FnExactExpansionOfSaid : Prop := fnExactExpansionOfRow.holds Try.pinned (OpenSpec.ofChange fnExactExpansionOfSpec)

/-- ITS FALSE NEIGHBOUR: 'it returns false'. Refute it at one input. -/
def fnExactExpansionOfWrong : ChangeSpec := { name := "fnExactExpansionOf", fn := fun _ => fun
  | [d1, d2] => { results := [.lit (.bool false)], args := [d1, d2] }
  | _ => none }
def FnExactExpansionOfWrongFalsely : Prop := fnExactExpansionOfRow.holds Try.pinned (OpenSpec.ofChange fnExactExpansionOfWrong)

/-- 'laws.FnExactForgetStrand': WHATEVER THE INPUT: true; the input reads as it did. -/
def fnExactForgetStrandSpec : ChangeSpec := { name := "fnExactForgetStrand", fn := fun _ => fun
  | [d1, d2] => { results := [.lit (.bool true)], args := [d1, d2] }
  | _ => none }
def fnExactForgetStrandRow : OpenClaim := { program := "ytmlejlediflaaaa", sum := "27a96c0fed305c16382057b2fed81830f2b9c6c46b92fc8de752e32395f5f677", func := "loop.example/g01205/laws.FnExactForgetStrand", spec := "fnExactForgetStrand", unfollowed := true, recurses := true, apart := false }
def FnExactForgetStrandSaid : Prop := fnExactForgetStrandRow.holds Try.pinned (OpenSpec.ofChange fnExactForgetStrandSpec)

/-- ITS FALSE NEIGHBOUR: 'it returns false'. Refute it at one input. -/
def fnExactForgetStrandWrong : ChangeSpec := { name := "fnExactForgetStrand", fn := fun _ => fun
  | [d1, d2] => { results := [.lit (.bool false)], args := [d1, d2] }
  | _ => none }
def FnExactForgetStrandWrongFalsely : Prop := fnExactForgetStrandRow.holds Try.pinned (OpenSpec.ofChange fnExactForgetStrandWrong)

/-- 'laws.FnExactDoubleStrand': WHATEVER THE INPUT: true; the input reads as it did. -/
def fnExactDoubleStrandSpec : ChangeSpec := { name := "fnExactDoubleStrand", fn := fun _ => fun
  | [d1, d2] => { results := [.lit (.bool true)], args := [d1, d2] }
  | _ => none }
def fnExactDoubleStrandRow : OpenClaim := { program := "ytmlejlediflaaaa", sum := "27a96c0fed305c16382057b2fed81830f2b9c6c46b92fc8de752e32395f5f677", func := "loop.example/g01205/laws.FnExactDoubleStrand", spec := "fnExactDoubleStrand", unfollowed := true, recurses := true, apart := false }
def FnExactDoubleStrandSaid : Prop := fnExactDoubleStrandRow.holds Try.pinned (OpenSpec.ofChange fnExactDoubleStrandSpec)

/-- ITS FALSE NEIGHBOUR: 'it returns false'. Refute it at one input. -/
def fnExactDoubleStrandWrong : ChangeSpec := { name := "fnExactDoubleStrand", fn := fun _ => fun
  | [d1, d2] => { results := [.lit (.bool false)], args := [d1, d2] }
  | _ => none }
def FnExactDoubleStrandWrongFalsely : Prop := fnExactDoubleStrandRow.holds Try.pinned (OpenSpec.ofChange fnExactDoubleStrandWrong)

/-- 'laws.FnExactIsBrunnian': WHATEVER THE INPUT: true; the input reads as it did. -/
def fnExactIsBrunnianSpec : ChangeSpec := { name := "fnExactIsBrunnian", fn := fun _ => fun
  | [d] => { results := [.lit (.bool true)], args := [d] }
  | _ => none }
def fnExactIsBrunnianRow : OpenClaim := { program := "ytmlejlediflaaaa", sum := "27a96c0fed305c16382057b2fed81830f2b9c6c46b92fc8de752e32395f5f677", func := "loop.example/g01205/laws.FnExactIsBrunnian", spec := "fnExactIsBrunnian", unfollowed := true, recurses := true, apart := false }
def FnExactIsBrunnianSaid : Prop := fnExactIsBrunnianRow.holds Try.pinned (OpenSpec.ofChange fnExactIsBrunnianSpec)

/-- ITS FALSE NEIGHBOUR: 'it returns false'. Refute it at one input. -/
def fnExactIsBrunnianWrong : ChangeSpec := { name := "fnExactIsBrunnian", fn := fun _ => fun
  | [d] => { results := [.lit (.bool false)], args := [d] }
  | _ => none }
def FnExactIsBrunnianWrongFalsely : Prop := fnExactIsBrunnianRow.holds Try.pinned (OpenSpec.ofChange fnExactIsBrunnianWrong)

/-- 'laws.FnExactMultiplyFree': WHATEVER THE INPUT: true; the input reads as it did. -/
def fnExactMultiplyFreeSpec : ChangeSpec := { name := "fnExactMultiplyFree", fn := fun _ => fun
  | [d1, d2, d3] => { results := [.lit (.bool true)], args := [d1, d2, d3] }
  | _ => none }
def fnExactMultiplyFreeRow : OpenClaim := { program := "ytmlejlediflaaaa", sum := "27a96c0fed305c16382057b2fed81830f2b9c6c46b92fc8de752e32395f5f677", func := "loop.example/g01205/laws.FnExactMultiplyFree", spec := "fnExactMultiplyFree", unfollowed := true, recurses := true, apart := false }
def FnExactMultiplyFreeSaid : Prop := fnExactMultiplyFreeRow.holds Try.pinned (OpenSpec.ofChange fnExactMultiplyFreeSpec)

/-- ITS FALSE NEIGHBOUR: 'it returns false'. Refute it at one input. -/
def fnExactMultiplyFreeWrong : ChangeSpec := { name := "fnExactMultiplyFree", fn := fun _ => fun
  | [d1, d2, d3] => { results := [.lit (.bool false)], args := [d1, d2, d3] }
  | _ => none }
def FnExactMultiplyFreeWrongFalsely : Prop := fnExactMultiplyFreeRow.holds Try.pinned (OpenSpec.ofChange fnExactMultiplyFreeWrong)

/-- 'laws.FnExactActOnFree': WHATEVER THE INPUT: true; the input reads as it did. -/
def fnExactActOnFreeSpec : ChangeSpec := { name := "fnExactActOnFree", fn := fun _ => fun
  | [d1, d2] => { results := [.lit (.bool true)], args := [d1, d2] }
  | _ => none }
def fnExactActOnFreeRow : OpenClaim := { program := "ytmlejlediflaaaa", sum := "27a96c0fed305c16382057b2fed81830f2b9c6c46b92fc8de752e32395f5f677", func := "loop.example/g01205/laws.FnExactActOnFree", spec := "fnExactActOnFree", unfollowed := true, recurses := true, apart := false }
def FnExactActOnFreeSaid : Prop := fnExactActOnFreeRow.holds Try.pinned (OpenSpec.ofChange fnExactActOnFreeSpec)

/-- ITS FALSE NEIGHBOUR: 'it returns false'. Refute it at one input. -/
def fnExactActOnFreeWrong : ChangeSpec := { name := "fnExactActOnFree", fn := fun _ => fun
  | [d1, d2] => { results := [.lit (.bool false)], args := [d1, d2] }
  | _ => none }
def FnExactActOnFreeWrongFalsely : Prop := fnExactActOnFreeRow.holds Try.pinned (OpenSpec.ofChange fnExactActOnFreeWrong)

/-- 'laws.FnExactImagesOf': WHATEVER THE INPUT: true; the input reads as it did. -/
def fnExactImagesOfSpec : ChangeSpec := { name := "fnExactImagesOf", fn := fun _ => fun
  | [d] => { results := [.lit (.bool true)], args := [d] }
  | _ => none }
def fnExactImagesOfRow : OpenClaim := { program := "ytmlejlediflaaaa", sum := "27a96c0fed305c16382057b2fed81830f2b9c6c46b92fc8de752e32395f5f677", func := "loop.example/g01205/laws.FnExactImagesOf", spec := "fnExactImagesOf", unfollowed := true, recurses := true, apart := false }
def FnExactImagesOfSaid : Prop := fnExactImagesOfRow.holds Try.pinned (OpenSpec.ofChange fnExactImagesOfSpec)

/-- ITS FALSE NEIGHBOUR: 'it returns false'. Refute it at one input. -/
def fnExactImagesOfWrong : ChangeSpec := { name := "fnExactImagesOf", fn := fun _ => fun
  | [d] => { results := [.lit (.bool false)], args := [d] }
  | _ => none }
def FnExactImagesOfWrongFalsely : Prop := fnExactImagesOfRow.holds Try.pinned (OpenSpec.ofChange fnExactImagesOfWrong)

/-- 'laws.FnExactSameAction': WHATEVER THE INPUT: true; the input reads as it did. -/
def fnExactSameActionSpec : ChangeSpec := { name := "fnExactSameAction", fn := fun _ => fun
  | [d1, d2] => { results := [.lit (.bool true)], args := [d1, d2] }
  | _ => none }
def fnExactSameActionRow : OpenClaim := { program := "ytmlejlediflaaaa", sum := "27a96c0fed305c16382057b2fed81830f2b9c6c46b92fc8de752e32395f5f677", func := "loop.example/g01205/laws.FnExactSameAction", spec := "fnExactSameAction", unfollowed := true, recurses := true, apart := false }
def FnExactSameActionSaid : Prop := fnExactSameActionRow.holds Try.pinned (OpenSpec.ofChange fnExactSameActionSpec)

/-- ITS FALSE NEIGHBOUR: 'it returns false'. Refute it at one input. -/
def fnExactSameActionWrong : ChangeSpec := { name := "fnExactSameAction", fn := fun _ => fun
  | [d1, d2] => { results := [.lit (.bool false)], args := [d1, d2] }
  | _ => none }
def FnExactSameActionWrongFalsely : Prop := fnExactSameActionRow.holds Try.pinned (OpenSpec.ofChange fnExactSameActionWrong)

/-- 'laws.FnExactRelationsOf': WHATEVER THE INPUT: true; the input reads as it did. -/
def fnExactRelationsOfSpec : ChangeSpec := { name := "fnExactRelationsOf", fn := fun _ => fun
  | [d] => { results := [.lit (.bool true)], args := [d] }
  | _ => none }
def fnExactRelationsOfRow : OpenClaim := { program := "ytmlejlediflaaaa", sum := "27a96c0fed305c16382057b2fed81830f2b9c6c46b92fc8de752e32395f5f677", func := "loop.example/g01205/laws.FnExactRelationsOf", spec := "fnExactRelationsOf", unfollowed := true, recurses := true, apart := false }
def FnExactRelationsOfSaid : Prop := fnExactRelationsOfRow.holds Try.pinned (OpenSpec.ofChange fnExactRelationsOfSpec)

/-- ITS FALSE NEIGHBOUR: 'it returns false'. Refute it at one input. -/
def fnExactRelationsOfWrong : ChangeSpec := { name := "fnExactRelationsOf", fn := fun _ => fun
  | [d] => { results := [.lit (.bool false)], args := [d] }
  | _ => none }
def FnExactRelationsOfWrongFalsely : Prop := fnExactRelationsOfRow.holds Try.pinned (OpenSpec.ofChange fnExactRelationsOfWrong)

/- THE SECOND FORM. 'bulk': how many values and letters a reading holds, each counted each time it is reached (what is shared counts as often as it is met; a slice's spare places count too). A statement '..UptoSaid' is the law's where the arguments, and the package variables that the reading takes, are together of bulk at most 1048576: NARROWER than '..Said'. Prove '..Said' where nothing that the law and all that it calls make is longer than what came in: it says more and counts as full. Else prove '..UptoSaid'. A law counts once. -/
mutual
def uptoBulk {H : Type} : DataW H → Nat
  | .lit (.string bytes) => bytes.length + 1
  | .lit _ => 1
  | .nil => 1
  | .ptr d => uptoBulk d + 1
  | .slice elems spare => uptoBulkAll elems + uptoBulkAll spare + 1
  | .agg parts => uptoBulkAll parts + 1
  | .iface _ d => uptoBulk d + 1
  | .map entries => uptoBulkEntries entries + 1
  | .held _ => 1
def uptoBulkAll {H : Type} : List (DataW H) → Nat
  | [] => 0
  | d :: r => uptoBulk d + uptoBulkAll r
def uptoBulkEntries {H : Type} : List (Lit × DataW H) → Nat
  | [] => 0
  | x :: r => uptoBulkEntry x + uptoBulkEntries r
def uptoBulkEntry {H : Type} : Lit × DataW H → Nat
  | (.string bytes, d) => bytes.length + uptoBulk d + 1
  | (_, d) => uptoBulk d + 1
 end
def uptoSmall : (H : Type) → List (DataW H) → Bool := fun _ ds => decide (uptoBulkAll ds ≤ 1048576)
def OpenSpec.upto (s : _root_.Go.ChangeSpec) : _root_.Go.OpenSpec := { _root_.Go.OpenSpec.ofChange s with cond := some uptoSmall }

/-- 'laws.FnExactGeneratorOf', WHERE WHAT IT READS IS OF BULK AT MOST 1048576: true; the input reads as it did. -/
def fnExactGeneratorOfUptoRow : OpenClaim := { program := "ytmlejlediflaaaa", sum := "27a96c0fed305c16382057b2fed81830f2b9c6c46b92fc8de752e32395f5f677", func := "loop.example/g01205/laws.FnExactGeneratorOf", spec := "fnExactGeneratorOf", inPlace := ["slices.overlaps[int64]"], apart := false, narrowed := true }
def FnExactGeneratorOfUptoSaid : Prop := fnExactGeneratorOfUptoRow.holds Try.pinned (OpenSpec.upto fnExactGeneratorOfSpec)

/-- 'laws.FnExactIsComb', WHERE WHAT IT READS IS OF BULK AT MOST 1048576: true; the input reads as it did. -/
def fnExactIsCombUptoRow : OpenClaim := { program := "ytmlejlediflaaaa", sum := "27a96c0fed305c16382057b2fed81830f2b9c6c46b92fc8de752e32395f5f677", func := "loop.example/g01205/laws.FnExactIsComb", spec := "fnExactIsComb", apart := false, narrowed := true }
def FnExactIsCombUptoSaid : Prop := fnExactIsCombUptoRow.holds Try.pinned (OpenSpec.upto fnExactIsCombSpec)

/-- 'laws.FnExactCombOf', WHERE WHAT IT READS IS OF BULK AT MOST 1048576: true; the input reads as it did. -/
def fnExactCombOfUptoRow : OpenClaim := { program := "ytmlejlediflaaaa", sum := "27a96c0fed305c16382057b2fed81830f2b9c6c46b92fc8de752e32395f5f677", func := "loop.example/g01205/laws.FnExactCombOf", spec := "fnExactCombOf", unfollowed := true, recurses := true, apart := false, narrowed := true }
def FnExactCombOfUptoSaid : Prop := fnExactCombOfUptoRow.holds Try.pinned (OpenSpec.upto fnExactCombOfSpec)

/-- 'laws.FnExactBraidOfComb', WHERE WHAT IT READS IS OF BULK AT MOST 1048576: true; the input reads as it did. -/
def fnExactBraidOfCombUptoRow : OpenClaim := { program := "ytmlejlediflaaaa", sum := "27a96c0fed305c16382057b2fed81830f2b9c6c46b92fc8de752e32395f5f677", func := "loop.example/g01205/laws.FnExactBraidOfComb", spec := "fnExactBraidOfComb", inPlace := ["slices.overlaps[int64]"], unfollowed := true, recurses := true, apart := false, narrowed := true }
def FnExactBraidOfCombUptoSaid : Prop := fnExactBraidOfCombUptoRow.holds Try.pinned (OpenSpec.upto fnExactBraidOfCombSpec)

/-- 'laws.FnExactLinkingsOf', WHERE WHAT IT READS IS OF BULK AT MOST 1048576: true; the input reads as it did. -/
def fnExactLinkingsOfUptoRow : OpenClaim := { program := "ytmlejlediflaaaa", sum := "27a96c0fed305c16382057b2fed81830f2b9c6c46b92fc8de752e32395f5f677", func := "loop.example/g01205/laws.FnExactLinkingsOf", spec := "fnExactLinkingsOf", apart := false, narrowed := true }
def FnExactLinkingsOfUptoSaid : Prop := fnExactLinkingsOfUptoRow.holds Try.pinned (OpenSpec.upto fnExactLinkingsOfSpec)

/-- 'laws.FnExactExpansionOf', WHERE WHAT IT READS IS OF BULK AT MOST 1048576: true; the input reads as it did. -/
def fnExactExpansionOfUptoRow : OpenClaim := { program := "ytmlejlediflaaaa", sum := "27a96c0fed305c16382057b2fed81830f2b9c6c46b92fc8de752e32395f5f677", func := "loop.example/g01205/laws.FnExactExpansionOf", spec := "fnExactExpansionOf", unfollowed := true, recurses := true, apart := false, narrowed := true }
def FnExactExpansionOfUptoSaid : Prop := fnExactExpansionOfUptoRow.holds Try.pinned (OpenSpec.upto fnExactExpansionOfSpec)

/-- 'laws.FnExactForgetStrand', WHERE WHAT IT READS IS OF BULK AT MOST 1048576: true; the input reads as it did. -/
def fnExactForgetStrandUptoRow : OpenClaim := { program := "ytmlejlediflaaaa", sum := "27a96c0fed305c16382057b2fed81830f2b9c6c46b92fc8de752e32395f5f677", func := "loop.example/g01205/laws.FnExactForgetStrand", spec := "fnExactForgetStrand", unfollowed := true, recurses := true, apart := false, narrowed := true }
def FnExactForgetStrandUptoSaid : Prop := fnExactForgetStrandUptoRow.holds Try.pinned (OpenSpec.upto fnExactForgetStrandSpec)

/-- 'laws.FnExactDoubleStrand', WHERE WHAT IT READS IS OF BULK AT MOST 1048576: true; the input reads as it did. -/
def fnExactDoubleStrandUptoRow : OpenClaim := { program := "ytmlejlediflaaaa", sum := "27a96c0fed305c16382057b2fed81830f2b9c6c46b92fc8de752e32395f5f677", func := "loop.example/g01205/laws.FnExactDoubleStrand", spec := "fnExactDoubleStrand", unfollowed := true, recurses := true, apart := false, narrowed := true }
def FnExactDoubleStrandUptoSaid : Prop := fnExactDoubleStrandUptoRow.holds Try.pinned (OpenSpec.upto fnExactDoubleStrandSpec)

/-- 'laws.FnExactIsBrunnian', WHERE WHAT IT READS IS OF BULK AT MOST 1048576: true; the input reads as it did. -/
def fnExactIsBrunnianUptoRow : OpenClaim := { program := "ytmlejlediflaaaa", sum := "27a96c0fed305c16382057b2fed81830f2b9c6c46b92fc8de752e32395f5f677", func := "loop.example/g01205/laws.FnExactIsBrunnian", spec := "fnExactIsBrunnian", unfollowed := true, recurses := true, apart := false, narrowed := true }
def FnExactIsBrunnianUptoSaid : Prop := fnExactIsBrunnianUptoRow.holds Try.pinned (OpenSpec.upto fnExactIsBrunnianSpec)

/-- 'laws.FnExactMultiplyFree', WHERE WHAT IT READS IS OF BULK AT MOST 1048576: true; the input reads as it did. -/
def fnExactMultiplyFreeUptoRow : OpenClaim := { program := "ytmlejlediflaaaa", sum := "27a96c0fed305c16382057b2fed81830f2b9c6c46b92fc8de752e32395f5f677", func := "loop.example/g01205/laws.FnExactMultiplyFree", spec := "fnExactMultiplyFree", unfollowed := true, recurses := true, apart := false, narrowed := true }
def FnExactMultiplyFreeUptoSaid : Prop := fnExactMultiplyFreeUptoRow.holds Try.pinned (OpenSpec.upto fnExactMultiplyFreeSpec)

/-- 'laws.FnExactActOnFree', WHERE WHAT IT READS IS OF BULK AT MOST 1048576: true; the input reads as it did. -/
def fnExactActOnFreeUptoRow : OpenClaim := { program := "ytmlejlediflaaaa", sum := "27a96c0fed305c16382057b2fed81830f2b9c6c46b92fc8de752e32395f5f677", func := "loop.example/g01205/laws.FnExactActOnFree", spec := "fnExactActOnFree", unfollowed := true, recurses := true, apart := false, narrowed := true }
def FnExactActOnFreeUptoSaid : Prop := fnExactActOnFreeUptoRow.holds Try.pinned (OpenSpec.upto fnExactActOnFreeSpec)

/-- 'laws.FnExactImagesOf', WHERE WHAT IT READS IS OF BULK AT MOST 1048576: true; the input reads as it did. -/
def fnExactImagesOfUptoRow : OpenClaim := { program := "ytmlejlediflaaaa", sum := "27a96c0fed305c16382057b2fed81830f2b9c6c46b92fc8de752e32395f5f677", func := "loop.example/g01205/laws.FnExactImagesOf", spec := "fnExactImagesOf", unfollowed := true, recurses := true, apart := false, narrowed := true }
def FnExactImagesOfUptoSaid : Prop := fnExactImagesOfUptoRow.holds Try.pinned (OpenSpec.upto fnExactImagesOfSpec)

/-- 'laws.FnExactSameAction', WHERE WHAT IT READS IS OF BULK AT MOST 1048576: true; the input reads as it did. -/
def fnExactSameActionUptoRow : OpenClaim := { program := "ytmlejlediflaaaa", sum := "27a96c0fed305c16382057b2fed81830f2b9c6c46b92fc8de752e32395f5f677", func := "loop.example/g01205/laws.FnExactSameAction", spec := "fnExactSameAction", unfollowed := true, recurses := true, apart := false, narrowed := true }
def FnExactSameActionUptoSaid : Prop := fnExactSameActionUptoRow.holds Try.pinned (OpenSpec.upto fnExactSameActionSpec)

/-- 'laws.FnExactRelationsOf', WHERE WHAT IT READS IS OF BULK AT MOST 1048576: true; the input reads as it did. -/
def fnExactRelationsOfUptoRow : OpenClaim := { program := "ytmlejlediflaaaa", sum := "27a96c0fed305c16382057b2fed81830f2b9c6c46b92fc8de752e32395f5f677", func := "loop.example/g01205/laws.FnExactRelationsOf", spec := "fnExactRelationsOf", unfollowed := true, recurses := true, apart := false, narrowed := true }
def FnExactRelationsOfUptoSaid : Prop := fnExactRelationsOfUptoRow.holds Try.pinned (OpenSpec.upto fnExactRelationsOfSpec)

end Rows
end Go.Proofs.Ytmlejlediflaaaa
