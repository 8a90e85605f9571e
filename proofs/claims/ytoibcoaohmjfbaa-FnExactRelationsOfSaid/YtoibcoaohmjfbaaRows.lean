/-
  No cell of these rows narrows 'for every input' (looked for: loops, veiled, ifaces, maps, wideKeys, modest, calm, conditions, laid).
  DERIVED. THE GIVEN ROWS OF THIS SEAT. 11 by the template 'for every input the law returns true; each argument reads behind the call as it read before'; 0 by the template 'total and deterministic' (their statements: YtoibcoaohmjfbaaTotals.lean).
  GIVEN WITH THE SEED: the statements are not yours to turn. If you find one false, say at which input.
  Laid BY PROGRAM, IN A SANDBOX (cutbox-rows.mjs): the forced cells as the released guide's own fill.sh prints them over the translation c86198437f41b85c… (all of the seat's roots in one cut). By AI agents, Wed Nov 11 2026. No macro, syntax, notation, axiom, sorry.
-/
import Derived.Test.YtoibcoaohmjfbaaChecked
import GoSem.Claim
import GoSem.ClaimJoined
import GoSem.ClaimMapViews
import Derived.JoinedTies
import Derived.KernelRfl
namespace Go.Proofs.Ytoibcoaohmjfbaa
/- THE CELL 'sum', in the pinned program and in every row, IS THE sha256 OF THE DUMP (.gsa) THAT YtoibcoaohmjfbaaProg.lean LOADS. Nothing in Lean hashes anything: it is a label: what it is worth is what the hold of that sum in a sandbox is worth. -/
noncomputable def Try.pinned : Pinned := { name := "ytoibcoaohmjfbaa", sum := "c86198437f41b85c9c5ff8aa5d031523b055fb2973bc85203b62f4ad226952fe", checked := Try.checked }
namespace Rows
def none {H : Type} : Left H := { results := [], args := [] }

/-- 'laws.FnExactIsFreeWord': WHATEVER THE INPUT: true; the input reads as it did. -/
def fnExactIsFreeWordSpec : ChangeSpec := { name := "fnExactIsFreeWord", fn := fun _ => fun
  | [d1, d2] => { results := [.lit (.bool true)], args := [d1, d2] }
  | _ => none }
def fnExactIsFreeWordRow : OpenClaim := { program := "ytoibcoaohmjfbaa", sum := "c86198437f41b85c9c5ff8aa5d031523b055fb2973bc85203b62f4ad226952fe", func := "loop.example/g01205/laws.FnExactIsFreeWord", spec := "fnExactIsFreeWord", apart := false }
def FnExactIsFreeWordSaid : Prop := fnExactIsFreeWordRow.holds Try.pinned (OpenSpec.ofChange fnExactIsFreeWordSpec)

/-- ITS FALSE NEIGHBOUR: 'it returns false'. Refute it at one input. -/
def fnExactIsFreeWordWrong : ChangeSpec := { name := "fnExactIsFreeWord", fn := fun _ => fun
  | [d1, d2] => { results := [.lit (.bool false)], args := [d1, d2] }
  | _ => none }
def FnExactIsFreeWordWrongFalsely : Prop := fnExactIsFreeWordRow.holds Try.pinned (OpenSpec.ofChange fnExactIsFreeWordWrong)

/-- 'laws.FnExactInverseFree': WHATEVER THE INPUT: true; the input reads as it did. -/
def fnExactInverseFreeSpec : ChangeSpec := { name := "fnExactInverseFree", fn := fun _ => fun
  | [d1, d2] => { results := [.lit (.bool true)], args := [d1, d2] }
  | _ => none }
def fnExactInverseFreeRow : OpenClaim := { program := "ytoibcoaohmjfbaa", sum := "c86198437f41b85c9c5ff8aa5d031523b055fb2973bc85203b62f4ad226952fe", func := "loop.example/g01205/laws.FnExactInverseFree", spec := "fnExactInverseFree", unfollowed := true, recurses := true, apart := false }
def FnExactInverseFreeSaid : Prop := fnExactInverseFreeRow.holds Try.pinned (OpenSpec.ofChange fnExactInverseFreeSpec)

/-- ITS FALSE NEIGHBOUR: 'it returns false'. Refute it at one input. -/
def fnExactInverseFreeWrong : ChangeSpec := { name := "fnExactInverseFree", fn := fun _ => fun
  | [d1, d2] => { results := [.lit (.bool false)], args := [d1, d2] }
  | _ => none }
def FnExactInverseFreeWrongFalsely : Prop := fnExactInverseFreeRow.holds Try.pinned (OpenSpec.ofChange fnExactInverseFreeWrong)

/-- 'laws.FnExactMultiplyFree': WHATEVER THE INPUT: true; the input reads as it did. -/
def fnExactMultiplyFreeSpec : ChangeSpec := { name := "fnExactMultiplyFree", fn := fun _ => fun
  | [d1, d2, d3] => { results := [.lit (.bool true)], args := [d1, d2, d3] }
  | _ => none }
def fnExactMultiplyFreeRow : OpenClaim := { program := "ytoibcoaohmjfbaa", sum := "c86198437f41b85c9c5ff8aa5d031523b055fb2973bc85203b62f4ad226952fe", func := "loop.example/g01205/laws.FnExactMultiplyFree", spec := "fnExactMultiplyFree", unfollowed := true, recurses := true, apart := false }
def FnExactMultiplyFreeSaid : Prop := fnExactMultiplyFreeRow.holds Try.pinned (OpenSpec.ofChange fnExactMultiplyFreeSpec)

/-- ITS FALSE NEIGHBOUR: 'it returns false'. Refute it at one input. -/
def fnExactMultiplyFreeWrong : ChangeSpec := { name := "fnExactMultiplyFree", fn := fun _ => fun
  | [d1, d2, d3] => { results := [.lit (.bool false)], args := [d1, d2, d3] }
  | _ => none }
def FnExactMultiplyFreeWrongFalsely : Prop := fnExactMultiplyFreeRow.holds Try.pinned (OpenSpec.ofChange fnExactMultiplyFreeWrong)

/-- 'laws.FnExactActOnFree': WHATEVER THE INPUT: true; the input reads as it did. -/
def fnExactActOnFreeSpec : ChangeSpec := { name := "fnExactActOnFree", fn := fun _ => fun
  | [d1, d2] => { results := [.lit (.bool true)], args := [d1, d2] }
  | _ => none }
def fnExactActOnFreeRow : OpenClaim := { program := "ytoibcoaohmjfbaa", sum := "c86198437f41b85c9c5ff8aa5d031523b055fb2973bc85203b62f4ad226952fe", func := "loop.example/g01205/laws.FnExactActOnFree", spec := "fnExactActOnFree", unfollowed := true, recurses := true, apart := false }
def FnExactActOnFreeSaid : Prop := fnExactActOnFreeRow.holds Try.pinned (OpenSpec.ofChange fnExactActOnFreeSpec)

/-- ITS FALSE NEIGHBOUR: 'it returns false'. Refute it at one input. -/
def fnExactActOnFreeWrong : ChangeSpec := { name := "fnExactActOnFree", fn := fun _ => fun
  | [d1, d2] => { results := [.lit (.bool false)], args := [d1, d2] }
  | _ => none }
def FnExactActOnFreeWrongFalsely : Prop := fnExactActOnFreeRow.holds Try.pinned (OpenSpec.ofChange fnExactActOnFreeWrong)

/-- 'laws.FnExactImagesOf': WHATEVER THE INPUT: true; the input reads as it did. -/
def fnExactImagesOfSpec : ChangeSpec := { name := "fnExactImagesOf", fn := fun _ => fun
  | [d] => { results := [.lit (.bool true)], args := [d] }
  | _ => none }
def fnExactImagesOfRow : OpenClaim := { program := "ytoibcoaohmjfbaa", sum := "c86198437f41b85c9c5ff8aa5d031523b055fb2973bc85203b62f4ad226952fe", func := "loop.example/g01205/laws.FnExactImagesOf", spec := "fnExactImagesOf", unfollowed := true, recurses := true, apart := false }
def FnExactImagesOfSaid : Prop := fnExactImagesOfRow.holds Try.pinned (OpenSpec.ofChange fnExactImagesOfSpec)

/-- ITS FALSE NEIGHBOUR: 'it returns false'. Refute it at one input. -/
def fnExactImagesOfWrong : ChangeSpec := { name := "fnExactImagesOf", fn := fun _ => fun
  | [d] => { results := [.lit (.bool false)], args := [d] }
  | _ => none }
def FnExactImagesOfWrongFalsely : Prop := fnExactImagesOfRow.holds Try.pinned (OpenSpec.ofChange fnExactImagesOfWrong)

/-- 'laws.FnExactSameAction': WHATEVER THE INPUT: true; the input reads as it did. -/
def fnExactSameActionSpec : ChangeSpec := { name := "fnExactSameAction", fn := fun _ => fun
  | [d1, d2] => { results := [.lit (.bool true)], args := [d1, d2] }
  | _ => none }
def fnExactSameActionRow : OpenClaim := { program := "ytoibcoaohmjfbaa", sum := "c86198437f41b85c9c5ff8aa5d031523b055fb2973bc85203b62f4ad226952fe", func := "loop.example/g01205/laws.FnExactSameAction", spec := "fnExactSameAction", unfollowed := true, recurses := true, apart := false }
def FnExactSameActionSaid : Prop := fnExactSameActionRow.holds Try.pinned (OpenSpec.ofChange fnExactSameActionSpec)

/-- ITS FALSE NEIGHBOUR: 'it returns false'. Refute it at one input. -/
def fnExactSameActionWrong : ChangeSpec := { name := "fnExactSameAction", fn := fun _ => fun
  | [d1, d2] => { results := [.lit (.bool false)], args := [d1, d2] }
  | _ => none }
def FnExactSameActionWrongFalsely : Prop := fnExactSameActionRow.holds Try.pinned (OpenSpec.ofChange fnExactSameActionWrong)

/-- 'laws.FnExactRelationsOf': WHATEVER THE INPUT: true; the input reads as it did. -/
def fnExactRelationsOfSpec : ChangeSpec := { name := "fnExactRelationsOf", fn := fun _ => fun
  | [d] => { results := [.lit (.bool true)], args := [d] }
  | _ => none }
def fnExactRelationsOfRow : OpenClaim := { program := "ytoibcoaohmjfbaa", sum := "c86198437f41b85c9c5ff8aa5d031523b055fb2973bc85203b62f4ad226952fe", func := "loop.example/g01205/laws.FnExactRelationsOf", spec := "fnExactRelationsOf", unfollowed := true, recurses := true, apart := false }
def FnExactRelationsOfSaid : Prop := fnExactRelationsOfRow.holds Try.pinned (OpenSpec.ofChange fnExactRelationsOfSpec)

/-- ITS FALSE NEIGHBOUR: 'it returns false'. Refute it at one input. -/
def fnExactRelationsOfWrong : ChangeSpec := { name := "fnExactRelationsOf", fn := fun _ => fun
  | [d] => { results := [.lit (.bool false)], args := [d] }
  | _ => none }
def FnExactRelationsOfWrongFalsely : Prop := fnExactRelationsOfRow.holds Try.pinned (OpenSpec.ofChange fnExactRelationsOfWrong)

/-- 'laws.FnExactColourStep': WHATEVER THE INPUT: true; the input reads as it did. -/
def fnExactColourStepSpec : ChangeSpec := { name := "fnExactColourStep", fn := fun _ => fun
  | [d1, d2, d3] => { results := [.lit (.bool true)], args := [d1, d2, d3] }
  | _ => none }
def fnExactColourStepRow : OpenClaim := { program := "ytoibcoaohmjfbaa", sum := "c86198437f41b85c9c5ff8aa5d031523b055fb2973bc85203b62f4ad226952fe", func := "loop.example/g01205/laws.FnExactColourStep", spec := "fnExactColourStep", unfollowed := true, recurses := true, apart := false }
def FnExactColourStepSaid : Prop := fnExactColourStepRow.holds Try.pinned (OpenSpec.ofChange fnExactColourStepSpec)

/-- ITS FALSE NEIGHBOUR: 'it returns false'. Refute it at one input. -/
def fnExactColourStepWrong : ChangeSpec := { name := "fnExactColourStep", fn := fun _ => fun
  | [d1, d2, d3] => { results := [.lit (.bool false)], args := [d1, d2, d3] }
  | _ => none }
def FnExactColourStepWrongFalsely : Prop := fnExactColourStepRow.holds Try.pinned (OpenSpec.ofChange fnExactColourStepWrong)

/-- 'laws.FnExactIsColouring': WHATEVER THE INPUT: true; the input reads as it did. -/
def fnExactIsColouringSpec : ChangeSpec := { name := "fnExactIsColouring", fn := fun _ => fun
  | [d1, d2, d3] => { results := [.lit (.bool true)], args := [d1, d2, d3] }
  | _ => none }
def fnExactIsColouringRow : OpenClaim := { program := "ytoibcoaohmjfbaa", sum := "c86198437f41b85c9c5ff8aa5d031523b055fb2973bc85203b62f4ad226952fe", func := "loop.example/g01205/laws.FnExactIsColouring", spec := "fnExactIsColouring", unfollowed := true, recurses := true, apart := false }
def FnExactIsColouringSaid : Prop := fnExactIsColouringRow.holds Try.pinned (OpenSpec.ofChange fnExactIsColouringSpec)

/-- ITS FALSE NEIGHBOUR: 'it returns false'. Refute it at one input. -/
def fnExactIsColouringWrong : ChangeSpec := { name := "fnExactIsColouring", fn := fun _ => fun
  | [d1, d2, d3] => { results := [.lit (.bool false)], args := [d1, d2, d3] }
  | _ => none }
def FnExactIsColouringWrongFalsely : Prop := fnExactIsColouringRow.holds Try.pinned (OpenSpec.ofChange fnExactIsColouringWrong)

/-- 'laws.FnExactCountColourings': WHATEVER THE INPUT: true; the input reads as it did. -/
def fnExactCountColouringsSpec : ChangeSpec := { name := "fnExactCountColourings", fn := fun _ => fun
  | [d1, d2] => { results := [.lit (.bool true)], args := [d1, d2] }
  | _ => none }
def fnExactCountColouringsRow : OpenClaim := { program := "ytoibcoaohmjfbaa", sum := "c86198437f41b85c9c5ff8aa5d031523b055fb2973bc85203b62f4ad226952fe", func := "loop.example/g01205/laws.FnExactCountColourings", spec := "fnExactCountColourings", unfollowed := true, recurses := true, apart := false }
def FnExactCountColouringsSaid : Prop := fnExactCountColouringsRow.holds Try.pinned (OpenSpec.ofChange fnExactCountColouringsSpec)

/-- ITS FALSE NEIGHBOUR: 'it returns false'. Refute it at one input. -/
def fnExactCountColouringsWrong : ChangeSpec := { name := "fnExactCountColourings", fn := fun _ => fun
  | [d1, d2] => { results := [.lit (.bool false)], args := [d1, d2] }
  | _ => none }
def FnExactCountColouringsWrongFalsely : Prop := fnExactCountColouringsRow.holds Try.pinned (OpenSpec.ofChange fnExactCountColouringsWrong)

/-- 'laws.FnExactFreeForm': WHATEVER THE INPUT: true; the input reads as it did. -/
def fnExactFreeFormSpec : ChangeSpec := { name := "fnExactFreeForm", fn := fun _ => fun
  | [d] => { results := [.lit (.bool true)], args := [d] }
  | _ => none }
def fnExactFreeFormRow : OpenClaim := { program := "ytoibcoaohmjfbaa", sum := "c86198437f41b85c9c5ff8aa5d031523b055fb2973bc85203b62f4ad226952fe", func := "loop.example/g01205/laws.FnExactFreeForm", spec := "fnExactFreeForm", unfollowed := true, recurses := true, apart := false }
def FnExactFreeFormSaid : Prop := fnExactFreeFormRow.holds Try.pinned (OpenSpec.ofChange fnExactFreeFormSpec)

/-- ITS FALSE NEIGHBOUR: 'it returns false'. Refute it at one input. -/
def fnExactFreeFormWrong : ChangeSpec := { name := "fnExactFreeForm", fn := fun _ => fun
  | [d] => { results := [.lit (.bool false)], args := [d] }
  | _ => none }
def FnExactFreeFormWrongFalsely : Prop := fnExactFreeFormRow.holds Try.pinned (OpenSpec.ofChange fnExactFreeFormWrong)

/- THE SECOND FORM. 'bulk': how many values and letters a reading holds, each counted each time it is reached (what is shared counts as often as it is met; a slice's spare places count too). A statement '..UptoSaid' is the law's where the arguments, and the package variables that the reading takes, are together of bulk at most 1048576: NARROWER than '..Said'. Prove '..Said' where nothing that the law and all that it calls make is longer than what came in: it says more and counts as full. Else prove '..UptoSaid'. A law counts once. -/
mutual
def uptoBulk {H : Type} : DataW H → Nat
  | .lit (.string bytes) => bytes.length + 1
  | .lit _ => 1
  | .nil => 1
  | .ptr d => uptoBulk d + 1
  | .slice elems spare => uptoBulkAll elems + uptoBulkAll spare + 1
  | .agg parts => uptoBulkAll parts + 1
  | .iface _ d => uptoBulk d + 1
  | .map entries => uptoBulkEntries entries + 1
  | .held _ => 1
def uptoBulkAll {H : Type} : List (DataW H) → Nat
  | [] => 0
  | d :: r => uptoBulk d + uptoBulkAll r
def uptoBulkEntries {H : Type} : List (Lit × DataW H) → Nat
  | [] => 0
  | x :: r => uptoBulkEntry x + uptoBulkEntries r
def uptoBulkEntry {H : Type} : Lit × DataW H → Nat
  | (.string bytes, d) => bytes.length + uptoBulk d + 1
  | (_, d) => uptoBulk d + 1
 end
def uptoSmall : (H : Type) → List (DataW H) → Bool := fun _ ds => decide (uptoBulkAll ds ≤ 1048576)
def OpenSpec.upto (s : _root_.Go.ChangeSpec) : _root_.Go.OpenSpec := { _root_.Go.OpenSpec.ofChange s with cond := some uptoSmall }

/-- 'laws.FnExactIsFreeWord', WHERE WHAT IT READS IS OF BULK AT MOST 1048576: true; the input reads as it did. -/
def fnExactIsFreeWordUptoRow : OpenClaim := { program := "ytoibcoaohmjfbaa", sum := "c86198437f41b85c9c5ff8aa5d031523b055fb2973bc85203b62f4ad226952fe", func := "loop.example/g01205/laws.FnExactIsFreeWord", spec := "fnExactIsFreeWord", apart := false, narrowed := true }
def FnExactIsFreeWordUptoSaid : Prop := fnExactIsFreeWordUptoRow.holds Try.pinned (OpenSpec.upto fnExactIsFreeWordSpec)

/-- 'laws.FnExactInverseFree', WHERE WHAT IT READS IS OF BULK AT MOST 1048576: true; the input reads as it did. -/
def fnExactInverseFreeUptoRow : OpenClaim := { program := "ytoibcoaohmjfbaa", sum := "c86198437f41b85c9c5ff8aa5d031523b055fb2973bc85203b62f4ad226952fe", func := "loop.example/g01205/laws.FnExactInverseFree", spec := "fnExactInverseFree", unfollowed := true, recurses := true, apart := false, narrowed := true }
def FnExactInverseFreeUptoSaid : Prop := fnExactInverseFreeUptoRow.holds Try.pinned (OpenSpec.upto fnExactInverseFreeSpec)

/-- 'laws.FnExactMultiplyFree', WHERE WHAT IT READS IS OF BULK AT MOST 1048576: true; the input reads as it did. -/
def fnExactMultiplyFreeUptoRow : OpenClaim := { program := "ytoibcoaohmjfbaa", sum := "c86198437f41b85c9c5ff8aa5d031523b055fb2973bc85203b62f4ad226952fe", func := "loop.example/g01205/laws.FnExactMultiplyFree", spec := "fnExactMultiplyFree", unfollowed := true, recurses := true, apart := false, narrowed := true }
def FnExactMultiplyFreeUptoSaid : Prop := fnExactMultiplyFreeUptoRow.holds Try.pinned (OpenSpec.upto fnExactMultiplyFreeSpec)

/-- 'laws.FnExactActOnFree', WHERE WHAT IT READS IS OF BULK AT MOST 1048576: true; the input reads as it did. -/
def fnExactActOnFreeUptoRow : OpenClaim := { program := "ytoibcoaohmjfbaa", sum := "c86198437f41b85c9c5ff8aa5d031523b055fb2973bc85203b62f4ad226952fe", func := "loop.example/g01205/laws.FnExactActOnFree", spec := "fnExactActOnFree", unfollowed := true, recurses := true, apart := false, narrowed := true }
def FnExactActOnFreeUptoSaid : Prop := fnExactActOnFreeUptoRow.holds Try.pinned (OpenSpec.upto fnExactActOnFreeSpec)

/-- 'laws.FnExactImagesOf', WHERE WHAT IT READS IS OF BULK AT MOST 1048576: true; the input reads as it did. -/
def fnExactImagesOfUptoRow : OpenClaim := { program := "ytoibcoaohmjfbaa", sum := "c86198437f41b85c9c5ff8aa5d031523b055fb2973bc85203b62f4ad226952fe", func := "loop.example/g01205/laws.FnExactImagesOf", spec := "fnExactImagesOf", unfollowed := true, recurses := true, apart := false, narrowed := true }
def FnExactImagesOfUptoSaid : Prop := fnExactImagesOfUptoRow.holds Try.pinned (OpenSpec.upto fnExactImagesOfSpec)

/-- 'laws.FnExactSameAction', WHERE WHAT IT READS IS OF BULK AT MOST 1048576: true; the input reads as it did. -/
def fnExactSameActionUptoRow : OpenClaim := { program := "ytoibcoaohmjfbaa", sum := "c86198437f41b85c9c5ff8aa5d031523b055fb2973bc85203b62f4ad226952fe", func := "loop.example/g01205/laws.FnExactSameAction", spec := "fnExactSameAction", unfollowed := true, recurses := true, apart := false, narrowed := true }
def FnExactSameActionUptoSaid : Prop := fnExactSameActionUptoRow.holds Try.pinned (OpenSpec.upto fnExactSameActionSpec)

/-- 'laws.FnExactRelationsOf', WHERE WHAT IT READS IS OF BULK AT MOST 1048576: true; the input reads as it did. -/
def fnExactRelationsOfUptoRow : OpenClaim := { program := "ytoibcoaohmjfbaa", sum := "c86198437f41b85c9c5ff8aa5d031523b055fb2973bc85203b62f4ad226952fe", func := "loop.example/g01205/laws.FnExactRelationsOf", spec := "fnExactRelationsOf", unfollowed := true, recurses := true, apart := false, narrowed := true }
def FnExactRelationsOfUptoSaid : Prop := fnExactRelationsOfUptoRow.holds Try.pinned (OpenSpec.upto fnExactRelationsOfSpec)

/-- 'laws.FnExactColourStep', WHERE WHAT IT READS IS OF BULK AT MOST 1048576: true; the input reads as it did. -/
def fnExactColourStepUptoRow : OpenClaim := { program := "ytoibcoaohmjfbaa", sum := "c86198437f41b85c9c5ff8aa5d031523b055fb2973bc85203b62f4ad226952fe", func := "loop.example/g01205/laws.FnExactColourStep", spec := "fnExactColourStep", unfollowed := true, recurses := true, apart := false, narrowed := true }
def FnExactColourStepUptoSaid : Prop := fnExactColourStepUptoRow.holds Try.pinned (OpenSpec.upto fnExactColourStepSpec)

/-- 'laws.FnExactIsColouring', WHERE WHAT IT READS IS OF BULK AT MOST 1048576: true; the input reads as it did. -/
def fnExactIsColouringUptoRow : OpenClaim := { program := "ytoibcoaohmjfbaa", sum := "c86198437f41b85c9c5ff8aa5d031523b055fb2973bc85203b62f4ad226952fe", func := "loop.example/g01205/laws.FnExactIsColouring", spec := "fnExactIsColouring", unfollowed := true, recurses := true, apart := false, narrowed := true }
def FnExactIsColouringUptoSaid : Prop := fnExactIsColouringUptoRow.holds Try.pinned (OpenSpec.upto fnExactIsColouringSpec)

/-- 'laws.FnExactCountColourings', WHERE WHAT IT READS IS OF BULK AT MOST 1048576: true; the input reads as it did. -/
def fnExactCountColouringsUptoRow : OpenClaim := { program := "ytoibcoaohmjfbaa", sum := "c86198437f41b85c9c5ff8aa5d031523b055fb2973bc85203b62f4ad226952fe", func := "loop.example/g01205/laws.FnExactCountColourings", spec := "fnExactCountColourings", unfollowed := true, recurses := true, apart := false, narrowed := true }
def FnExactCountColouringsUptoSaid : Prop := fnExactCountColouringsUptoRow.holds Try.pinned (OpenSpec.upto fnExactCountColouringsSpec)

/-- 'laws.FnExactFreeForm', WHERE WHAT IT READS IS OF BULK AT MOST 1048576: true; the input reads as it did. -/
def fnExactFreeFormUptoRow : OpenClaim := { program := "ytoibcoaohmjfbaa", sum := "c86198437f41b85c9c5ff8aa5d031523b055fb2973bc85203b62f4ad226952fe", func := "loop.example/g01205/laws.FnExactFreeForm", spec := "fnExactFreeForm", unfollowed := true, recurses := true, apart := false, narrowed := true }
def FnExactFreeFormUptoSaid : Prop := fnExactFreeFormUptoRow.holds Try.pinned (OpenSpec.upto fnExactFreeFormSpec)

end Rows
end Go.Proofs.Ytoibcoaohmjfbaa
