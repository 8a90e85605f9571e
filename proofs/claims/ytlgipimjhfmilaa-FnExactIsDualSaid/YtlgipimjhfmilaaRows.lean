/-
  No cell of these rows narrows 'for every input' (looked for: loops, veiled, ifaces, maps, wideKeys, modest, calm, conditions, laid).
  DERIVED. THE GIVEN ROWS OF THIS SEAT. 5 by the template 'for every input the law returns true; each argument reads behind the call as it read before'; 0 by the template 'total and deterministic' (their statements: YtlgipimjhfmilaaTotals.lean).
  GIVEN WITH THE SEED: the statements are not yours to turn. If you find one false, say at which input.
  Laid BY PROGRAM, IN A SANDBOX (cutbox-rows.mjs): the forced cells as the released guide's own fill.sh prints them over the translation e1feff62b54ccf37… (all of the seat's roots in one cut). By AI agents, Wed Nov 11 2026. No macro, syntax, notation, axiom, sorry.
-/
import Derived.Test.YtlgipimjhfmilaaChecked
import GoSem.Claim
import GoSem.ClaimJoined
import GoSem.ClaimMapViews
import Derived.JoinedTies
import Derived.KernelRfl
namespace Go.Proofs.Ytlgipimjhfmilaa
/- THE CELL 'sum', in the pinned program and in every row, IS THE sha256 OF THE DUMP (.gsa) THAT YtlgipimjhfmilaaProg.lean LOADS. Nothing in Lean hashes anything: it is a label: what it is worth is what the hold of that sum in a sandbox is worth. -/
noncomputable def Try.pinned : Pinned := { name := "ytlgipimjhfmilaa", sum := "e1feff62b54ccf374fd23bc0b6ad2cfcc8c11a2230723f05055fdb148f525766", checked := Try.checked }
namespace Rows
def none {H : Type} : Left H := { results := [], args := [] }

/-- 'laws.FnExactAllParts': WHATEVER THE INPUT: true; the input reads as it did. -/
def fnExactAllPartsSpec : ChangeSpec := { name := "fnExactAllParts", fn := fun _ => fun
  | [d] => { results := [.lit (.bool true)], args := [d] }
  | _ => none }
def fnExactAllPartsRow : OpenClaim := { program := "ytlgipimjhfmilaa", sum := "e1feff62b54ccf374fd23bc0b6ad2cfcc8c11a2230723f05055fdb148f525766", func := "loop.example/g01205/laws.FnExactAllParts", spec := "fnExactAllParts", inPlace := ["internal/bytealg.Compare"], unfollowed := true, recurses := true, plainKeys := false, apart := false }
def FnExactAllPartsSaid : Prop := fnExactAllPartsRow.holds Try.pinned (OpenSpec.ofChange fnExactAllPartsSpec)

/-- ITS FALSE NEIGHBOUR: 'it returns false'. Refute it at one input. -/
def fnExactAllPartsWrong : ChangeSpec := { name := "fnExactAllParts", fn := fun _ => fun
  | [d] => { results := [.lit (.bool false)], args := [d] }
  | _ => none }
def FnExactAllPartsWrongFalsely : Prop := fnExactAllPartsRow.holds Try.pinned (OpenSpec.ofChange fnExactAllPartsWrong)

/-- 'laws.FnExactIsDual': WHATEVER THE INPUT: true; the input reads as it did. -/
def fnExactIsDualSpec : ChangeSpec := { name := "fnExactIsDual", fn := fun _ => fun
  | [d] => { results := [.lit (.bool true)], args := [d] }
  | _ => none }
def fnExactIsDualRow : OpenClaim := { program := "ytlgipimjhfmilaa", sum := "e1feff62b54ccf374fd23bc0b6ad2cfcc8c11a2230723f05055fdb148f525766", func := "loop.example/g01205/laws.FnExactIsDual", spec := "fnExactIsDual", unfollowed := true, recurses := true, plainKeys := false, apart := false }
def FnExactIsDualSaid : Prop := fnExactIsDualRow.holds Try.pinned (OpenSpec.ofChange fnExactIsDualSpec)

/-- ITS FALSE NEIGHBOUR: 'it returns false'. Refute it at one input. -/
def fnExactIsDualWrong : ChangeSpec := { name := "fnExactIsDual", fn := fun _ => fun
  | [d] => { results := [.lit (.bool false)], args := [d] }
  | _ => none }
def FnExactIsDualWrongFalsely : Prop := fnExactIsDualRow.holds Try.pinned (OpenSpec.ofChange fnExactIsDualWrong)

/-- 'laws.FnExactDualForm': WHATEVER THE INPUT: true; the input reads as it did. -/
def fnExactDualFormSpec : ChangeSpec := { name := "fnExactDualForm", fn := fun _ => fun
  | [d] => { results := [.lit (.bool true)], args := [d] }
  | _ => none }
def fnExactDualFormRow : OpenClaim := { program := "ytlgipimjhfmilaa", sum := "e1feff62b54ccf374fd23bc0b6ad2cfcc8c11a2230723f05055fdb148f525766", func := "loop.example/g01205/laws.FnExactDualForm", spec := "fnExactDualForm", unfollowed := true, recurses := true, plainKeys := false, apart := false }
def FnExactDualFormSaid : Prop := fnExactDualFormRow.holds Try.pinned (OpenSpec.ofChange fnExactDualFormSpec)

/-- ITS FALSE NEIGHBOUR: 'it returns false'. Refute it at one input. -/
def fnExactDualFormWrong : ChangeSpec := { name := "fnExactDualForm", fn := fun _ => fun
  | [d] => { results := [.lit (.bool false)], args := [d] }
  | _ => none }
def FnExactDualFormWrongFalsely : Prop := fnExactDualFormRow.holds Try.pinned (OpenSpec.ofChange fnExactDualFormWrong)

/-- 'laws.FnExactWordOfDual': WHATEVER THE INPUT: true; the input reads as it did. -/
def fnExactWordOfDualSpec : ChangeSpec := { name := "fnExactWordOfDual", fn := fun _ => fun
  | [d] => { results := [.lit (.bool true)], args := [d] }
  | _ => none }
def fnExactWordOfDualRow : OpenClaim := { program := "ytlgipimjhfmilaa", sum := "e1feff62b54ccf374fd23bc0b6ad2cfcc8c11a2230723f05055fdb148f525766", func := "loop.example/g01205/laws.FnExactWordOfDual", spec := "fnExactWordOfDual", unfollowed := true, recurses := true, plainKeys := false, apart := false }
def FnExactWordOfDualSaid : Prop := fnExactWordOfDualRow.holds Try.pinned (OpenSpec.ofChange fnExactWordOfDualSpec)

/-- ITS FALSE NEIGHBOUR: 'it returns false'. Refute it at one input. -/
def fnExactWordOfDualWrong : ChangeSpec := { name := "fnExactWordOfDual", fn := fun _ => fun
  | [d] => { results := [.lit (.bool false)], args := [d] }
  | _ => none }
def FnExactWordOfDualWrongFalsely : Prop := fnExactWordOfDualRow.holds Try.pinned (OpenSpec.ofChange fnExactWordOfDualWrong)

/-- 'laws.FnExactEqualByBands': WHATEVER THE INPUT: true; the input reads as it did. -/
def fnExactEqualByBandsSpec : ChangeSpec := { name := "fnExactEqualByBands", fn := fun _ => fun
  | [d1, d2] => { results := [.lit (.bool true)], args := [d1, d2] }
  | _ => none }
def fnExactEqualByBandsRow : OpenClaim := { program := "ytlgipimjhfmilaa", sum := "e1feff62b54ccf374fd23bc0b6ad2cfcc8c11a2230723f05055fdb148f525766", func := "loop.example/g01205/laws.FnExactEqualByBands", spec := "fnExactEqualByBands", unfollowed := true, recurses := true, plainKeys := false, apart := false }
def FnExactEqualByBandsSaid : Prop := fnExactEqualByBandsRow.holds Try.pinned (OpenSpec.ofChange fnExactEqualByBandsSpec)

/-- ITS FALSE NEIGHBOUR: 'it returns false'. Refute it at one input. -/
def fnExactEqualByBandsWrong : ChangeSpec := { name := "fnExactEqualByBands", fn := fun _ => fun
  | [d1, d2] => { results := [.lit (.bool false)], args := [d1, d2] }
  | _ => none }
def FnExactEqualByBandsWrongFalsely : Prop := fnExactEqualByBandsRow.holds Try.pinned (OpenSpec.ofChange fnExactEqualByBandsWrong)

/- THE SECOND FORM. 'bulk': how many values and letters a reading holds, each counted each time it is reached (what is shared counts as often as it is met; a slice's spare places count too). A statement '..UptoSaid' is the law's where the arguments, and the package variables that the reading takes, are together of bulk at most 1048576: NARROWER than '..Said'. Prove '..Said' where nothing that the law and all that it calls make is longer than what came in: it says more and counts as full. Else prove '..UptoSaid'. A law counts once. -/
mutual
def uptoBulk {H : Type} : DataW H → Nat
  | .lit (.string bytes) => bytes.length + 1
  | .lit _ => 1
  | .nil => 1
  | .ptr d => uptoBulk d + 1
  | .slice elems spare => uptoBulkAll elems + uptoBulkAll spare + 1
  | .agg parts => uptoBulkAll parts + 1
  | .iface _ d => uptoBulk d + 1
  | .map entries => uptoBulkEntries entries + 1
  | .held _ => 1
def uptoBulkAll {H : Type} : List (DataW H) → Nat
  | [] => 0
  | d :: r => uptoBulk d + uptoBulkAll r
def uptoBulkEntries {H : Type} : List (Lit × DataW H) → Nat
  | [] => 0
  | x :: r => uptoBulkEntry x + uptoBulkEntries r
def uptoBulkEntry {H : Type} : Lit × DataW H → Nat
  | (.string bytes, d) => bytes.length + uptoBulk d + 1
  | (_, d) => uptoBulk d + 1
 end
def uptoSmall : (H : Type) → List (DataW H) → Bool := fun _ ds => decide (uptoBulkAll ds ≤ 1048576)
def OpenSpec.upto (s : _root_.Go.ChangeSpec) : _root_.Go.OpenSpec := { _root_.Go.OpenSpec.ofChange s with cond := some uptoSmall }

/-- 'laws.FnExactAllParts', WHERE WHAT IT READS IS OF BULK AT MOST 1048576: true; the input reads as it did. -/
def fnExactAllPartsUptoRow : OpenClaim := { program := "ytlgipimjhfmilaa", sum := "e1feff62b54ccf374fd23bc0b6ad2cfcc8c11a2230723f05055fdb148f525766", func := "loop.example/g01205/laws.FnExactAllParts", spec := "fnExactAllParts", inPlace := ["internal/bytealg.Compare"], unfollowed := true, recurses := true, plainKeys := false, apart := false, narrowed := true }
def FnExactAllPartsUptoSaid : Prop := fnExactAllPartsUptoRow.holds Try.pinned (OpenSpec.upto fnExactAllPartsSpec)

/-- 'laws.FnExactIsDual', WHERE WHAT IT READS IS OF BULK AT MOST 1048576: true; the input reads as it did. -/
def fnExactIsDualUptoRow : OpenClaim := { program := "ytlgipimjhfmilaa", sum := "e1feff62b54ccf374fd23bc0b6ad2cfcc8c11a2230723f05055fdb148f525766", func := "loop.example/g01205/laws.FnExactIsDual", spec := "fnExactIsDual", unfollowed := true, recurses := true, plainKeys := false, apart := false, narrowed := true }
def FnExactIsDualUptoSaid : Prop := fnExactIsDualUptoRow.holds Try.pinned (OpenSpec.upto fnExactIsDualSpec)

/-- 'laws.FnExactDualForm', WHERE WHAT IT READS IS OF BULK AT MOST 1048576: true; the input reads as it did. -/
def fnExactDualFormUptoRow : OpenClaim := { program := "ytlgipimjhfmilaa", sum := "e1feff62b54ccf374fd23bc0b6ad2cfcc8c11a2230723f05055fdb148f525766", func := "loop.example/g01205/laws.FnExactDualForm", spec := "fnExactDualForm", unfollowed := true, recurses := true, plainKeys := false, apart := false, narrowed := true }
def FnExactDualFormUptoSaid : Prop := fnExactDualFormUptoRow.holds Try.pinned (OpenSpec.upto fnExactDualFormSpec)

/-- 'laws.FnExactWordOfDual', WHERE WHAT IT READS IS OF BULK AT MOST 1048576: true; the input reads as it did. -/
def fnExactWordOfDualUptoRow : OpenClaim := { program := "ytlgipimjhfmilaa", sum := "e1feff62b54ccf374fd23bc0b6ad2cfcc8c11a2230723f05055fdb148f525766", func := "loop.example/g01205/laws.FnExactWordOfDual", spec := "fnExactWordOfDual", unfollowed := true, recurses := true, plainKeys := false, apart := false, narrowed := true }
def FnExactWordOfDualUptoSaid : Prop := fnExactWordOfDualUptoRow.holds Try.pinned (OpenSpec.upto fnExactWordOfDualSpec)

/-- 'laws.FnExactEqualByBands', WHERE WHAT IT READS IS OF BULK AT MOST 1048576: true; the input reads as it did. -/
def fnExactEqualByBandsUptoRow : OpenClaim := { program := "ytlgipimjhfmilaa", sum := "e1feff62b54ccf374fd23bc0b6ad2cfcc8c11a2230723f05055fdb148f525766", func := "loop.example/g01205/laws.FnExactEqualByBands", spec := "fnExactEqualByBands", unfollowed := true, recurses := true, plainKeys := false, apart := false, narrowed := true }
def FnExactEqualByBandsUptoSaid : Prop := fnExactEqualByBandsUptoRow.holds Try.pinned (OpenSpec.upto fnExactEqualByBandsSpec)

end Rows
end Go.Proofs.Ytlgipimjhfmilaa
