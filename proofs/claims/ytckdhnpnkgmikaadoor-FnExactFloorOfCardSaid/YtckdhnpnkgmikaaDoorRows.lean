/-
  NARROWER THAN 'FOR EVERY INPUT', by the rows' own cells (each row's printed sentence says how): FnExactHandleFree: ifaces, laid · FnExactMainLetter: ifaces, laid · FnExactIsTrivial: ifaces, laid · FnExactCompareBraids: ifaces, laid · FnExactSortBraids: ifaces, laid · FnExactFloorOf: ifaces, laid.
  DERIVED. THE GIVEN ROWS OF THIS SEAT. 6 by the template 'for every input the law returns true; each argument reads behind the call as it read before'; 0 by the template 'total and deterministic' (their statements: YtckdhnpnkgmikaaDoorTotals.lean).
  GIVEN WITH THE SEED: the statements are not yours to turn. If you find one false, say at which input.
  Laid BY PROGRAM, IN A SANDBOX (cutbox-rows.mjs): the forced cells as the released guide's own fill.sh prints them over the translation f21aaa721dac0a87… (all of the seat's roots in one cut). By AI agents, Wed Nov 11 2026. No macro, syntax, notation, axiom, sorry.
-/
import Derived.Test.YtckdhnpnkgmikaaDoorChecked
import GoSem.Claim
import GoSem.ClaimJoined
import GoSem.ClaimMapViews
import Derived.JoinedTies
import Derived.KernelRfl
namespace Go.Proofs.YtckdhnpnkgmikaaDoor
/- THE CELL 'sum', in the pinned program and in every row, IS THE sha256 OF THE DUMP (.gsa) THAT YtckdhnpnkgmikaaDoorProg.lean LOADS. Nothing in Lean hashes anything: it is a label: what it is worth is what the hold of that sum in a sandbox is worth. -/
noncomputable def Tryd.pinned : Pinned := { name := "ytckdhnpnkgmikaadoor", sum := "f21aaa721dac0a8773d7b54aa003df20f593258883a1f237924f7e156ccb8c9c", checked := Tryd.checked }
namespace Rows
def none {H : Type} : Left H := { results := [], args := [] }

/- WHAT THE LISTED PACKAGE-LEVEL VARIABLES READ AS WHEN THE CALL BEGINS. Each datum BY PROGRAM (the guide's laid-datum.mjs) off the statement by which the dump's own 'gosem.cut.vars' lays the variable. In a bare row this is a premise. The card (YtckdhnpnkgmikaaDoorCards.lean) ties it to the program's text. -/
def laid_loop_example_g01205_impl_errLongReduction {H : Type} : DataW H := .iface "*errors.errorString" (.ptr (.agg [.lit (.string [97, 32, 114, 101, 100, 117, 99, 116, 105, 111, 110, 32, 101, 120, 99, 101, 101, 100, 115, 32, 77, 97, 120, 82, 101, 100, 117, 99, 116, 105, 111, 110, 115, 32, 115, 116, 101, 112, 115, 32, 111, 114, 32, 77, 97, 120, 87, 111, 114, 107, 32, 108, 101, 116, 116, 101, 114, 115])]))

/-- 'laws.FnExactHandleFree': WHATEVER THE INPUT: true; the input reads as it did. -/
def fnExactHandleFreeSpec : ChangeSpec := { name := "fnExactHandleFree", vars := ["loop.example/g01205/impl.errLongReduction"], fn := fun _ => fun
  | [d, g1] => { results := [.lit (.bool true)], args := [d], vars := [g1] }
  | _ => none }
def fnExactHandleFreeRow : OpenClaim := { program := "ytckdhnpnkgmikaadoor", sum := "f21aaa721dac0a8773d7b54aa003df20f593258883a1f237924f7e156ccb8c9c", func := "loop.example/g01205/laws.FnExactHandleFree", spec := "fnExactHandleFree", unfollowed := true, recurses := true, named := ["loop.example/g01205/impl.errLongReduction"], ifaces := true, apart := false, laid := [("loop.example/g01205/impl.errLongReduction", laid_loop_example_g01205_impl_errLongReduction)] }
def FnExactHandleFreeSaid : Prop := fnExactHandleFreeRow.holds Tryd.pinned (OpenSpec.ofChange fnExactHandleFreeSpec)

/-- ITS FALSE NEIGHBOUR: 'it returns false'. Refute it at one input. -/
def fnExactHandleFreeWrong : ChangeSpec := { name := "fnExactHandleFree", vars := ["loop.example/g01205/impl.errLongReduction"], fn := fun _ => fun
  | [d, g1] => { results := [.lit (.bool false)], args := [d], vars := [g1] }
  | _ => none }
def FnExactHandleFreeWrongFalsely : Prop := fnExactHandleFreeRow.holds Tryd.pinned (OpenSpec.ofChange fnExactHandleFreeWrong)

/-- 'laws.FnExactMainLetter': WHATEVER THE INPUT: true; the input reads as it did. -/
def fnExactMainLetterSpec : ChangeSpec := { name := "fnExactMainLetter", vars := ["loop.example/g01205/impl.errLongReduction"], fn := fun _ => fun
  | [d, g1] => { results := [.lit (.bool true)], args := [d], vars := [g1] }
  | _ => none }
def fnExactMainLetterRow : OpenClaim := { program := "ytckdhnpnkgmikaadoor", sum := "f21aaa721dac0a8773d7b54aa003df20f593258883a1f237924f7e156ccb8c9c", func := "loop.example/g01205/laws.FnExactMainLetter", spec := "fnExactMainLetter", unfollowed := true, recurses := true, named := ["loop.example/g01205/impl.errLongReduction"], ifaces := true, apart := false, laid := [("loop.example/g01205/impl.errLongReduction", laid_loop_example_g01205_impl_errLongReduction)] }
def FnExactMainLetterSaid : Prop := fnExactMainLetterRow.holds Tryd.pinned (OpenSpec.ofChange fnExactMainLetterSpec)

/-- ITS FALSE NEIGHBOUR: 'it returns false'. Refute it at one input. -/
def fnExactMainLetterWrong : ChangeSpec := { name := "fnExactMainLetter", vars := ["loop.example/g01205/impl.errLongReduction"], fn := fun _ => fun
  | [d, g1] => { results := [.lit (.bool false)], args := [d], vars := [g1] }
  | _ => none }
def FnExactMainLetterWrongFalsely : Prop := fnExactMainLetterRow.holds Tryd.pinned (OpenSpec.ofChange fnExactMainLetterWrong)

/-- 'laws.FnExactIsTrivial': WHATEVER THE INPUT: true; the input reads as it did. -/
def fnExactIsTrivialSpec : ChangeSpec := { name := "fnExactIsTrivial", vars := ["loop.example/g01205/impl.errLongReduction"], fn := fun _ => fun
  | [d, g1] => { results := [.lit (.bool true)], args := [d], vars := [g1] }
  | _ => none }
def fnExactIsTrivialRow : OpenClaim := { program := "ytckdhnpnkgmikaadoor", sum := "f21aaa721dac0a8773d7b54aa003df20f593258883a1f237924f7e156ccb8c9c", func := "loop.example/g01205/laws.FnExactIsTrivial", spec := "fnExactIsTrivial", unfollowed := true, recurses := true, named := ["loop.example/g01205/impl.errLongReduction"], ifaces := true, apart := false, laid := [("loop.example/g01205/impl.errLongReduction", laid_loop_example_g01205_impl_errLongReduction)] }
def FnExactIsTrivialSaid : Prop := fnExactIsTrivialRow.holds Tryd.pinned (OpenSpec.ofChange fnExactIsTrivialSpec)

/-- ITS FALSE NEIGHBOUR: 'it returns false'. Refute it at one input. -/
def fnExactIsTrivialWrong : ChangeSpec := { name := "fnExactIsTrivial", vars := ["loop.example/g01205/impl.errLongReduction"], fn := fun _ => fun
  | [d, g1] => { results := [.lit (.bool false)], args := [d], vars := [g1] }
  | _ => none }
def FnExactIsTrivialWrongFalsely : Prop := fnExactIsTrivialRow.holds Tryd.pinned (OpenSpec.ofChange fnExactIsTrivialWrong)

/-- 'laws.FnExactCompareBraids': WHATEVER THE INPUT: true; the input reads as it did. -/
def fnExactCompareBraidsSpec : ChangeSpec := { name := "fnExactCompareBraids", vars := ["loop.example/g01205/impl.errLongReduction"], fn := fun _ => fun
  | [d1, d2, g1] => { results := [.lit (.bool true)], args := [d1, d2], vars := [g1] }
  | _ => none }
def fnExactCompareBraidsRow : OpenClaim := { program := "ytckdhnpnkgmikaadoor", sum := "f21aaa721dac0a8773d7b54aa003df20f593258883a1f237924f7e156ccb8c9c", func := "loop.example/g01205/laws.FnExactCompareBraids", spec := "fnExactCompareBraids", unfollowed := true, recurses := true, named := ["loop.example/g01205/impl.errLongReduction"], ifaces := true, apart := false, laid := [("loop.example/g01205/impl.errLongReduction", laid_loop_example_g01205_impl_errLongReduction)] }
def FnExactCompareBraidsSaid : Prop := fnExactCompareBraidsRow.holds Tryd.pinned (OpenSpec.ofChange fnExactCompareBraidsSpec)

/-- ITS FALSE NEIGHBOUR: 'it returns false'. Refute it at one input. -/
def fnExactCompareBraidsWrong : ChangeSpec := { name := "fnExactCompareBraids", vars := ["loop.example/g01205/impl.errLongReduction"], fn := fun _ => fun
  | [d1, d2, g1] => { results := [.lit (.bool false)], args := [d1, d2], vars := [g1] }
  | _ => none }
def FnExactCompareBraidsWrongFalsely : Prop := fnExactCompareBraidsRow.holds Tryd.pinned (OpenSpec.ofChange fnExactCompareBraidsWrong)

/-- 'laws.FnExactSortBraids': WHATEVER THE INPUT: true; the input reads as it did. -/
def fnExactSortBraidsSpec : ChangeSpec := { name := "fnExactSortBraids", vars := ["loop.example/g01205/impl.errLongReduction"], fn := fun _ => fun
  | [d, g1] => { results := [.lit (.bool true)], args := [d], vars := [g1] }
  | _ => none }
def fnExactSortBraidsRow : OpenClaim := { program := "ytckdhnpnkgmikaadoor", sum := "f21aaa721dac0a8773d7b54aa003df20f593258883a1f237924f7e156ccb8c9c", func := "loop.example/g01205/laws.FnExactSortBraids", spec := "fnExactSortBraids", unfollowed := true, recurses := true, named := ["loop.example/g01205/impl.errLongReduction"], ifaces := true, apart := false, laid := [("loop.example/g01205/impl.errLongReduction", laid_loop_example_g01205_impl_errLongReduction)] }
def FnExactSortBraidsSaid : Prop := fnExactSortBraidsRow.holds Tryd.pinned (OpenSpec.ofChange fnExactSortBraidsSpec)

/-- ITS FALSE NEIGHBOUR: 'it returns false'. Refute it at one input. -/
def fnExactSortBraidsWrong : ChangeSpec := { name := "fnExactSortBraids", vars := ["loop.example/g01205/impl.errLongReduction"], fn := fun _ => fun
  | [d, g1] => { results := [.lit (.bool false)], args := [d], vars := [g1] }
  | _ => none }
def FnExactSortBraidsWrongFalsely : Prop := fnExactSortBraidsRow.holds Tryd.pinned (OpenSpec.ofChange fnExactSortBraidsWrong)

/-- 'laws.FnExactFloorOf': WHATEVER THE INPUT: true; the input reads as it did. -/
def fnExactFloorOfSpec : ChangeSpec := { name := "fnExactFloorOf", vars := ["loop.example/g01205/impl.errLongReduction"], fn := fun _ => fun
  | [d, g1] => { results := [.lit (.bool true)], args := [d], vars := [g1] }
  | _ => none }
def fnExactFloorOfRow : OpenClaim := { program := "ytckdhnpnkgmikaadoor", sum := "f21aaa721dac0a8773d7b54aa003df20f593258883a1f237924f7e156ccb8c9c", func := "loop.example/g01205/laws.FnExactFloorOf", spec := "fnExactFloorOf", unfollowed := true, recurses := true, named := ["loop.example/g01205/impl.errLongReduction"], ifaces := true, apart := false, laid := [("loop.example/g01205/impl.errLongReduction", laid_loop_example_g01205_impl_errLongReduction)] }
def FnExactFloorOfSaid : Prop := fnExactFloorOfRow.holds Tryd.pinned (OpenSpec.ofChange fnExactFloorOfSpec)

/-- ITS FALSE NEIGHBOUR: 'it returns false'. Refute it at one input. -/
def fnExactFloorOfWrong : ChangeSpec := { name := "fnExactFloorOf", vars := ["loop.example/g01205/impl.errLongReduction"], fn := fun _ => fun
  | [d, g1] => { results := [.lit (.bool false)], args := [d], vars := [g1] }
  | _ => none }
def FnExactFloorOfWrongFalsely : Prop := fnExactFloorOfRow.holds Tryd.pinned (OpenSpec.ofChange fnExactFloorOfWrong)

/- THE SECOND FORM. 'bulk': how many values and letters a reading holds, each counted each time it is reached (what is shared counts as often as it is met; a slice's spare places count too). A statement '..UptoSaid' is the law's where the arguments, and the package variables that the reading takes, are together of bulk at most 1048576: NARROWER than '..Said'. Prove '..Said' where nothing that the law and all that it calls make is longer than what came in: it says more and counts as full. Else prove '..UptoSaid'. A law counts once. -/
mutual
def uptoBulk {H : Type} : DataW H → Nat
  | .lit (.string bytes) => bytes.length + 1
  | .lit _ => 1
  | .nil => 1
  | .ptr d => uptoBulk d + 1
  | .slice elems spare => uptoBulkAll elems + uptoBulkAll spare + 1
  | .agg parts => uptoBulkAll parts + 1
  | .iface _ d => uptoBulk d + 1
  | .map entries => uptoBulkEntries entries + 1
  | .held _ => 1
def uptoBulkAll {H : Type} : List (DataW H) → Nat
  | [] => 0
  | d :: r => uptoBulk d + uptoBulkAll r
def uptoBulkEntries {H : Type} : List (Lit × DataW H) → Nat
  | [] => 0
  | x :: r => uptoBulkEntry x + uptoBulkEntries r
def uptoBulkEntry {H : Type} : Lit × DataW H → Nat
  | (.string bytes, d) => bytes.length + uptoBulk d + 1
  | (_, d) => uptoBulk d + 1
 end
def uptoSmall : (H : Type) → List (DataW H) → Bool := fun _ ds => decide (uptoBulkAll ds ≤ 1048576)
def OpenSpec.upto (s : _root_.Go.ChangeSpec) : _root_.Go.OpenSpec := { _root_.Go.OpenSpec.ofChange s with cond := some uptoSmall }

/-- 'laws.FnExactHandleFree', WHERE WHAT IT READS IS OF BULK AT MOST 1048576: true; the input reads as it did. -/
def fnExactHandleFreeUptoRow : OpenClaim := { program := "ytckdhnpnkgmikaadoor", sum := "f21aaa721dac0a8773d7b54aa003df20f593258883a1f237924f7e156ccb8c9c", func := "loop.example/g01205/laws.FnExactHandleFree", spec := "fnExactHandleFree", unfollowed := true, recurses := true, named := ["loop.example/g01205/impl.errLongReduction"], ifaces := true, apart := false, laid := [("loop.example/g01205/impl.errLongReduction", laid_loop_example_g01205_impl_errLongReduction)], narrowed := true }
def FnExactHandleFreeUptoSaid : Prop := fnExactHandleFreeUptoRow.holds Tryd.pinned (OpenSpec.upto fnExactHandleFreeSpec)

/-- 'laws.FnExactMainLetter', WHERE WHAT IT READS IS OF BULK AT MOST 1048576: true; the input reads as it did. -/
def fnExactMainLetterUptoRow : OpenClaim := { program := "ytckdhnpnkgmikaadoor", sum := "f21aaa721dac0a8773d7b54aa003df20f593258883a1f237924f7e156ccb8c9c", func := "loop.example/g01205/laws.FnExactMainLetter", spec := "fnExactMainLetter", unfollowed := true, recurses := true, named := ["loop.example/g01205/impl.errLongReduction"], ifaces := true, apart := false, laid := [("loop.example/g01205/impl.errLongReduction", laid_loop_example_g01205_impl_errLongReduction)], narrowed := true }
def FnExactMainLetterUptoSaid : Prop := fnExactMainLetterUptoRow.holds Tryd.pinned (OpenSpec.upto fnExactMainLetterSpec)

/-- 'laws.FnExactIsTrivial', WHERE WHAT IT READS IS OF BULK AT MOST 1048576: true; the input reads as it did. -/
def fnExactIsTrivialUptoRow : OpenClaim := { program := "ytckdhnpnkgmikaadoor", sum := "f21aaa721dac0a8773d7b54aa003df20f593258883a1f237924f7e156ccb8c9c", func := "loop.example/g01205/laws.FnExactIsTrivial", spec := "fnExactIsTrivial", unfollowed := true, recurses := true, named := ["loop.example/g01205/impl.errLongReduction"], ifaces := true, apart := false, laid := [("loop.example/g01205/impl.errLongReduction", laid_loop_example_g01205_impl_errLongReduction)], narrowed := true }
def FnExactIsTrivialUptoSaid : Prop := fnExactIsTrivialUptoRow.holds Tryd.pinned (OpenSpec.upto fnExactIsTrivialSpec)

/-- 'laws.FnExactCompareBraids', WHERE WHAT IT READS IS OF BULK AT MOST 1048576: true; the input reads as it did. -/
def fnExactCompareBraidsUptoRow : OpenClaim := { program := "ytckdhnpnkgmikaadoor", sum := "f21aaa721dac0a8773d7b54aa003df20f593258883a1f237924f7e156ccb8c9c", func := "loop.example/g01205/laws.FnExactCompareBraids", spec := "fnExactCompareBraids", unfollowed := true, recurses := true, named := ["loop.example/g01205/impl.errLongReduction"], ifaces := true, apart := false, laid := [("loop.example/g01205/impl.errLongReduction", laid_loop_example_g01205_impl_errLongReduction)], narrowed := true }
def FnExactCompareBraidsUptoSaid : Prop := fnExactCompareBraidsUptoRow.holds Tryd.pinned (OpenSpec.upto fnExactCompareBraidsSpec)

/-- 'laws.FnExactSortBraids', WHERE WHAT IT READS IS OF BULK AT MOST 1048576: true; the input reads as it did. -/
def fnExactSortBraidsUptoRow : OpenClaim := { program := "ytckdhnpnkgmikaadoor", sum := "f21aaa721dac0a8773d7b54aa003df20f593258883a1f237924f7e156ccb8c9c", func := "loop.example/g01205/laws.FnExactSortBraids", spec := "fnExactSortBraids", unfollowed := true, recurses := true, named := ["loop.example/g01205/impl.errLongReduction"], ifaces := true, apart := false, laid := [("loop.example/g01205/impl.errLongReduction", laid_loop_example_g01205_impl_errLongReduction)], narrowed := true }
def FnExactSortBraidsUptoSaid : Prop := fnExactSortBraidsUptoRow.holds Tryd.pinned (OpenSpec.upto fnExactSortBraidsSpec)

/-- 'laws.FnExactFloorOf', WHERE WHAT IT READS IS OF BULK AT MOST 1048576: true; the input reads as it did. -/
def fnExactFloorOfUptoRow : OpenClaim := { program := "ytckdhnpnkgmikaadoor", sum := "f21aaa721dac0a8773d7b54aa003df20f593258883a1f237924f7e156ccb8c9c", func := "loop.example/g01205/laws.FnExactFloorOf", spec := "fnExactFloorOf", unfollowed := true, recurses := true, named := ["loop.example/g01205/impl.errLongReduction"], ifaces := true, apart := false, laid := [("loop.example/g01205/impl.errLongReduction", laid_loop_example_g01205_impl_errLongReduction)], narrowed := true }
def FnExactFloorOfUptoSaid : Prop := fnExactFloorOfUptoRow.holds Tryd.pinned (OpenSpec.upto fnExactFloorOfSpec)

end Rows
end Go.Proofs.YtckdhnpnkgmikaaDoor
