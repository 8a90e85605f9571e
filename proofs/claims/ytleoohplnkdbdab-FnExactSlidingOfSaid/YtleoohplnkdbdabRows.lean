/-
  No cell of these rows narrows 'for every input' (looked for: loops, veiled, ifaces, maps, wideKeys, modest, calm, conditions, laid).
  DERIVED. THE GIVEN ROWS OF THIS SEAT. 6 by the template 'for every input the law returns true; each argument reads behind the call as it read before'; 0 by the template 'total and deterministic' (their statements: YtleoohplnkdbdabTotals.lean).
  GIVEN WITH THE SEED: the statements are not yours to turn. If you find one false, say at which input.
  Laid BY PROGRAM, IN A SANDBOX (cutbox-rows.mjs): the forced cells as the released guide's own fill.sh prints them over the translation f726153acce8e3a7… (all of the seat's roots in one cut). By AI agents, Wed Nov 11 2026. No macro, syntax, notation, axiom, sorry.
-/
import Derived.Test.YtleoohplnkdbdabChecked
import GoSem.Claim
import GoSem.ClaimJoined
import GoSem.ClaimMapViews
import Derived.JoinedTies
import Derived.KernelRfl
namespace Go.Proofs.Ytleoohplnkdbdab
/- THE CELL 'sum', in the pinned program and in every row, IS THE sha256 OF THE DUMP (.gsa) THAT YtleoohplnkdbdabProg.lean LOADS. Nothing in Lean hashes anything: it is a label: what it is worth is what the hold of that sum in a sandbox is worth. -/
noncomputable def Try.pinned : Pinned := { name := "ytleoohplnkdbdab", sum := "f726153acce8e3a72b7ce79e3c1ce210b9c9746db78d62181969897d248a73ba", checked := Try.checked }
namespace Rows
def none {H : Type} : Left H := { results := [], args := [] }

/-- 'laws.FnExactRightNormalOf': WHATEVER THE INPUT: true; the input reads as it did. -/
def fnExactRightNormalOfSpec : ChangeSpec := { name := "fnExactRightNormalOf", fn := fun _ => fun
  | [d] => { results := [.lit (.bool true)], args := [d] }
  | _ => none }
def fnExactRightNormalOfRow : OpenClaim := { program := "ytleoohplnkdbdab", sum := "f726153acce8e3a72b7ce79e3c1ce210b9c9746db78d62181969897d248a73ba", func := "loop.example/g01205/laws.FnExactRightNormalOf", spec := "fnExactRightNormalOf", unfollowed := true, recurses := true, plainKeys := false, apart := false }
def FnExactRightNormalOfSaid : Prop := fnExactRightNormalOfRow.holds Try.pinned (OpenSpec.ofChange fnExactRightNormalOfSpec)

/-- ITS FALSE NEIGHBOUR: 'it returns false'. Refute it at one input. -/
def fnExactRightNormalOfWrong : ChangeSpec := { name := "fnExactRightNormalOf", fn := fun _ => fun
  | [d] => { results := [.lit (.bool false)], args := [d] }
  | _ => none }
def FnExactRightNormalOfWrongFalsely : Prop := fnExactRightNormalOfRow.holds Try.pinned (OpenSpec.ofChange fnExactRightNormalOfWrong)

/-- 'laws.FnExactSameBraid': WHATEVER THE INPUT: true; the input reads as it did. -/
def fnExactSameBraidSpec : ChangeSpec := { name := "fnExactSameBraid", fn := fun _ => fun
  | [d1, d2] => { results := [.lit (.bool true)], args := [d1, d2] }
  | _ => none }
def fnExactSameBraidRow : OpenClaim := { program := "ytleoohplnkdbdab", sum := "f726153acce8e3a72b7ce79e3c1ce210b9c9746db78d62181969897d248a73ba", func := "loop.example/g01205/laws.FnExactSameBraid", spec := "fnExactSameBraid", unfollowed := true, recurses := true, plainKeys := false, apart := false }
def FnExactSameBraidSaid : Prop := fnExactSameBraidRow.holds Try.pinned (OpenSpec.ofChange fnExactSameBraidSpec)

/-- ITS FALSE NEIGHBOUR: 'it returns false'. Refute it at one input. -/
def fnExactSameBraidWrong : ChangeSpec := { name := "fnExactSameBraid", fn := fun _ => fun
  | [d1, d2] => { results := [.lit (.bool false)], args := [d1, d2] }
  | _ => none }
def FnExactSameBraidWrongFalsely : Prop := fnExactSameBraidRow.holds Try.pinned (OpenSpec.ofChange fnExactSameBraidWrong)

/-- 'laws.FnExactConjugateBy': WHATEVER THE INPUT: true; the input reads as it did. -/
def fnExactConjugateBySpec : ChangeSpec := { name := "fnExactConjugateBy", fn := fun _ => fun
  | [d1, d2] => { results := [.lit (.bool true)], args := [d1, d2] }
  | _ => none }
def fnExactConjugateByRow : OpenClaim := { program := "ytleoohplnkdbdab", sum := "f726153acce8e3a72b7ce79e3c1ce210b9c9746db78d62181969897d248a73ba", func := "loop.example/g01205/laws.FnExactConjugateBy", spec := "fnExactConjugateBy", unfollowed := true, recurses := true, plainKeys := false, apart := false }
def FnExactConjugateBySaid : Prop := fnExactConjugateByRow.holds Try.pinned (OpenSpec.ofChange fnExactConjugateBySpec)

/-- ITS FALSE NEIGHBOUR: 'it returns false'. Refute it at one input. -/
def fnExactConjugateByWrong : ChangeSpec := { name := "fnExactConjugateBy", fn := fun _ => fun
  | [d1, d2] => { results := [.lit (.bool false)], args := [d1, d2] }
  | _ => none }
def FnExactConjugateByWrongFalsely : Prop := fnExactConjugateByRow.holds Try.pinned (OpenSpec.ofChange fnExactConjugateByWrong)

/-- 'laws.FnExactCyclingOf': WHATEVER THE INPUT: true; the input reads as it did. -/
def fnExactCyclingOfSpec : ChangeSpec := { name := "fnExactCyclingOf", fn := fun _ => fun
  | [d] => { results := [.lit (.bool true)], args := [d] }
  | _ => none }
def fnExactCyclingOfRow : OpenClaim := { program := "ytleoohplnkdbdab", sum := "f726153acce8e3a72b7ce79e3c1ce210b9c9746db78d62181969897d248a73ba", func := "loop.example/g01205/laws.FnExactCyclingOf", spec := "fnExactCyclingOf", unfollowed := true, recurses := true, plainKeys := false, apart := false }
def FnExactCyclingOfSaid : Prop := fnExactCyclingOfRow.holds Try.pinned (OpenSpec.ofChange fnExactCyclingOfSpec)

/-- ITS FALSE NEIGHBOUR: 'it returns false'. Refute it at one input. -/
def fnExactCyclingOfWrong : ChangeSpec := { name := "fnExactCyclingOf", fn := fun _ => fun
  | [d] => { results := [.lit (.bool false)], args := [d] }
  | _ => none }
def FnExactCyclingOfWrongFalsely : Prop := fnExactCyclingOfRow.holds Try.pinned (OpenSpec.ofChange fnExactCyclingOfWrong)

/-- 'laws.FnExactDecyclingOf': WHATEVER THE INPUT: true; the input reads as it did. -/
def fnExactDecyclingOfSpec : ChangeSpec := { name := "fnExactDecyclingOf", fn := fun _ => fun
  | [d] => { results := [.lit (.bool true)], args := [d] }
  | _ => none }
def fnExactDecyclingOfRow : OpenClaim := { program := "ytleoohplnkdbdab", sum := "f726153acce8e3a72b7ce79e3c1ce210b9c9746db78d62181969897d248a73ba", func := "loop.example/g01205/laws.FnExactDecyclingOf", spec := "fnExactDecyclingOf", unfollowed := true, recurses := true, plainKeys := false, apart := false }
def FnExactDecyclingOfSaid : Prop := fnExactDecyclingOfRow.holds Try.pinned (OpenSpec.ofChange fnExactDecyclingOfSpec)

/-- ITS FALSE NEIGHBOUR: 'it returns false'. Refute it at one input. -/
def fnExactDecyclingOfWrong : ChangeSpec := { name := "fnExactDecyclingOf", fn := fun _ => fun
  | [d] => { results := [.lit (.bool false)], args := [d] }
  | _ => none }
def FnExactDecyclingOfWrongFalsely : Prop := fnExactDecyclingOfRow.holds Try.pinned (OpenSpec.ofChange fnExactDecyclingOfWrong)

/-- 'laws.FnExactSlidingOf': WHATEVER THE INPUT: true; the input reads as it did. -/
def fnExactSlidingOfSpec : ChangeSpec := { name := "fnExactSlidingOf", fn := fun _ => fun
  | [d] => { results := [.lit (.bool true)], args := [d] }
  | _ => none }
def fnExactSlidingOfRow : OpenClaim := { program := "ytleoohplnkdbdab", sum := "f726153acce8e3a72b7ce79e3c1ce210b9c9746db78d62181969897d248a73ba", func := "loop.example/g01205/laws.FnExactSlidingOf", spec := "fnExactSlidingOf", unfollowed := true, recurses := true, plainKeys := false, apart := false }
def FnExactSlidingOfSaid : Prop := fnExactSlidingOfRow.holds Try.pinned (OpenSpec.ofChange fnExactSlidingOfSpec)

/-- ITS FALSE NEIGHBOUR: 'it returns false'. Refute it at one input. -/
def fnExactSlidingOfWrong : ChangeSpec := { name := "fnExactSlidingOf", fn := fun _ => fun
  | [d] => { results := [.lit (.bool false)], args := [d] }
  | _ => none }
def FnExactSlidingOfWrongFalsely : Prop := fnExactSlidingOfRow.holds Try.pinned (OpenSpec.ofChange fnExactSlidingOfWrong)

/- THE SECOND FORM. 'bulk': how many values and letters a reading holds, each counted each time it is reached (what is shared counts as often as it is met; a slice's spare places count too). A statement '..UptoSaid' is the law's where the arguments, and the package variables that the reading takes, are together of bulk at most 1048576: NARROWER than '..Said'. Prove '..Said' where nothing that the law and all that it calls make is longer than what came in: it says more and counts as full. Else prove '..UptoSaid'. A law counts once. -/
mutual
def uptoBulk {H : Type} : DataW H → Nat
  | .lit (.string bytes) => bytes.length + 1
  | .lit _ => 1
  | .nil => 1
  | .ptr d => uptoBulk d + 1
  | .slice elems spare => uptoBulkAll elems + uptoBulkAll spare + 1
  | .agg parts => uptoBulkAll parts + 1
  | .iface _ d => uptoBulk d + 1
  | .map entries => uptoBulkEntries entries + 1
  | .held _ => 1
def uptoBulkAll {H : Type} : List (DataW H) → Nat
  | [] => 0
  | d :: r => uptoBulk d + uptoBulkAll r
def uptoBulkEntries {H : Type} : List (Lit × DataW H) → Nat
  | [] => 0
  | x :: r => uptoBulkEntry x + uptoBulkEntries r
def uptoBulkEntry {H : Type} : Lit × DataW H → Nat
  | (.string bytes, d) => bytes.length + uptoBulk d + 1
  | (_, d) => uptoBulk d + 1
 end
def uptoSmall : (H : Type) → List (DataW H) → Bool := fun _ ds => decide (uptoBulkAll ds ≤ 1048576)
def OpenSpec.upto (s : _root_.Go.ChangeSpec) : _root_.Go.OpenSpec := { _root_.Go.OpenSpec.ofChange s with cond := some uptoSmall }

/-- 'laws.FnExactRightNormalOf', WHERE WHAT IT READS IS OF BULK AT MOST 1048576: true; the input reads as it did. -/
def fnExactRightNormalOfUptoRow : OpenClaim := { program := "ytleoohplnkdbdab", sum := "f726153acce8e3a72b7ce79e3c1ce210b9c9746db78d62181969897d248a73ba", func := "loop.example/g01205/laws.FnExactRightNormalOf", spec := "fnExactRightNormalOf", unfollowed := true, recurses := true, plainKeys := false, apart := false, narrowed := true }
def FnExactRightNormalOfUptoSaid : Prop := fnExactRightNormalOfUptoRow.holds Try.pinned (OpenSpec.upto fnExactRightNormalOfSpec)

/-- 'laws.FnExactSameBraid', WHERE WHAT IT READS IS OF BULK AT MOST 1048576: true; the input reads as it did. -/
def fnExactSameBraidUptoRow : OpenClaim := { program := "ytleoohplnkdbdab", sum := "f726153acce8e3a72b7ce79e3c1ce210b9c9746db78d62181969897d248a73ba", func := "loop.example/g01205/laws.FnExactSameBraid", spec := "fnExactSameBraid", unfollowed := true, recurses := true, plainKeys := false, apart := false, narrowed := true }
def FnExactSameBraidUptoSaid : Prop := fnExactSameBraidUptoRow.holds Try.pinned (OpenSpec.upto fnExactSameBraidSpec)

/-- 'laws.FnExactConjugateBy', WHERE WHAT IT READS IS OF BULK AT MOST 1048576: true; the input reads as it did. -/
def fnExactConjugateByUptoRow : OpenClaim := { program := "ytleoohplnkdbdab", sum := "f726153acce8e3a72b7ce79e3c1ce210b9c9746db78d62181969897d248a73ba", func := "loop.example/g01205/laws.FnExactConjugateBy", spec := "fnExactConjugateBy", unfollowed := true, recurses := true, plainKeys := false, apart := false, narrowed := true }
def FnExactConjugateByUptoSaid : Prop := fnExactConjugateByUptoRow.holds Try.pinned (OpenSpec.upto fnExactConjugateBySpec)

/-- 'laws.FnExactCyclingOf', WHERE WHAT IT READS IS OF BULK AT MOST 1048576: true; the input reads as it did. -/
def fnExactCyclingOfUptoRow : OpenClaim := { program := "ytleoohplnkdbdab", sum := "f726153acce8e3a72b7ce79e3c1ce210b9c9746db78d62181969897d248a73ba", func := "loop.example/g01205/laws.FnExactCyclingOf", spec := "fnExactCyclingOf", unfollowed := true, recurses := true, plainKeys := false, apart := false, narrowed := true }
def FnExactCyclingOfUptoSaid : Prop := fnExactCyclingOfUptoRow.holds Try.pinned (OpenSpec.upto fnExactCyclingOfSpec)

/-- 'laws.FnExactDecyclingOf', WHERE WHAT IT READS IS OF BULK AT MOST 1048576: true; the input reads as it did. -/
def fnExactDecyclingOfUptoRow : OpenClaim := { program := "ytleoohplnkdbdab", sum := "f726153acce8e3a72b7ce79e3c1ce210b9c9746db78d62181969897d248a73ba", func := "loop.example/g01205/laws.FnExactDecyclingOf", spec := "fnExactDecyclingOf", unfollowed := true, recurses := true, plainKeys := false, apart := false, narrowed := true }
def FnExactDecyclingOfUptoSaid : Prop := fnExactDecyclingOfUptoRow.holds Try.pinned (OpenSpec.upto fnExactDecyclingOfSpec)

/-- 'laws.FnExactSlidingOf', WHERE WHAT IT READS IS OF BULK AT MOST 1048576: true; the input reads as it did. -/
def fnExactSlidingOfUptoRow : OpenClaim := { program := "ytleoohplnkdbdab", sum := "f726153acce8e3a72b7ce79e3c1ce210b9c9746db78d62181969897d248a73ba", func := "loop.example/g01205/laws.FnExactSlidingOf", spec := "fnExactSlidingOf", unfollowed := true, recurses := true, plainKeys := false, apart := false, narrowed := true }
def FnExactSlidingOfUptoSaid : Prop := fnExactSlidingOfUptoRow.holds Try.pinned (OpenSpec.upto fnExactSlidingOfSpec)

end Rows
end Go.Proofs.Ytleoohplnkdbdab
