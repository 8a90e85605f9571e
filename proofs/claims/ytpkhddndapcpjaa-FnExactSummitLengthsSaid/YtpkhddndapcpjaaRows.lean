/-
  No cell of these rows narrows 'for every input' (looked for: loops, veiled, ifaces, maps, wideKeys, modest, calm, conditions, laid).
  DERIVED. THE GIVEN ROWS OF THIS SEAT. 3 by the template 'for every input the law returns true; each argument reads behind the call as it read before'; 0 by the template 'total and deterministic' (their statements: YtpkhddndapcpjaaTotals.lean).
  GIVEN WITH THE SEED: the statements are not yours to turn. If you find one false, say at which input.
  Laid BY PROGRAM, IN A SANDBOX (cutbox-rows.mjs): the forced cells as the released guide's own fill.sh prints them over the translation 7507bcdaf20b8d7a… (all of the seat's roots in one cut). By AI agents, Wed Nov 11 2026. No macro, syntax, notation, axiom, sorry.
-/
import Derived.Test.YtpkhddndapcpjaaChecked
import GoSem.Claim
import GoSem.ClaimJoined
import GoSem.ClaimMapViews
import Derived.JoinedTies
import Derived.KernelRfl
namespace Go.Proofs.Ytpkhddndapcpjaa
/- THE CELL 'sum', in the pinned program and in every row, IS THE sha256 OF THE DUMP (.gsa) THAT YtpkhddndapcpjaaProg.lean LOADS. Nothing in Lean hashes anything: it is a label: what it is worth is what the hold of that sum in a sandbox is worth. -/
noncomputable def Try.pinned : Pinned := { name := "ytpkhddndapcpjaa", sum := "7507bcdaf20b8d7a51466e92925d93e95af1de1181942eb702703c324eab2e41", checked := Try.checked }
namespace Rows
def none {H : Type} : Left H := { results := [], args := [] }

/-- 'laws.FnExactSummitOf': WHATEVER THE INPUT: true; the input reads as it did. -/
def fnExactSummitOfSpec : ChangeSpec := { name := "fnExactSummitOf", fn := fun _ => fun
  | [d] => { results := [.lit (.bool true)], args := [d] }
  | _ => none }
def fnExactSummitOfRow : OpenClaim := { program := "ytpkhddndapcpjaa", sum := "7507bcdaf20b8d7a51466e92925d93e95af1de1181942eb702703c324eab2e41", func := "loop.example/g01205/laws.FnExactSummitOf", spec := "fnExactSummitOf", unfollowed := true, recurses := true, apart := false }
def FnExactSummitOfSaid : Prop := fnExactSummitOfRow.holds Try.pinned (OpenSpec.ofChange fnExactSummitOfSpec)

/-- ITS FALSE NEIGHBOUR: 'it returns false'. Refute it at one input. -/
def fnExactSummitOfWrong : ChangeSpec := { name := "fnExactSummitOf", fn := fun _ => fun
  | [d] => { results := [.lit (.bool false)], args := [d] }
  | _ => none }
def FnExactSummitOfWrongFalsely : Prop := fnExactSummitOfRow.holds Try.pinned (OpenSpec.ofChange fnExactSummitOfWrong)

/-- 'laws.FnExactSummitLengths': WHATEVER THE INPUT: true; the input reads as it did. -/
def fnExactSummitLengthsSpec : ChangeSpec := { name := "fnExactSummitLengths", fn := fun _ => fun
  | [d] => { results := [.lit (.bool true)], args := [d] }
  | _ => none }
def fnExactSummitLengthsRow : OpenClaim := { program := "ytpkhddndapcpjaa", sum := "7507bcdaf20b8d7a51466e92925d93e95af1de1181942eb702703c324eab2e41", func := "loop.example/g01205/laws.FnExactSummitLengths", spec := "fnExactSummitLengths", unfollowed := true, recurses := true, apart := false }
def FnExactSummitLengthsSaid : Prop := fnExactSummitLengthsRow.holds Try.pinned (OpenSpec.ofChange fnExactSummitLengthsSpec)

/-- ITS FALSE NEIGHBOUR: 'it returns false'. Refute it at one input. -/
def fnExactSummitLengthsWrong : ChangeSpec := { name := "fnExactSummitLengths", fn := fun _ => fun
  | [d] => { results := [.lit (.bool false)], args := [d] }
  | _ => none }
def FnExactSummitLengthsWrongFalsely : Prop := fnExactSummitLengthsRow.holds Try.pinned (OpenSpec.ofChange fnExactSummitLengthsWrong)

/-- 'laws.FnExactIsPeriodic': WHATEVER THE INPUT: true; the input reads as it did. -/
def fnExactIsPeriodicSpec : ChangeSpec := { name := "fnExactIsPeriodic", fn := fun _ => fun
  | [d] => { results := [.lit (.bool true)], args := [d] }
  | _ => none }
def fnExactIsPeriodicRow : OpenClaim := { program := "ytpkhddndapcpjaa", sum := "7507bcdaf20b8d7a51466e92925d93e95af1de1181942eb702703c324eab2e41", func := "loop.example/g01205/laws.FnExactIsPeriodic", spec := "fnExactIsPeriodic", unfollowed := true, recurses := true, apart := false }
def FnExactIsPeriodicSaid : Prop := fnExactIsPeriodicRow.holds Try.pinned (OpenSpec.ofChange fnExactIsPeriodicSpec)

/-- ITS FALSE NEIGHBOUR: 'it returns false'. Refute it at one input. -/
def fnExactIsPeriodicWrong : ChangeSpec := { name := "fnExactIsPeriodic", fn := fun _ => fun
  | [d] => { results := [.lit (.bool false)], args := [d] }
  | _ => none }
def FnExactIsPeriodicWrongFalsely : Prop := fnExactIsPeriodicRow.holds Try.pinned (OpenSpec.ofChange fnExactIsPeriodicWrong)

/- THE SECOND FORM. 'bulk': how many values and letters a reading holds, each counted each time it is reached (what is shared counts as often as it is met; a slice's spare places count too). A statement '..UptoSaid' is the law's where the arguments, and the package variables that the reading takes, are together of bulk at most 1048576: NARROWER than '..Said'. Prove '..Said' where nothing that the law and all that it calls make is longer than what came in: it says more and counts as full. Else prove '..UptoSaid'. A law counts once. -/
mutual
def uptoBulk {H : Type} : DataW H → Nat
  | .lit (.string bytes) => bytes.length + 1
  | .lit _ => 1
  | .nil => 1
  | .ptr d => uptoBulk d + 1
  | .slice elems spare => uptoBulkAll elems + uptoBulkAll spare + 1
  | .agg parts => uptoBulkAll parts + 1
  | .iface _ d => uptoBulk d + 1
  | .map entries => uptoBulkEntries entries + 1
  | .held _ => 1
def uptoBulkAll {H : Type} : List (DataW H) → Nat
  | [] => 0
  | d :: r => uptoBulk d + uptoBulkAll r
def uptoBulkEntries {H : Type} : List (Lit × DataW H) → Nat
  | [] => 0
  | x :: r => uptoBulkEntry x + uptoBulkEntries r
def uptoBulkEntry {H : Type} : Lit × DataW H → Nat
  | (.string bytes, d) => bytes.length + uptoBulk d + 1
  | (_, d) => uptoBulk d + 1
 end
def uptoSmall : (H : Type) → List (DataW H) → Bool := fun _ ds => decide (uptoBulkAll ds ≤ 1048576)
def OpenSpec.upto (s : _root_.Go.ChangeSpec) : _root_.Go.OpenSpec := { _root_.Go.OpenSpec.ofChange s with cond := some uptoSmall }

/-- 'laws.FnExactSummitOf', WHERE WHAT IT READS IS OF BULK AT MOST 1048576: true; the input reads as it did. -/
def fnExactSummitOfUptoRow : OpenClaim := { program := "ytpkhddndapcpjaa", sum := "7507bcdaf20b8d7a51466e92925d93e95af1de1181942eb702703c324eab2e41", func := "loop.example/g01205/laws.FnExactSummitOf", spec := "fnExactSummitOf", unfollowed := true, recurses := true, apart := false, narrowed := true }
def FnExactSummitOfUptoSaid : Prop := fnExactSummitOfUptoRow.holds Try.pinned (OpenSpec.upto fnExactSummitOfSpec)

/-- 'laws.FnExactSummitLengths', WHERE WHAT IT READS IS OF BULK AT MOST 1048576: true; the input reads as it did. -/
def fnExactSummitLengthsUptoRow : OpenClaim := { program := "ytpkhddndapcpjaa", sum := "7507bcdaf20b8d7a51466e92925d93e95af1de1181942eb702703c324eab2e41", func := "loop.example/g01205/laws.FnExactSummitLengths", spec := "fnExactSummitLengths", unfollowed := true, recurses := true, apart := false, narrowed := true }
def FnExactSummitLengthsUptoSaid : Prop := fnExactSummitLengthsUptoRow.holds Try.pinned (OpenSpec.upto fnExactSummitLengthsSpec)

/-- 'laws.FnExactIsPeriodic', WHERE WHAT IT READS IS OF BULK AT MOST 1048576: true; the input reads as it did. -/
def fnExactIsPeriodicUptoRow : OpenClaim := { program := "ytpkhddndapcpjaa", sum := "7507bcdaf20b8d7a51466e92925d93e95af1de1181942eb702703c324eab2e41", func := "loop.example/g01205/laws.FnExactIsPeriodic", spec := "fnExactIsPeriodic", unfollowed := true, recurses := true, apart := false, narrowed := true }
def FnExactIsPeriodicUptoSaid : Prop := fnExactIsPeriodicUptoRow.holds Try.pinned (OpenSpec.upto fnExactIsPeriodicSpec)

end Rows
end Go.Proofs.Ytpkhddndapcpjaa
