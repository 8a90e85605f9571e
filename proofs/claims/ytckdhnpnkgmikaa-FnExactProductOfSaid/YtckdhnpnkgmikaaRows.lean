/-
  No cell of these rows narrows 'for every input' (looked for: loops, veiled, ifaces, maps, wideKeys, modest, calm, conditions, laid).
  DERIVED. THE GIVEN ROWS OF THIS SEAT. 6 by the template 'for every input the law returns true; each argument reads behind the call as it read before'; 0 by the template 'total and deterministic' (their statements: YtckdhnpnkgmikaaTotals.lean).
  GIVEN WITH THE SEED: the statements are not yours to turn. If you find one false, say at which input.
  Laid BY PROGRAM, IN A SANDBOX (cutbox-rows.mjs): the forced cells as the released guide's own fill.sh prints them over the translation 6b3b9c7931946a21… (all of the seat's roots in one cut). By AI agents, Wed Nov 11 2026. No macro, syntax, notation, axiom, sorry.
-/
import Derived.Test.YtckdhnpnkgmikaaChecked
import GoSem.Claim
import GoSem.ClaimJoined
import GoSem.ClaimMapViews
import Derived.JoinedTies
import Derived.KernelRfl
namespace Go.Proofs.Ytckdhnpnkgmikaa
/- THE CELL 'sum', in the pinned program and in every row, IS THE sha256 OF THE DUMP (.gsa) THAT YtckdhnpnkgmikaaProg.lean LOADS. Nothing in Lean hashes anything: it is a label: what it is worth is what the hold of that sum in a sandbox is worth. -/
noncomputable def Try.pinned : Pinned := { name := "ytckdhnpnkgmikaa", sum := "6b3b9c7931946a21857ece9eac4e92c4bcc5a222359c90188f3824f761abc13b", checked := Try.checked }
namespace Rows
def none {H : Type} : Left H := { results := [], args := [] }

/-- 'laws.FnExactFirstHandle': WHATEVER THE INPUT: true; the input reads as it did. -/
def fnExactFirstHandleSpec : ChangeSpec := { name := "fnExactFirstHandle", fn := fun _ => fun
  | [d] => { results := [.lit (.bool true)], args := [d] }
  | _ => none }
def fnExactFirstHandleRow : OpenClaim := { program := "ytckdhnpnkgmikaa", sum := "6b3b9c7931946a21857ece9eac4e92c4bcc5a222359c90188f3824f761abc13b", func := "loop.example/g01205/laws.FnExactFirstHandle", spec := "fnExactFirstHandle", apart := false }
def FnExactFirstHandleSaid : Prop := fnExactFirstHandleRow.holds Try.pinned (OpenSpec.ofChange fnExactFirstHandleSpec)

/-- ITS FALSE NEIGHBOUR: 'it returns false'. Refute it at one input. -/
def fnExactFirstHandleWrong : ChangeSpec := { name := "fnExactFirstHandle", fn := fun _ => fun
  | [d] => { results := [.lit (.bool false)], args := [d] }
  | _ => none }
def FnExactFirstHandleWrongFalsely : Prop := fnExactFirstHandleRow.holds Try.pinned (OpenSpec.ofChange fnExactFirstHandleWrong)

/-- 'laws.FnExactReduceHandle': WHATEVER THE INPUT: true; the input reads as it did. -/
def fnExactReduceHandleSpec : ChangeSpec := { name := "fnExactReduceHandle", fn := fun _ => fun
  | [d] => { results := [.lit (.bool true)], args := [d] }
  | _ => none }
def fnExactReduceHandleRow : OpenClaim := { program := "ytckdhnpnkgmikaa", sum := "6b3b9c7931946a21857ece9eac4e92c4bcc5a222359c90188f3824f761abc13b", func := "loop.example/g01205/laws.FnExactReduceHandle", spec := "fnExactReduceHandle", apart := false }
def FnExactReduceHandleSaid : Prop := fnExactReduceHandleRow.holds Try.pinned (OpenSpec.ofChange fnExactReduceHandleSpec)

/-- ITS FALSE NEIGHBOUR: 'it returns false'. Refute it at one input. -/
def fnExactReduceHandleWrong : ChangeSpec := { name := "fnExactReduceHandle", fn := fun _ => fun
  | [d] => { results := [.lit (.bool false)], args := [d] }
  | _ => none }
def FnExactReduceHandleWrongFalsely : Prop := fnExactReduceHandleRow.holds Try.pinned (OpenSpec.ofChange fnExactReduceHandleWrong)

/-- 'laws.FnExactWordSign': WHATEVER THE INPUT: true; the input reads as it did. -/
def fnExactWordSignSpec : ChangeSpec := { name := "fnExactWordSign", fn := fun _ => fun
  | [d] => { results := [.lit (.bool true)], args := [d] }
  | _ => none }
def fnExactWordSignRow : OpenClaim := { program := "ytckdhnpnkgmikaa", sum := "6b3b9c7931946a21857ece9eac4e92c4bcc5a222359c90188f3824f761abc13b", func := "loop.example/g01205/laws.FnExactWordSign", spec := "fnExactWordSign", apart := false }
def FnExactWordSignSaid : Prop := fnExactWordSignRow.holds Try.pinned (OpenSpec.ofChange fnExactWordSignSpec)

/-- ITS FALSE NEIGHBOUR: 'it returns false'. Refute it at one input. -/
def fnExactWordSignWrong : ChangeSpec := { name := "fnExactWordSign", fn := fun _ => fun
  | [d] => { results := [.lit (.bool false)], args := [d] }
  | _ => none }
def FnExactWordSignWrongFalsely : Prop := fnExactWordSignRow.holds Try.pinned (OpenSpec.ofChange fnExactWordSignWrong)

/-- 'laws.FnExactInverseOf': WHATEVER THE INPUT: true; the input reads as it did. -/
def fnExactInverseOfSpec : ChangeSpec := { name := "fnExactInverseOf", fn := fun _ => fun
  | [d] => { results := [.lit (.bool true)], args := [d] }
  | _ => none }
def fnExactInverseOfRow : OpenClaim := { program := "ytckdhnpnkgmikaa", sum := "6b3b9c7931946a21857ece9eac4e92c4bcc5a222359c90188f3824f761abc13b", func := "loop.example/g01205/laws.FnExactInverseOf", spec := "fnExactInverseOf", unfollowed := true, recurses := true, apart := false }
def FnExactInverseOfSaid : Prop := fnExactInverseOfRow.holds Try.pinned (OpenSpec.ofChange fnExactInverseOfSpec)

/-- ITS FALSE NEIGHBOUR: 'it returns false'. Refute it at one input. -/
def fnExactInverseOfWrong : ChangeSpec := { name := "fnExactInverseOf", fn := fun _ => fun
  | [d] => { results := [.lit (.bool false)], args := [d] }
  | _ => none }
def FnExactInverseOfWrongFalsely : Prop := fnExactInverseOfRow.holds Try.pinned (OpenSpec.ofChange fnExactInverseOfWrong)

/-- 'laws.FnExactProductOf': WHATEVER THE INPUT: true; the input reads as it did. -/
def fnExactProductOfSpec : ChangeSpec := { name := "fnExactProductOf", fn := fun _ => fun
  | [d1, d2] => { results := [.lit (.bool true)], args := [d1, d2] }
  | _ => none }
def fnExactProductOfRow : OpenClaim := { program := "ytckdhnpnkgmikaa", sum := "6b3b9c7931946a21857ece9eac4e92c4bcc5a222359c90188f3824f761abc13b", func := "loop.example/g01205/laws.FnExactProductOf", spec := "fnExactProductOf", apart := false }
def FnExactProductOfSaid : Prop := fnExactProductOfRow.holds Try.pinned (OpenSpec.ofChange fnExactProductOfSpec)

/-- ITS FALSE NEIGHBOUR: 'it returns false'. Refute it at one input. -/
def fnExactProductOfWrong : ChangeSpec := { name := "fnExactProductOf", fn := fun _ => fun
  | [d1, d2] => { results := [.lit (.bool false)], args := [d1, d2] }
  | _ => none }
def FnExactProductOfWrongFalsely : Prop := fnExactProductOfRow.holds Try.pinned (OpenSpec.ofChange fnExactProductOfWrong)

/-- 'laws.FnExactPowerOf': WHATEVER THE INPUT: true; the input reads as it did. -/
def fnExactPowerOfSpec : ChangeSpec := { name := "fnExactPowerOf", fn := fun _ => fun
  | [d1, d2] => { results := [.lit (.bool true)], args := [d1, d2] }
  | _ => none }
def fnExactPowerOfRow : OpenClaim := { program := "ytckdhnpnkgmikaa", sum := "6b3b9c7931946a21857ece9eac4e92c4bcc5a222359c90188f3824f761abc13b", func := "loop.example/g01205/laws.FnExactPowerOf", spec := "fnExactPowerOf", unfollowed := true, recurses := true, apart := false }
def FnExactPowerOfSaid : Prop := fnExactPowerOfRow.holds Try.pinned (OpenSpec.ofChange fnExactPowerOfSpec)

/-- ITS FALSE NEIGHBOUR: 'it returns false'. Refute it at one input. -/
def fnExactPowerOfWrong : ChangeSpec := { name := "fnExactPowerOf", fn := fun _ => fun
  | [d1, d2] => { results := [.lit (.bool false)], args := [d1, d2] }
  | _ => none }
def FnExactPowerOfWrongFalsely : Prop := fnExactPowerOfRow.holds Try.pinned (OpenSpec.ofChange fnExactPowerOfWrong)

/- THE SECOND FORM. 'bulk': how many values and letters a reading holds, each counted each time it is reached (what is shared counts as often as it is met; a slice's spare places count too). A statement '..UptoSaid' is the law's where the arguments, and the package variables that the reading takes, are together of bulk at most 1048576: NARROWER than '..Said'. Prove '..Said' where nothing that the law and all that it calls make is longer than what came in: it says more and counts as full. Else prove '..UptoSaid'. A law counts once. -/
mutual
def uptoBulk {H : Type} : DataW H → Nat
  | .lit (.string bytes) => bytes.length + 1
  | .lit _ => 1
  | .nil => 1
  | .ptr d => uptoBulk d + 1
  | .slice elems spare => uptoBulkAll elems + uptoBulkAll spare + 1
  | .agg parts => uptoBulkAll parts + 1
  | .iface _ d => uptoBulk d + 1
  | .map entries => uptoBulkEntries entries + 1
  | .held _ => 1
def uptoBulkAll {H : Type} : List (DataW H) → Nat
  | [] => 0
  | d :: r => uptoBulk d + uptoBulkAll r
def uptoBulkEntries {H : Type} : List (Lit × DataW H) → Nat
  | [] => 0
  | x :: r => uptoBulkEntry x + uptoBulkEntries r
def uptoBulkEntry {H : Type} : Lit × DataW H → Nat
  | (.string bytes, d) => bytes.length + uptoBulk d + 1
  | (_, d) => uptoBulk d + 1
 end
def uptoSmall : (H : Type) → List (DataW H) → Bool := fun _ ds => decide (uptoBulkAll ds ≤ 1048576)
def OpenSpec.upto (s : _root_.Go.ChangeSpec) : _root_.Go.OpenSpec := { _root_.Go.OpenSpec.ofChange s with cond := some uptoSmall }

/-- 'laws.FnExactFirstHandle', WHERE WHAT IT READS IS OF BULK AT MOST 1048576: true; the input reads as it did. -/
def fnExactFirstHandleUptoRow : OpenClaim := { program := "ytckdhnpnkgmikaa", sum := "6b3b9c7931946a21857ece9eac4e92c4bcc5a222359c90188f3824f761abc13b", func := "loop.example/g01205/laws.FnExactFirstHandle", spec := "fnExactFirstHandle", apart := false, narrowed := true }
def FnExactFirstHandleUptoSaid : Prop := fnExactFirstHandleUptoRow.holds Try.pinned (OpenSpec.upto fnExactFirstHandleSpec)

/-- 'laws.FnExactReduceHandle', WHERE WHAT IT READS IS OF BULK AT MOST 1048576: true; the input reads as it did. -/
def fnExactReduceHandleUptoRow : OpenClaim := { program := "ytckdhnpnkgmikaa", sum := "6b3b9c7931946a21857ece9eac4e92c4bcc5a222359c90188f3824f761abc13b", func := "loop.example/g01205/laws.FnExactReduceHandle", spec := "fnExactReduceHandle", apart := false, narrowed := true }
def FnExactReduceHandleUptoSaid : Prop := fnExactReduceHandleUptoRow.holds Try.pinned (OpenSpec.upto fnExactReduceHandleSpec)

/-- 'laws.FnExactWordSign', WHERE WHAT IT READS IS OF BULK AT MOST 1048576: true; the input reads as it did. -/
def fnExactWordSignUptoRow : OpenClaim := { program := "ytckdhnpnkgmikaa", sum := "6b3b9c7931946a21857ece9eac4e92c4bcc5a222359c90188f3824f761abc13b", func := "loop.example/g01205/laws.FnExactWordSign", spec := "fnExactWordSign", apart := false, narrowed := true }
def FnExactWordSignUptoSaid : Prop := fnExactWordSignUptoRow.holds Try.pinned (OpenSpec.upto fnExactWordSignSpec)

/-- 'laws.FnExactInverseOf', WHERE WHAT IT READS IS OF BULK AT MOST 1048576: true; the input reads as it did. -/
def fnExactInverseOfUptoRow : OpenClaim := { program := "ytckdhnpnkgmikaa", sum := "6b3b9c7931946a21857ece9eac4e92c4bcc5a222359c90188f3824f761abc13b", func := "loop.example/g01205/laws.FnExactInverseOf", spec := "fnExactInverseOf", unfollowed := true, recurses := true, apart := false, narrowed := true }
def FnExactInverseOfUptoSaid : Prop := fnExactInverseOfUptoRow.holds Try.pinned (OpenSpec.upto fnExactInverseOfSpec)

/-- 'laws.FnExactProductOf', WHERE WHAT IT READS IS OF BULK AT MOST 1048576: true; the input reads as it did. -/
def fnExactProductOfUptoRow : OpenClaim := { program := "ytckdhnpnkgmikaa", sum := "6b3b9c7931946a21857ece9eac4e92c4bcc5a222359c90188f3824f761abc13b", func := "loop.example/g01205/laws.FnExactProductOf", spec := "fnExactProductOf", apart := false, narrowed := true }
def FnExactProductOfUptoSaid : Prop := fnExactProductOfUptoRow.holds Try.pinned (OpenSpec.upto fnExactProductOfSpec)

/-- 'laws.FnExactPowerOf', WHERE WHAT IT READS IS OF BULK AT MOST 1048576: true; the input reads as it did. -/
def fnExactPowerOfUptoRow : OpenClaim := { program := "ytckdhnpnkgmikaa", sum := "6b3b9c7931946a21857ece9eac4e92c4bcc5a222359c90188f3824f761abc13b", func := "loop.example/g01205/laws.FnExactPowerOf", spec := "fnExactPowerOf", unfollowed := true, recurses := true, apart := false, narrowed := true }
def FnExactPowerOfUptoSaid : Prop := fnExactPowerOfUptoRow.holds Try.pinned (OpenSpec.upto fnExactPowerOfSpec)

end Rows
end Go.Proofs.Ytckdhnpnkgmikaa
