/-
  No cell of these rows narrows 'for every input' (looked for: loops, veiled, ifaces, maps, wideKeys, modest, calm, conditions, laid).
  DERIVED. THE GIVEN ROWS OF THIS SEAT. 11 by the template 'for every input the law returns true; each argument reads behind the call as it read before'; 0 by the template 'total and deterministic' (their statements: YthpmehhfhngnbaaTotals.lean).
  GIVEN WITH THE SEED: the statements are not yours to turn. If you find one false, say at which input.
  Laid BY PROGRAM, IN A SANDBOX (cutbox-rows.mjs): the forced cells as the released guide's own fill.sh prints them over the translation cbfbe5f80ca0ea84… (all of the seat's roots in one cut). By AI agents, Wed Nov 11 2026. No macro, syntax, notation, axiom, sorry.
-/
import Derived.Test.YthpmehhfhngnbaaChecked
import GoSem.Claim
import GoSem.ClaimJoined
import GoSem.ClaimMapViews
import Derived.JoinedTies
import Derived.KernelRfl
namespace Go.Proofs.Ythpmehhfhngnbaa
/- THE CELL 'sum', in the pinned program and in every row, IS THE sha256 OF THE DUMP (.gsa) THAT YthpmehhfhngnbaaProg.lean LOADS. Nothing in Lean hashes anything: it is a label: what it is worth is what the hold of that sum in a sandbox is worth. -/
noncomputable def Try.pinned : Pinned := { name := "ythpmehhfhngnbaa", sum := "cbfbe5f80ca0ea84347087716c3af5613cdfc41fbe04771466902e5fdaddef0f", checked := Try.checked }
namespace Rows
def none {H : Type} : Left H := { results := [], args := [] }

/-- 'laws.FnExactNormalOf': WHATEVER THE INPUT: true; the input reads as it did. -/
def fnExactNormalOfSpec : ChangeSpec := { name := "fnExactNormalOf", fn := fun _ => fun
  | [d] => { results := [.lit (.bool true)], args := [d] }
  | _ => none }
def fnExactNormalOfRow : OpenClaim := { program := "ythpmehhfhngnbaa", sum := "cbfbe5f80ca0ea84347087716c3af5613cdfc41fbe04771466902e5fdaddef0f", func := "loop.example/g01205/laws.FnExactNormalOf", spec := "fnExactNormalOf", unfollowed := true, recurses := true, apart := false }
def FnExactNormalOfSaid : Prop := fnExactNormalOfRow.holds Try.pinned (OpenSpec.ofChange fnExactNormalOfSpec)

/-- ITS FALSE NEIGHBOUR: 'it returns false'. Refute it at one input. -/
def fnExactNormalOfWrong : ChangeSpec := { name := "fnExactNormalOf", fn := fun _ => fun
  | [d] => { results := [.lit (.bool false)], args := [d] }
  | _ => none }
def FnExactNormalOfWrongFalsely : Prop := fnExactNormalOfRow.holds Try.pinned (OpenSpec.ofChange fnExactNormalOfWrong)

/-- 'laws.FnExactRightNormalOf': WHATEVER THE INPUT: true; the input reads as it did. -/
def fnExactRightNormalOfSpec : ChangeSpec := { name := "fnExactRightNormalOf", fn := fun _ => fun
  | [d] => { results := [.lit (.bool true)], args := [d] }
  | _ => none }
def fnExactRightNormalOfRow : OpenClaim := { program := "ythpmehhfhngnbaa", sum := "cbfbe5f80ca0ea84347087716c3af5613cdfc41fbe04771466902e5fdaddef0f", func := "loop.example/g01205/laws.FnExactRightNormalOf", spec := "fnExactRightNormalOf", unfollowed := true, recurses := true, apart := false }
def FnExactRightNormalOfSaid : Prop := fnExactRightNormalOfRow.holds Try.pinned (OpenSpec.ofChange fnExactRightNormalOfSpec)

/-- ITS FALSE NEIGHBOUR: 'it returns false'. Refute it at one input. -/
def fnExactRightNormalOfWrong : ChangeSpec := { name := "fnExactRightNormalOf", fn := fun _ => fun
  | [d] => { results := [.lit (.bool false)], args := [d] }
  | _ => none }
def FnExactRightNormalOfWrongFalsely : Prop := fnExactRightNormalOfRow.holds Try.pinned (OpenSpec.ofChange fnExactRightNormalOfWrong)

/-- 'laws.FnExactSameBraid': WHATEVER THE INPUT: true; the input reads as it did. -/
def fnExactSameBraidSpec : ChangeSpec := { name := "fnExactSameBraid", fn := fun _ => fun
  | [d1, d2] => { results := [.lit (.bool true)], args := [d1, d2] }
  | _ => none }
def fnExactSameBraidRow : OpenClaim := { program := "ythpmehhfhngnbaa", sum := "cbfbe5f80ca0ea84347087716c3af5613cdfc41fbe04771466902e5fdaddef0f", func := "loop.example/g01205/laws.FnExactSameBraid", spec := "fnExactSameBraid", unfollowed := true, recurses := true, apart := false }
def FnExactSameBraidSaid : Prop := fnExactSameBraidRow.holds Try.pinned (OpenSpec.ofChange fnExactSameBraidSpec)

/-- ITS FALSE NEIGHBOUR: 'it returns false'. Refute it at one input. -/
def fnExactSameBraidWrong : ChangeSpec := { name := "fnExactSameBraid", fn := fun _ => fun
  | [d1, d2] => { results := [.lit (.bool false)], args := [d1, d2] }
  | _ => none }
def FnExactSameBraidWrongFalsely : Prop := fnExactSameBraidRow.holds Try.pinned (OpenSpec.ofChange fnExactSameBraidWrong)

/-- 'laws.FnExactCommonBeginning': WHATEVER THE INPUT: true; the input reads as it did. -/
def fnExactCommonBeginningSpec : ChangeSpec := { name := "fnExactCommonBeginning", fn := fun _ => fun
  | [d1, d2] => { results := [.lit (.bool true)], args := [d1, d2] }
  | _ => none }
def fnExactCommonBeginningRow : OpenClaim := { program := "ythpmehhfhngnbaa", sum := "cbfbe5f80ca0ea84347087716c3af5613cdfc41fbe04771466902e5fdaddef0f", func := "loop.example/g01205/laws.FnExactCommonBeginning", spec := "fnExactCommonBeginning", unfollowed := true, recurses := true, apart := false }
def FnExactCommonBeginningSaid : Prop := fnExactCommonBeginningRow.holds Try.pinned (OpenSpec.ofChange fnExactCommonBeginningSpec)

/-- ITS FALSE NEIGHBOUR: 'it returns false'. Refute it at one input. -/
def fnExactCommonBeginningWrong : ChangeSpec := { name := "fnExactCommonBeginning", fn := fun _ => fun
  | [d1, d2] => { results := [.lit (.bool false)], args := [d1, d2] }
  | _ => none }
def FnExactCommonBeginningWrongFalsely : Prop := fnExactCommonBeginningRow.holds Try.pinned (OpenSpec.ofChange fnExactCommonBeginningWrong)

/-- 'laws.FnExactIsBeginningOf': WHATEVER THE INPUT: true; the input reads as it did. -/
def fnExactIsBeginningOfSpec : ChangeSpec := { name := "fnExactIsBeginningOf", fn := fun _ => fun
  | [d1, d2] => { results := [.lit (.bool true)], args := [d1, d2] }
  | _ => none }
def fnExactIsBeginningOfRow : OpenClaim := { program := "ythpmehhfhngnbaa", sum := "cbfbe5f80ca0ea84347087716c3af5613cdfc41fbe04771466902e5fdaddef0f", func := "loop.example/g01205/laws.FnExactIsBeginningOf", spec := "fnExactIsBeginningOf", unfollowed := true, recurses := true, apart := false }
def FnExactIsBeginningOfSaid : Prop := fnExactIsBeginningOfRow.holds Try.pinned (OpenSpec.ofChange fnExactIsBeginningOfSpec)

/-- ITS FALSE NEIGHBOUR: 'it returns false'. Refute it at one input. -/
def fnExactIsBeginningOfWrong : ChangeSpec := { name := "fnExactIsBeginningOf", fn := fun _ => fun
  | [d1, d2] => { results := [.lit (.bool false)], args := [d1, d2] }
  | _ => none }
def FnExactIsBeginningOfWrongFalsely : Prop := fnExactIsBeginningOfRow.holds Try.pinned (OpenSpec.ofChange fnExactIsBeginningOfWrong)

/-- 'laws.FnExactFractionOf': WHATEVER THE INPUT: true; the input reads as it did. -/
def fnExactFractionOfSpec : ChangeSpec := { name := "fnExactFractionOf", fn := fun _ => fun
  | [d] => { results := [.lit (.bool true)], args := [d] }
  | _ => none }
def fnExactFractionOfRow : OpenClaim := { program := "ythpmehhfhngnbaa", sum := "cbfbe5f80ca0ea84347087716c3af5613cdfc41fbe04771466902e5fdaddef0f", func := "loop.example/g01205/laws.FnExactFractionOf", spec := "fnExactFractionOf", unfollowed := true, recurses := true, apart := false }
def FnExactFractionOfSaid : Prop := fnExactFractionOfRow.holds Try.pinned (OpenSpec.ofChange fnExactFractionOfSpec)

/-- ITS FALSE NEIGHBOUR: 'it returns false'. Refute it at one input. -/
def fnExactFractionOfWrong : ChangeSpec := { name := "fnExactFractionOf", fn := fun _ => fun
  | [d] => { results := [.lit (.bool false)], args := [d] }
  | _ => none }
def FnExactFractionOfWrongFalsely : Prop := fnExactFractionOfRow.holds Try.pinned (OpenSpec.ofChange fnExactFractionOfWrong)

/-- 'laws.FnExactIsLaurent': WHATEVER THE INPUT: true; the input reads as it did. -/
def fnExactIsLaurentSpec : ChangeSpec := { name := "fnExactIsLaurent", fn := fun _ => fun
  | [d] => { results := [.lit (.bool true)], args := [d] }
  | _ => none }
def fnExactIsLaurentRow : OpenClaim := { program := "ythpmehhfhngnbaa", sum := "cbfbe5f80ca0ea84347087716c3af5613cdfc41fbe04771466902e5fdaddef0f", func := "loop.example/g01205/laws.FnExactIsLaurent", spec := "fnExactIsLaurent", apart := false }
def FnExactIsLaurentSaid : Prop := fnExactIsLaurentRow.holds Try.pinned (OpenSpec.ofChange fnExactIsLaurentSpec)

/-- ITS FALSE NEIGHBOUR: 'it returns false'. Refute it at one input. -/
def fnExactIsLaurentWrong : ChangeSpec := { name := "fnExactIsLaurent", fn := fun _ => fun
  | [d] => { results := [.lit (.bool false)], args := [d] }
  | _ => none }
def FnExactIsLaurentWrongFalsely : Prop := fnExactIsLaurentRow.holds Try.pinned (OpenSpec.ofChange fnExactIsLaurentWrong)

/-- 'laws.FnExactAddLaurents': WHATEVER THE INPUT: true; the input reads as it did. -/
def fnExactAddLaurentsSpec : ChangeSpec := { name := "fnExactAddLaurents", fn := fun _ => fun
  | [d1, d2] => { results := [.lit (.bool true)], args := [d1, d2] }
  | _ => none }
def fnExactAddLaurentsRow : OpenClaim := { program := "ythpmehhfhngnbaa", sum := "cbfbe5f80ca0ea84347087716c3af5613cdfc41fbe04771466902e5fdaddef0f", func := "loop.example/g01205/laws.FnExactAddLaurents", spec := "fnExactAddLaurents", inPlace := ["math/bits.Add64"], apart := false }
def FnExactAddLaurentsSaid : Prop := fnExactAddLaurentsRow.holds Try.pinned (OpenSpec.ofChange fnExactAddLaurentsSpec)

/-- ITS FALSE NEIGHBOUR: 'it returns false'. Refute it at one input. -/
def fnExactAddLaurentsWrong : ChangeSpec := { name := "fnExactAddLaurents", fn := fun _ => fun
  | [d1, d2] => { results := [.lit (.bool false)], args := [d1, d2] }
  | _ => none }
def FnExactAddLaurentsWrongFalsely : Prop := fnExactAddLaurentsRow.holds Try.pinned (OpenSpec.ofChange fnExactAddLaurentsWrong)

/-- 'laws.FnExactMultiplyLaurents': WHATEVER THE INPUT: true; the input reads as it did. -/
def fnExactMultiplyLaurentsSpec : ChangeSpec := { name := "fnExactMultiplyLaurents", fn := fun _ => fun
  | [d1, d2] => { results := [.lit (.bool true)], args := [d1, d2] }
  | _ => none }
def fnExactMultiplyLaurentsRow : OpenClaim := { program := "ythpmehhfhngnbaa", sum := "cbfbe5f80ca0ea84347087716c3af5613cdfc41fbe04771466902e5fdaddef0f", func := "loop.example/g01205/laws.FnExactMultiplyLaurents", spec := "fnExactMultiplyLaurents", inPlace := ["math/bits.Add64"], apart := false }
def FnExactMultiplyLaurentsSaid : Prop := fnExactMultiplyLaurentsRow.holds Try.pinned (OpenSpec.ofChange fnExactMultiplyLaurentsSpec)

/-- ITS FALSE NEIGHBOUR: 'it returns false'. Refute it at one input. -/
def fnExactMultiplyLaurentsWrong : ChangeSpec := { name := "fnExactMultiplyLaurents", fn := fun _ => fun
  | [d1, d2] => { results := [.lit (.bool false)], args := [d1, d2] }
  | _ => none }
def FnExactMultiplyLaurentsWrongFalsely : Prop := fnExactMultiplyLaurentsRow.holds Try.pinned (OpenSpec.ofChange fnExactMultiplyLaurentsWrong)

/-- 'laws.FnExactValueAtSign': WHATEVER THE INPUT: true; the input reads as it did. -/
def fnExactValueAtSignSpec : ChangeSpec := { name := "fnExactValueAtSign", fn := fun _ => fun
  | [d1, d2] => { results := [.lit (.bool true)], args := [d1, d2] }
  | _ => none }
def fnExactValueAtSignRow : OpenClaim := { program := "ythpmehhfhngnbaa", sum := "cbfbe5f80ca0ea84347087716c3af5613cdfc41fbe04771466902e5fdaddef0f", func := "loop.example/g01205/laws.FnExactValueAtSign", spec := "fnExactValueAtSign", apart := false }
def FnExactValueAtSignSaid : Prop := fnExactValueAtSignRow.holds Try.pinned (OpenSpec.ofChange fnExactValueAtSignSpec)

/-- ITS FALSE NEIGHBOUR: 'it returns false'. Refute it at one input. -/
def fnExactValueAtSignWrong : ChangeSpec := { name := "fnExactValueAtSign", fn := fun _ => fun
  | [d1, d2] => { results := [.lit (.bool false)], args := [d1, d2] }
  | _ => none }
def FnExactValueAtSignWrongFalsely : Prop := fnExactValueAtSignRow.holds Try.pinned (OpenSpec.ofChange fnExactValueAtSignWrong)

/-- 'laws.FnExactIsPalindrome': WHATEVER THE INPUT: true; the input reads as it did. -/
def fnExactIsPalindromeSpec : ChangeSpec := { name := "fnExactIsPalindrome", fn := fun _ => fun
  | [d] => { results := [.lit (.bool true)], args := [d] }
  | _ => none }
def fnExactIsPalindromeRow : OpenClaim := { program := "ythpmehhfhngnbaa", sum := "cbfbe5f80ca0ea84347087716c3af5613cdfc41fbe04771466902e5fdaddef0f", func := "loop.example/g01205/laws.FnExactIsPalindrome", spec := "fnExactIsPalindrome", apart := false }
def FnExactIsPalindromeSaid : Prop := fnExactIsPalindromeRow.holds Try.pinned (OpenSpec.ofChange fnExactIsPalindromeSpec)

/-- ITS FALSE NEIGHBOUR: 'it returns false'. Refute it at one input. -/
def fnExactIsPalindromeWrong : ChangeSpec := { name := "fnExactIsPalindrome", fn := fun _ => fun
  | [d] => { results := [.lit (.bool false)], args := [d] }
  | _ => none }
def FnExactIsPalindromeWrongFalsely : Prop := fnExactIsPalindromeRow.holds Try.pinned (OpenSpec.ofChange fnExactIsPalindromeWrong)

/- THE SECOND FORM. 'bulk': how many values and letters a reading holds, each counted each time it is reached (what is shared counts as often as it is met; a slice's spare places count too). A statement '..UptoSaid' is the law's where the arguments, and the package variables that the reading takes, are together of bulk at most 1048576: NARROWER than '..Said'. Prove '..Said' where nothing that the law and all that it calls make is longer than what came in: it says more and counts as full. Else prove '..UptoSaid'. A law counts once. -/
mutual
def uptoBulk {H : Type} : DataW H → Nat
  | .lit (.string bytes) => bytes.length + 1
  | .lit _ => 1
  | .nil => 1
  | .ptr d => uptoBulk d + 1
  | .slice elems spare => uptoBulkAll elems + uptoBulkAll spare + 1
  | .agg parts => uptoBulkAll parts + 1
  | .iface _ d => uptoBulk d + 1
  | .map entries => uptoBulkEntries entries + 1
  | .held _ => 1
def uptoBulkAll {H : Type} : List (DataW H) → Nat
  | [] => 0
  | d :: r => uptoBulk d + uptoBulkAll r
def uptoBulkEntries {H : Type} : List (Lit × DataW H) → Nat
  | [] => 0
  | x :: r => uptoBulkEntry x + uptoBulkEntries r
def uptoBulkEntry {H : Type} : Lit × DataW H → Nat
  | (.string bytes, d) => bytes.length + uptoBulk d + 1
  | (_, d) => uptoBulk d + 1
 end
def uptoSmall : (H : Type) → List (DataW H) → Bool := fun _ ds => decide (uptoBulkAll ds ≤ 1048576)
def OpenSpec.upto (s : _root_.Go.ChangeSpec) : _root_.Go.OpenSpec := { _root_.Go.OpenSpec.ofChange s with cond := some uptoSmall }

/-- 'laws.FnExactNormalOf', WHERE WHAT IT READS IS OF BULK AT MOST 1048576: true; the input reads as it did. -/
def fnExactNormalOfUptoRow : OpenClaim := { program := "ythpmehhfhngnbaa", sum := "cbfbe5f80ca0ea84347087716c3af5613cdfc41fbe04771466902e5fdaddef0f", func := "loop.example/g01205/laws.FnExactNormalOf", spec := "fnExactNormalOf", unfollowed := true, recurses := true, apart := false, narrowed := true }
def FnExactNormalOfUptoSaid : Prop := fnExactNormalOfUptoRow.holds Try.pinned (OpenSpec.upto fnExactNormalOfSpec)

/-- 'laws.FnExactRightNormalOf', WHERE WHAT IT READS IS OF BULK AT MOST 1048576: true; the input reads as it did. -/
def fnExactRightNormalOfUptoRow : OpenClaim := { program := "ythpmehhfhngnbaa", sum := "cbfbe5f80ca0ea84347087716c3af5613cdfc41fbe04771466902e5fdaddef0f", func := "loop.example/g01205/laws.FnExactRightNormalOf", spec := "fnExactRightNormalOf", unfollowed := true, recurses := true, apart := false, narrowed := true }
def FnExactRightNormalOfUptoSaid : Prop := fnExactRightNormalOfUptoRow.holds Try.pinned (OpenSpec.upto fnExactRightNormalOfSpec)

/-- 'laws.FnExactSameBraid', WHERE WHAT IT READS IS OF BULK AT MOST 1048576: true; the input reads as it did. -/
def fnExactSameBraidUptoRow : OpenClaim := { program := "ythpmehhfhngnbaa", sum := "cbfbe5f80ca0ea84347087716c3af5613cdfc41fbe04771466902e5fdaddef0f", func := "loop.example/g01205/laws.FnExactSameBraid", spec := "fnExactSameBraid", unfollowed := true, recurses := true, apart := false, narrowed := true }
def FnExactSameBraidUptoSaid : Prop := fnExactSameBraidUptoRow.holds Try.pinned (OpenSpec.upto fnExactSameBraidSpec)

/-- 'laws.FnExactCommonBeginning', WHERE WHAT IT READS IS OF BULK AT MOST 1048576: true; the input reads as it did. -/
def fnExactCommonBeginningUptoRow : OpenClaim := { program := "ythpmehhfhngnbaa", sum := "cbfbe5f80ca0ea84347087716c3af5613cdfc41fbe04771466902e5fdaddef0f", func := "loop.example/g01205/laws.FnExactCommonBeginning", spec := "fnExactCommonBeginning", unfollowed := true, recurses := true, apart := false, narrowed := true }
def FnExactCommonBeginningUptoSaid : Prop := fnExactCommonBeginningUptoRow.holds Try.pinned (OpenSpec.upto fnExactCommonBeginningSpec)

/-- 'laws.FnExactIsBeginningOf', WHERE WHAT IT READS IS OF BULK AT MOST 1048576: true; the input reads as it did. -/
def fnExactIsBeginningOfUptoRow : OpenClaim := { program := "ythpmehhfhngnbaa", sum := "cbfbe5f80ca0ea84347087716c3af5613cdfc41fbe04771466902e5fdaddef0f", func := "loop.example/g01205/laws.FnExactIsBeginningOf", spec := "fnExactIsBeginningOf", unfollowed := true, recurses := true, apart := false, narrowed := true }
def FnExactIsBeginningOfUptoSaid : Prop := fnExactIsBeginningOfUptoRow.holds Try.pinned (OpenSpec.upto fnExactIsBeginningOfSpec)

/-- 'laws.FnExactFractionOf', WHERE WHAT IT READS IS OF BULK AT MOST 1048576: true; the input reads as it did. -/
def fnExactFractionOfUptoRow : OpenClaim := { program := "ythpmehhfhngnbaa", sum := "cbfbe5f80ca0ea84347087716c3af5613cdfc41fbe04771466902e5fdaddef0f", func := "loop.example/g01205/laws.FnExactFractionOf", spec := "fnExactFractionOf", unfollowed := true, recurses := true, apart := false, narrowed := true }
def FnExactFractionOfUptoSaid : Prop := fnExactFractionOfUptoRow.holds Try.pinned (OpenSpec.upto fnExactFractionOfSpec)

/-- 'laws.FnExactIsLaurent', WHERE WHAT IT READS IS OF BULK AT MOST 1048576: true; the input reads as it did. -/
def fnExactIsLaurentUptoRow : OpenClaim := { program := "ythpmehhfhngnbaa", sum := "cbfbe5f80ca0ea84347087716c3af5613cdfc41fbe04771466902e5fdaddef0f", func := "loop.example/g01205/laws.FnExactIsLaurent", spec := "fnExactIsLaurent", apart := false, narrowed := true }
def FnExactIsLaurentUptoSaid : Prop := fnExactIsLaurentUptoRow.holds Try.pinned (OpenSpec.upto fnExactIsLaurentSpec)

/-- 'laws.FnExactAddLaurents', WHERE WHAT IT READS IS OF BULK AT MOST 1048576: true; the input reads as it did. -/
def fnExactAddLaurentsUptoRow : OpenClaim := { program := "ythpmehhfhngnbaa", sum := "cbfbe5f80ca0ea84347087716c3af5613cdfc41fbe04771466902e5fdaddef0f", func := "loop.example/g01205/laws.FnExactAddLaurents", spec := "fnExactAddLaurents", inPlace := ["math/bits.Add64"], apart := false, narrowed := true }
def FnExactAddLaurentsUptoSaid : Prop := fnExactAddLaurentsUptoRow.holds Try.pinned (OpenSpec.upto fnExactAddLaurentsSpec)

/-- 'laws.FnExactMultiplyLaurents', WHERE WHAT IT READS IS OF BULK AT MOST 1048576: true; the input reads as it did. -/
def fnExactMultiplyLaurentsUptoRow : OpenClaim := { program := "ythpmehhfhngnbaa", sum := "cbfbe5f80ca0ea84347087716c3af5613cdfc41fbe04771466902e5fdaddef0f", func := "loop.example/g01205/laws.FnExactMultiplyLaurents", spec := "fnExactMultiplyLaurents", inPlace := ["math/bits.Add64"], apart := false, narrowed := true }
def FnExactMultiplyLaurentsUptoSaid : Prop := fnExactMultiplyLaurentsUptoRow.holds Try.pinned (OpenSpec.upto fnExactMultiplyLaurentsSpec)

/-- 'laws.FnExactValueAtSign', WHERE WHAT IT READS IS OF BULK AT MOST 1048576: true; the input reads as it did. -/
def fnExactValueAtSignUptoRow : OpenClaim := { program := "ythpmehhfhngnbaa", sum := "cbfbe5f80ca0ea84347087716c3af5613cdfc41fbe04771466902e5fdaddef0f", func := "loop.example/g01205/laws.FnExactValueAtSign", spec := "fnExactValueAtSign", apart := false, narrowed := true }
def FnExactValueAtSignUptoSaid : Prop := fnExactValueAtSignUptoRow.holds Try.pinned (OpenSpec.upto fnExactValueAtSignSpec)

/-- 'laws.FnExactIsPalindrome', WHERE WHAT IT READS IS OF BULK AT MOST 1048576: true; the input reads as it did. -/
def fnExactIsPalindromeUptoRow : OpenClaim := { program := "ythpmehhfhngnbaa", sum := "cbfbe5f80ca0ea84347087716c3af5613cdfc41fbe04771466902e5fdaddef0f", func := "loop.example/g01205/laws.FnExactIsPalindrome", spec := "fnExactIsPalindrome", apart := false, narrowed := true }
def FnExactIsPalindromeUptoSaid : Prop := fnExactIsPalindromeUptoRow.holds Try.pinned (OpenSpec.upto fnExactIsPalindromeSpec)

end Rows
end Go.Proofs.Ythpmehhfhngnbaa
