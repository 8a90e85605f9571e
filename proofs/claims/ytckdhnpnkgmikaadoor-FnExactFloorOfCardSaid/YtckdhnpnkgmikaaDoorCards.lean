/-
  DERIVED. GIVEN WITH THE SEED: THE CARDS: each row of YtckdhnpnkgmikaaDoorRows.lean that lists a variable, with what it lists TIED to the program's text (the seventh form; the later family's looks); each row that meets fmt, with fmt's text TOLD by the authors' own Lean function (tested against real Go, not proved from fmt's source: count such statements apart). THE CARD IS WHAT COUNTS. Prove the row's statement (the work); the ties are given (YtckdhnpnkgmikaaDoorTie.lean); close each card by the builder's one call (the guide's Derived/Test/ToyasCard.lean, 'card_holds'). Laid BY PROGRAM, IN A SANDBOX (cutbox-door.mjs). By AI agents, Wed Nov 11 2026. No macro, syntax, notation, axiom, sorry.
-/
import Derived.Test.YtckdhnpnkgmikaaDoorRows
import GoSem.ClaimSeven
namespace Go.Proofs.YtckdhnpnkgmikaaDoor
namespace Rows

/-- THE TIED CARD OF 'laws.FnExactHandleFree'. -/
def fnExactHandleFreeCard : Claim7 := { stood := { row := fnExactHandleFreeRow, standIns := [], harness := (true, "166a3a6fffafbb26989d852002c8360bf1657d34faf07818fa32d2b3c3535793"), looks := true }, kinds := [], alts := [], laidByText := true, laidKinds := [.sentinel], laidTests := true, laidLooks := .later }
def FnExactHandleFreeCardSaid : Prop := Claim7.holds Tryd.pinned (.plain (OpenSpec.ofChange fnExactHandleFreeSpec)) fnExactHandleFreeCard

/-- THE TIED CARD OF 'laws.FnExactMainLetter'. -/
def fnExactMainLetterCard : Claim7 := { stood := { row := fnExactMainLetterRow, standIns := [], harness := (true, "166a3a6fffafbb26989d852002c8360bf1657d34faf07818fa32d2b3c3535793"), looks := true }, kinds := [], alts := [], laidByText := true, laidKinds := [.sentinel], laidTests := true, laidLooks := .later }
def FnExactMainLetterCardSaid : Prop := Claim7.holds Tryd.pinned (.plain (OpenSpec.ofChange fnExactMainLetterSpec)) fnExactMainLetterCard

/-- THE TIED CARD OF 'laws.FnExactIsTrivial'. -/
def fnExactIsTrivialCard : Claim7 := { stood := { row := fnExactIsTrivialRow, standIns := [], harness := (true, "166a3a6fffafbb26989d852002c8360bf1657d34faf07818fa32d2b3c3535793"), looks := true }, kinds := [], alts := [], laidByText := true, laidKinds := [.sentinel], laidTests := true, laidLooks := .later }
def FnExactIsTrivialCardSaid : Prop := Claim7.holds Tryd.pinned (.plain (OpenSpec.ofChange fnExactIsTrivialSpec)) fnExactIsTrivialCard

/-- THE TIED CARD OF 'laws.FnExactCompareBraids'. -/
def fnExactCompareBraidsCard : Claim7 := { stood := { row := fnExactCompareBraidsRow, standIns := [], harness := (true, "166a3a6fffafbb26989d852002c8360bf1657d34faf07818fa32d2b3c3535793"), looks := true }, kinds := [], alts := [], laidByText := true, laidKinds := [.sentinel], laidTests := true, laidLooks := .later }
def FnExactCompareBraidsCardSaid : Prop := Claim7.holds Tryd.pinned (.plain (OpenSpec.ofChange fnExactCompareBraidsSpec)) fnExactCompareBraidsCard

/-- THE TIED CARD OF 'laws.FnExactSortBraids'. -/
def fnExactSortBraidsCard : Claim7 := { stood := { row := fnExactSortBraidsRow, standIns := [], harness := (true, "166a3a6fffafbb26989d852002c8360bf1657d34faf07818fa32d2b3c3535793"), looks := true }, kinds := [], alts := [], laidByText := true, laidKinds := [.sentinel], laidTests := true, laidLooks := .later }
def FnExactSortBraidsCardSaid : Prop := Claim7.holds Tryd.pinned (.plain (OpenSpec.ofChange fnExactSortBraidsSpec)) fnExactSortBraidsCard

/-- THE TIED CARD OF 'laws.FnExactFloorOf'. -/
def fnExactFloorOfCard : Claim7 := { stood := { row := fnExactFloorOfRow, standIns := [], harness := (true, "166a3a6fffafbb26989d852002c8360bf1657d34faf07818fa32d2b3c3535793"), looks := true }, kinds := [], alts := [], laidByText := true, laidKinds := [.sentinel], laidTests := true, laidLooks := .later }
def FnExactFloorOfCardSaid : Prop := Claim7.holds Tryd.pinned (.plain (OpenSpec.ofChange fnExactFloorOfSpec)) fnExactFloorOfCard

/-- THE SECOND FORM's CARD OF 'laws.FnExactHandleFree'. -/
def fnExactHandleFreeUptoCard : Claim7 := { stood := { row := fnExactHandleFreeUptoRow, standIns := [], harness := (true, "166a3a6fffafbb26989d852002c8360bf1657d34faf07818fa32d2b3c3535793"), looks := true }, kinds := [], alts := [], laidByText := true, laidKinds := [.sentinel], laidTests := true, laidLooks := .later }
def FnExactHandleFreeUptoCardSaid : Prop := Claim7.holds Tryd.pinned (.plain (OpenSpec.upto fnExactHandleFreeSpec)) fnExactHandleFreeUptoCard

/-- THE SECOND FORM's CARD OF 'laws.FnExactMainLetter'. -/
def fnExactMainLetterUptoCard : Claim7 := { stood := { row := fnExactMainLetterUptoRow, standIns := [], harness := (true, "166a3a6fffafbb26989d852002c8360bf1657d34faf07818fa32d2b3c3535793"), looks := true }, kinds := [], alts := [], laidByText := true, laidKinds := [.sentinel], laidTests := true, laidLooks := .later }
def FnExactMainLetterUptoCardSaid : Prop := Claim7.holds Tryd.pinned (.plain (OpenSpec.upto fnExactMainLetterSpec)) fnExactMainLetterUptoCard

/-- THE SECOND FORM's CARD OF 'laws.FnExactIsTrivial'. -/
def fnExactIsTrivialUptoCard : Claim7 := { stood := { row := fnExactIsTrivialUptoRow, standIns := [], harness := (true, "166a3a6fffafbb26989d852002c8360bf1657d34faf07818fa32d2b3c3535793"), looks := true }, kinds := [], alts := [], laidByText := true, laidKinds := [.sentinel], laidTests := true, laidLooks := .later }
def FnExactIsTrivialUptoCardSaid : Prop := Claim7.holds Tryd.pinned (.plain (OpenSpec.upto fnExactIsTrivialSpec)) fnExactIsTrivialUptoCard

/-- THE SECOND FORM's CARD OF 'laws.FnExactCompareBraids'. -/
def fnExactCompareBraidsUptoCard : Claim7 := { stood := { row := fnExactCompareBraidsUptoRow, standIns := [], harness := (true, "166a3a6fffafbb26989d852002c8360bf1657d34faf07818fa32d2b3c3535793"), looks := true }, kinds := [], alts := [], laidByText := true, laidKinds := [.sentinel], laidTests := true, laidLooks := .later }
def FnExactCompareBraidsUptoCardSaid : Prop := Claim7.holds Tryd.pinned (.plain (OpenSpec.upto fnExactCompareBraidsSpec)) fnExactCompareBraidsUptoCard

/-- THE SECOND FORM's CARD OF 'laws.FnExactSortBraids'. -/
def fnExactSortBraidsUptoCard : Claim7 := { stood := { row := fnExactSortBraidsUptoRow, standIns := [], harness := (true, "166a3a6fffafbb26989d852002c8360bf1657d34faf07818fa32d2b3c3535793"), looks := true }, kinds := [], alts := [], laidByText := true, laidKinds := [.sentinel], laidTests := true, laidLooks := .later }
def FnExactSortBraidsUptoCardSaid : Prop := Claim7.holds Tryd.pinned (.plain (OpenSpec.upto fnExactSortBraidsSpec)) fnExactSortBraidsUptoCard

/-- THE SECOND FORM's CARD OF 'laws.FnExactFloorOf'. -/
def fnExactFloorOfUptoCard : Claim7 := { stood := { row := fnExactFloorOfUptoRow, standIns := [], harness := (true, "166a3a6fffafbb26989d852002c8360bf1657d34faf07818fa32d2b3c3535793"), looks := true }, kinds := [], alts := [], laidByText := true, laidKinds := [.sentinel], laidTests := true, laidLooks := .later }
def FnExactFloorOfUptoCardSaid : Prop := Claim7.holds Tryd.pinned (.plain (OpenSpec.upto fnExactFloorOfSpec)) fnExactFloorOfUptoCard
end Rows
end Go.Proofs.YtckdhnpnkgmikaaDoor
