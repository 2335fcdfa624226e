/-
  DERIVED. GIVEN WITH THE SEED: THE CARDS: each row of YtgmdplhaofhliaaDoorRows.lean that lists a variable, with what it lists TIED to the program's text (the seventh form; the later family's looks); each row that meets fmt, with fmt's text TOLD by the authors' own Lean function (tested against real Go, not proved from fmt's source: count such statements apart). THE CARD IS WHAT COUNTS. Prove the row's statement (the work); the ties are given (YtgmdplhaofhliaaDoorTie.lean); close each card by the builder's one call (the guide's Derived/Test/ToyasCard.lean, 'card_holds'). Laid BY PROGRAM, IN A SANDBOX (cutbox-door.mjs). By AI agents, Wed Nov 11 2026. No macro, syntax, notation, axiom, sorry.
-/
import Derived.Test.YtgmdplhaofhliaaDoorRows
import GoSem.ClaimSeven
namespace Go.Proofs.YtgmdplhaofhliaaDoor
namespace Rows

/-- THE TIED CARD OF 'laws.FnExactMergeJournals'. -/
def fnExactMergeJournalsCard : Claim7 := { stood := { row := fnExactMergeJournalsRow, standIns := [], harness := (true, "be1a633887efc416b4c8c2cb4cd68acefda15308202e97da1eed37635ca08aa5"), looks := true }, kinds := [], alts := [], laidByText := true, laidKinds := [.sentinel], laidTests := true, laidLooks := .later }
def FnExactMergeJournalsCardSaid : Prop := Claim7.holds Tryd.pinned (.plain (OpenSpec.ofChange fnExactMergeJournalsSpec)) fnExactMergeJournalsCard

/-- THE TIED CARD OF 'laws.FnExactFormatEvent'. -/
def fnExactFormatEventCard : Claim7 := { stood := { row := fnExactFormatEventRow, standIns := [], harness := (true, "be1a633887efc416b4c8c2cb4cd68acefda15308202e97da1eed37635ca08aa5"), looks := true }, kinds := [], alts := [], laidByText := true, laidKinds := [.data, .data, .data], laidTests := true, laidLooks := .later }
def FnExactFormatEventCardSaid : Prop := Claim7.holds Tryd.pinned (.plain (OpenSpec.ofChange fnExactFormatEventSpec)) fnExactFormatEventCard

/-- THE SECOND FORM's CARD OF 'laws.FnExactMergeJournals'. -/
def fnExactMergeJournalsUptoCard : Claim7 := { stood := { row := fnExactMergeJournalsUptoRow, standIns := [], harness := (true, "be1a633887efc416b4c8c2cb4cd68acefda15308202e97da1eed37635ca08aa5"), looks := true }, kinds := [], alts := [], laidByText := true, laidKinds := [.sentinel], laidTests := true, laidLooks := .later }
def FnExactMergeJournalsUptoCardSaid : Prop := Claim7.holds Tryd.pinned (.plain (OpenSpec.upto fnExactMergeJournalsSpec)) fnExactMergeJournalsUptoCard

/-- THE SECOND FORM's CARD OF 'laws.FnExactFormatEvent'. -/
def fnExactFormatEventUptoCard : Claim7 := { stood := { row := fnExactFormatEventUptoRow, standIns := [], harness := (true, "be1a633887efc416b4c8c2cb4cd68acefda15308202e97da1eed37635ca08aa5"), looks := true }, kinds := [], alts := [], laidByText := true, laidKinds := [.data, .data, .data], laidTests := true, laidLooks := .later }
def FnExactFormatEventUptoCardSaid : Prop := Claim7.holds Tryd.pinned (.plain (OpenSpec.upto fnExactFormatEventSpec)) fnExactFormatEventUptoCard
end Rows
end Go.Proofs.YtgmdplhaofhliaaDoor
