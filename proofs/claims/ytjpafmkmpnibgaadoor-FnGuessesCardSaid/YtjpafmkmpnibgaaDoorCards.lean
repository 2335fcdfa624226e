/-
  DERIVED. GIVEN WITH THE SEED: THE CARDS: each row of YtjpafmkmpnibgaaDoorRows.lean that lists a variable, with what it lists TIED to the program's text (the seventh form; the later family's looks); each row that meets fmt, with fmt's text TOLD by the authors' own Lean function (tested against real Go, not proved from fmt's source: count such statements apart). THE CARD IS WHAT COUNTS. Prove the row's statement (the work); the ties are given (YtjpafmkmpnibgaaDoorTie.lean); close each card by the builder's one call (the guide's Derived/Test/ToyasCard.lean, 'card_holds'). Laid BY PROGRAM, IN A SANDBOX (cutbox-door.mjs). By AI agents, Wed Nov 11 2026. No macro, syntax, notation, axiom, sorry.
-/
import Derived.Test.YtjpafmkmpnibgaaDoorRows
import GoSem.ClaimSeven
namespace Go.Proofs.YtjpafmkmpnibgaaDoor
namespace Rows

/-- THE TIED CARD OF 'laws.FnExactCodeOf'. -/
def fnExactCodeOfCard : Claim7 := { stood := { row := fnExactCodeOfRow, standIns := [], harness := (true, "fc66b648ac043cde54746d4478539f6ee67f936796d8c8fb7b65176c79f6ab5c"), looks := false }, kinds := [], alts := [], laidByText := true, laidKinds := [.data], laidTests := true, laidLooks := .later }
def FnExactCodeOfCardSaid : Prop := Claim7.holds Tryd.pinned (.plain (OpenSpec.ofChange fnExactCodeOfSpec)) fnExactCodeOfCard

/-- THE TIED CARD OF 'laws.FnExactMatchOf'. -/
def fnExactMatchOfCard : Claim7 := { stood := { row := fnExactMatchOfRow, standIns := [], harness := (true, "fc66b648ac043cde54746d4478539f6ee67f936796d8c8fb7b65176c79f6ab5c"), looks := false }, kinds := [], alts := [], laidByText := true, laidKinds := [.data], laidTests := true, laidLooks := .later }
def FnExactMatchOfCardSaid : Prop := Claim7.holds Tryd.pinned (.plain (OpenSpec.ofChange fnExactMatchOfSpec)) fnExactMatchOfCard

/-- THE TIED CARD OF 'laws.FnExactTry'. -/
def fnExactTryCard : Claim7 := { stood := { row := fnExactTryRow, standIns := [], harness := (true, "fc66b648ac043cde54746d4478539f6ee67f936796d8c8fb7b65176c79f6ab5c"), looks := false }, kinds := [], alts := [], laidByText := true, laidKinds := [.data], laidTests := true, laidLooks := .later }
def FnExactTryCardSaid : Prop := Claim7.holds Tryd.pinned (.plain (OpenSpec.ofChange fnExactTrySpec)) fnExactTryCard

/-- THE TIED CARD OF 'laws.FnExactResync'. -/
def fnExactResyncCard : Claim7 := { stood := { row := fnExactResyncRow, standIns := [], harness := (true, "fc66b648ac043cde54746d4478539f6ee67f936796d8c8fb7b65176c79f6ab5c"), looks := false }, kinds := [], alts := [], laidByText := true, laidKinds := [.data], laidTests := true, laidLooks := .later }
def FnExactResyncCardSaid : Prop := Claim7.holds Tryd.pinned (.plain (OpenSpec.ofChange fnExactResyncSpec)) fnExactResyncCard

/-- THE TIED CARD OF 'laws.FnExactPress'. -/
def fnExactPressCard : Claim7 := { stood := { row := fnExactPressRow, standIns := [], harness := (true, "fc66b648ac043cde54746d4478539f6ee67f936796d8c8fb7b65176c79f6ab5c"), looks := false }, kinds := [], alts := [], laidByText := true, laidKinds := [.data], laidTests := true, laidLooks := .later }
def FnExactPressCardSaid : Prop := Claim7.holds Tryd.pinned (.plain (OpenSpec.ofChange fnExactPressSpec)) fnExactPressCard

/-- THE TIED CARD OF 'laws.FnGuesses'. -/
def fnGuessesCard : Claim7 := { stood := { row := fnGuessesRow, standIns := [], harness := (true, "fc66b648ac043cde54746d4478539f6ee67f936796d8c8fb7b65176c79f6ab5c"), looks := false }, kinds := [], alts := [], laidByText := true, laidKinds := [.data], laidTests := true, laidLooks := .later }
def FnGuessesCardSaid : Prop := Claim7.holds Tryd.pinned (.plain (OpenSpec.ofChange fnGuessesSpec)) fnGuessesCard

/-- THE SECOND FORM's CARD OF 'laws.FnExactCodeOf'. -/
def fnExactCodeOfUptoCard : Claim7 := { stood := { row := fnExactCodeOfUptoRow, standIns := [], harness := (true, "fc66b648ac043cde54746d4478539f6ee67f936796d8c8fb7b65176c79f6ab5c"), looks := false }, kinds := [], alts := [], laidByText := true, laidKinds := [.data], laidTests := true, laidLooks := .later }
def FnExactCodeOfUptoCardSaid : Prop := Claim7.holds Tryd.pinned (.plain (OpenSpec.upto fnExactCodeOfSpec)) fnExactCodeOfUptoCard

/-- THE SECOND FORM's CARD OF 'laws.FnExactMatchOf'. -/
def fnExactMatchOfUptoCard : Claim7 := { stood := { row := fnExactMatchOfUptoRow, standIns := [], harness := (true, "fc66b648ac043cde54746d4478539f6ee67f936796d8c8fb7b65176c79f6ab5c"), looks := false }, kinds := [], alts := [], laidByText := true, laidKinds := [.data], laidTests := true, laidLooks := .later }
def FnExactMatchOfUptoCardSaid : Prop := Claim7.holds Tryd.pinned (.plain (OpenSpec.upto fnExactMatchOfSpec)) fnExactMatchOfUptoCard

/-- THE SECOND FORM's CARD OF 'laws.FnExactTry'. -/
def fnExactTryUptoCard : Claim7 := { stood := { row := fnExactTryUptoRow, standIns := [], harness := (true, "fc66b648ac043cde54746d4478539f6ee67f936796d8c8fb7b65176c79f6ab5c"), looks := false }, kinds := [], alts := [], laidByText := true, laidKinds := [.data], laidTests := true, laidLooks := .later }
def FnExactTryUptoCardSaid : Prop := Claim7.holds Tryd.pinned (.plain (OpenSpec.upto fnExactTrySpec)) fnExactTryUptoCard

/-- THE SECOND FORM's CARD OF 'laws.FnExactResync'. -/
def fnExactResyncUptoCard : Claim7 := { stood := { row := fnExactResyncUptoRow, standIns := [], harness := (true, "fc66b648ac043cde54746d4478539f6ee67f936796d8c8fb7b65176c79f6ab5c"), looks := false }, kinds := [], alts := [], laidByText := true, laidKinds := [.data], laidTests := true, laidLooks := .later }
def FnExactResyncUptoCardSaid : Prop := Claim7.holds Tryd.pinned (.plain (OpenSpec.upto fnExactResyncSpec)) fnExactResyncUptoCard

/-- THE SECOND FORM's CARD OF 'laws.FnExactPress'. -/
def fnExactPressUptoCard : Claim7 := { stood := { row := fnExactPressUptoRow, standIns := [], harness := (true, "fc66b648ac043cde54746d4478539f6ee67f936796d8c8fb7b65176c79f6ab5c"), looks := false }, kinds := [], alts := [], laidByText := true, laidKinds := [.data], laidTests := true, laidLooks := .later }
def FnExactPressUptoCardSaid : Prop := Claim7.holds Tryd.pinned (.plain (OpenSpec.upto fnExactPressSpec)) fnExactPressUptoCard

/-- THE SECOND FORM's CARD OF 'laws.FnGuesses'. -/
def fnGuessesUptoCard : Claim7 := { stood := { row := fnGuessesUptoRow, standIns := [], harness := (true, "fc66b648ac043cde54746d4478539f6ee67f936796d8c8fb7b65176c79f6ab5c"), looks := false }, kinds := [], alts := [], laidByText := true, laidKinds := [.data], laidTests := true, laidLooks := .later }
def FnGuessesUptoCardSaid : Prop := Claim7.holds Tryd.pinned (.plain (OpenSpec.upto fnGuessesSpec)) fnGuessesUptoCard
end Rows
end Go.Proofs.YtjpafmkmpnibgaaDoor
