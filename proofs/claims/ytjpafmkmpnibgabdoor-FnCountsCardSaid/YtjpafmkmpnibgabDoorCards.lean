/-
  DERIVED. GIVEN WITH THE SEED: THE CARDS: each row of YtjpafmkmpnibgabDoorRows.lean that lists a variable, with what it lists TIED to the program's text (the seventh form; the later family's looks); each row that meets fmt, with fmt's text TOLD by the authors' own Lean function (tested against real Go, not proved from fmt's source: count such statements apart). THE CARD IS WHAT COUNTS. Prove the row's statement (the work); the ties are given (YtjpafmkmpnibgabDoorTie.lean); close each card by the builder's one call (the guide's Derived/Test/ToyasCard.lean, 'card_holds'). Laid BY PROGRAM, IN A SANDBOX (cutbox-door.mjs). By AI agents, Wed Nov 11 2026. No macro, syntax, notation, axiom, sorry.
-/
import Derived.Test.YtjpafmkmpnibgabDoorRows
import GoSem.ClaimSeven
namespace Go.Proofs.YtjpafmkmpnibgabDoor
namespace Rows

/-- THE TIED CARD OF 'laws.FnCounts'. -/
def fnCountsCard : Claim7 := { stood := { row := fnCountsRow, standIns := [], harness := (true, "be154e8d1a9c211d7c3ab5e4f19a666c54ac1561167cfe494380be9138e4820f"), looks := false }, kinds := [], alts := [], laidByText := true, laidKinds := [.data], laidTests := true, laidLooks := .later }
def FnCountsCardSaid : Prop := Claim7.holds Tryd.pinned (.plain (OpenSpec.ofChange fnCountsSpec)) fnCountsCard

/-- THE TIED CARD OF 'laws.FnPads'. -/
def fnPadsCard : Claim7 := { stood := { row := fnPadsRow, standIns := [], harness := (true, "be154e8d1a9c211d7c3ab5e4f19a666c54ac1561167cfe494380be9138e4820f"), looks := false }, kinds := [], alts := [], laidByText := true, laidKinds := [.data], laidTests := true, laidLooks := .later }
def FnPadsCardSaid : Prop := Claim7.holds Tryd.pinned (.plain (OpenSpec.ofChange fnPadsSpec)) fnPadsCard

/-- THE TIED CARD OF 'laws.FnResync'. -/
def fnResyncCard : Claim7 := { stood := { row := fnResyncRow, standIns := [], harness := (true, "be154e8d1a9c211d7c3ab5e4f19a666c54ac1561167cfe494380be9138e4820f"), looks := false }, kinds := [], alts := [], laidByText := true, laidKinds := [.data], laidTests := true, laidLooks := .later }
def FnResyncCardSaid : Prop := Claim7.holds Tryd.pinned (.plain (OpenSpec.ofChange fnResyncSpec)) fnResyncCard

/-- THE SECOND FORM's CARD OF 'laws.FnCounts'. -/
def fnCountsUptoCard : Claim7 := { stood := { row := fnCountsUptoRow, standIns := [], harness := (true, "be154e8d1a9c211d7c3ab5e4f19a666c54ac1561167cfe494380be9138e4820f"), looks := false }, kinds := [], alts := [], laidByText := true, laidKinds := [.data], laidTests := true, laidLooks := .later }
def FnCountsUptoCardSaid : Prop := Claim7.holds Tryd.pinned (.plain (OpenSpec.upto fnCountsSpec)) fnCountsUptoCard

/-- THE SECOND FORM's CARD OF 'laws.FnPads'. -/
def fnPadsUptoCard : Claim7 := { stood := { row := fnPadsUptoRow, standIns := [], harness := (true, "be154e8d1a9c211d7c3ab5e4f19a666c54ac1561167cfe494380be9138e4820f"), looks := false }, kinds := [], alts := [], laidByText := true, laidKinds := [.data], laidTests := true, laidLooks := .later }
def FnPadsUptoCardSaid : Prop := Claim7.holds Tryd.pinned (.plain (OpenSpec.upto fnPadsSpec)) fnPadsUptoCard

/-- THE SECOND FORM's CARD OF 'laws.FnResync'. -/
def fnResyncUptoCard : Claim7 := { stood := { row := fnResyncUptoRow, standIns := [], harness := (true, "be154e8d1a9c211d7c3ab5e4f19a666c54ac1561167cfe494380be9138e4820f"), looks := false }, kinds := [], alts := [], laidByText := true, laidKinds := [.data], laidTests := true, laidLooks := .later }
def FnResyncUptoCardSaid : Prop := Claim7.holds Tryd.pinned (.plain (OpenSpec.upto fnResyncSpec)) fnResyncUptoCard
end Rows
end Go.Proofs.YtjpafmkmpnibgabDoor
