/-
  DERIVED. GIVEN WITH THE SEED: THE CARDS: each row of YtdcejkompdbliaaDoorRows.lean that lists a variable, with what it lists TIED to the program's text (the seventh form; the later family's looks); each row that meets fmt, with fmt's text TOLD by the authors' own Lean function (tested against real Go, not proved from fmt's source: count such statements apart). THE CARD IS WHAT COUNTS. Prove the row's statement (the work); the ties are given (YtdcejkompdbliaaDoorTie.lean); close each card by the builder's one call (the guide's Derived/Test/ToyasCard.lean, 'card_holds'). Laid BY PROGRAM, IN A SANDBOX (cutbox-door.mjs). By AI agents, Wed Nov 11 2026. No macro, syntax, notation, axiom, sorry.
-/
import Derived.Test.YtdcejkompdbliaaDoorRows
import GoSem.ClaimSeven
namespace Go.Proofs.YtdcejkompdbliaaDoor
namespace Rows

/-- THE TIED CARD OF 'laws.FnDeltas'. -/
def fnDeltasCard : Claim7 := { stood := { row := fnDeltasRow, standIns := [], harness := (true, "1ac3b9de495757304642cf53d903b1e1a03393dcea39112ccb1e3153a923af3e"), looks := true }, kinds := [], alts := [], laidByText := true, laidKinds := [.sentinel], laidTests := true, laidLooks := .later }
def FnDeltasCardSaid : Prop := Claim7.holds Tryd.pinned (.plain (OpenSpec.ofChange fnDeltasSpec)) fnDeltasCard

/-- THE SECOND FORM's CARD OF 'laws.FnDeltas'. -/
def fnDeltasUptoCard : Claim7 := { stood := { row := fnDeltasUptoRow, standIns := [], harness := (true, "1ac3b9de495757304642cf53d903b1e1a03393dcea39112ccb1e3153a923af3e"), looks := true }, kinds := [], alts := [], laidByText := true, laidKinds := [.sentinel], laidTests := true, laidLooks := .later }
def FnDeltasUptoCardSaid : Prop := Claim7.holds Tryd.pinned (.plain (OpenSpec.upto fnDeltasSpec)) fnDeltasUptoCard
end Rows
end Go.Proofs.YtdcejkompdbliaaDoor
