/-
  DERIVED. GIVEN WITH THE SEED: THE CARDS: each row of YtfmegkkllebgfaaDoorRows.lean that lists a variable, with what it lists TIED to the program's text (the seventh form; the later family's looks); each row that meets fmt, with fmt's text TOLD by the authors' own Lean function (tested against real Go, not proved from fmt's source: count such statements apart). THE CARD IS WHAT COUNTS. Prove the row's statement (the work); the ties are given (YtfmegkkllebgfaaDoorTie.lean); close each card by the builder's one call (the guide's Derived/Test/ToyasCard.lean, 'card_holds'). Laid BY PROGRAM, IN A SANDBOX (cutbox-door.mjs). By AI agents, Wed Nov 11 2026. No macro, syntax, notation, axiom, sorry.
-/
import Derived.Test.YtfmegkkllebgfaaDoorRows
import GoSem.ClaimSeven
namespace Go.Proofs.YtfmegkkllebgfaaDoor
namespace Rows

/-- THE TIED CARD OF 'laws.FnMerges'. -/
def fnMergesCard : Claim7 := { stood := { row := fnMergesRow, standIns := [], harness := (true, "f428ad45758e0a7a278b82bc9833b393419dd1e2f4dfb487ee4c9f373feacaa5"), looks := true }, kinds := [], alts := [], laidByText := true, laidKinds := [.sentinel], laidTests := true, laidLooks := .later }
def FnMergesCardSaid : Prop := Claim7.holds Tryd.pinned (.plain (OpenSpec.ofChange fnMergesSpec)) fnMergesCard

/-- THE TIED CARD OF 'laws.FnContradictions'. -/
def fnContradictionsCard : Claim7 := { stood := { row := fnContradictionsRow, standIns := [], harness := (true, "f428ad45758e0a7a278b82bc9833b393419dd1e2f4dfb487ee4c9f373feacaa5"), looks := true }, kinds := [], alts := [], laidByText := true, laidKinds := [.sentinel], laidTests := true, laidLooks := .later }
def FnContradictionsCardSaid : Prop := Claim7.holds Tryd.pinned (.plain (OpenSpec.ofChange fnContradictionsSpec)) fnContradictionsCard

/-- THE SECOND FORM's CARD OF 'laws.FnMerges'. -/
def fnMergesUptoCard : Claim7 := { stood := { row := fnMergesUptoRow, standIns := [], harness := (true, "f428ad45758e0a7a278b82bc9833b393419dd1e2f4dfb487ee4c9f373feacaa5"), looks := true }, kinds := [], alts := [], laidByText := true, laidKinds := [.sentinel], laidTests := true, laidLooks := .later }
def FnMergesUptoCardSaid : Prop := Claim7.holds Tryd.pinned (.plain (OpenSpec.upto fnMergesSpec)) fnMergesUptoCard

/-- THE SECOND FORM's CARD OF 'laws.FnContradictions'. -/
def fnContradictionsUptoCard : Claim7 := { stood := { row := fnContradictionsUptoRow, standIns := [], harness := (true, "f428ad45758e0a7a278b82bc9833b393419dd1e2f4dfb487ee4c9f373feacaa5"), looks := true }, kinds := [], alts := [], laidByText := true, laidKinds := [.sentinel], laidTests := true, laidLooks := .later }
def FnContradictionsUptoCardSaid : Prop := Claim7.holds Tryd.pinned (.plain (OpenSpec.upto fnContradictionsSpec)) fnContradictionsUptoCard
end Rows
end Go.Proofs.YtfmegkkllebgfaaDoor
