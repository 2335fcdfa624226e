/-
  No cell of these rows narrows 'for every input' (looked for: loops, veiled, ifaces, maps, wideKeys, modest, calm, conditions, laid).
  DERIVED. THE GIVEN ROWS OF THIS SEAT. 5 by the template 'for every input the law returns true; each argument reads behind the call as it read before'; 0 by the template 'total and deterministic' (their statements: YtpoiebebnpelhaaTotals.lean).
  GIVEN WITH THE SEED: the statements are not yours to turn. If you find one false, say at which input.
  Laid BY PROGRAM, IN A SANDBOX (cutbox-rows.mjs): the forced cells as the released guide's own fill.sh prints them over the translation 70aca82a6abbd9c5… (all of the seat's roots in one cut). By AI agents, Wed Nov 11 2026. No macro, syntax, notation, axiom, sorry.
-/
import Derived.Test.YtpoiebebnpelhaaChecked
import GoSem.Claim
import GoSem.ClaimJoined
import GoSem.ClaimMapViews
import Derived.JoinedTies
import Derived.KernelRfl
namespace Go.Proofs.Ytpoiebebnpelhaa
/- THE CELL 'sum', in the pinned program and in every row, IS THE sha256 OF THE DUMP (.gsa) THAT YtpoiebebnpelhaaProg.lean LOADS. Nothing in Lean hashes anything: it is a label: what it is worth is what the hold of that sum in a sandbox is worth. -/
noncomputable def Try.pinned : Pinned := { name := "ytpoiebebnpelhaa", sum := "70aca82a6abbd9c5c30bdecbfd1439d890dad88163b7150057581f06f2d519e0", checked := Try.checked }
namespace Rows
def none {H : Type} : Left H := { results := [], args := [] }

/-- 'laws.FnExactBankGaps': WHATEVER THE INPUT: true; the input reads as it did. -/
def fnExactBankGapsSpec : ChangeSpec := { name := "fnExactBankGaps", fn := fun _ => fun
  | [d] => { results := [.lit (.bool true)], args := [d] }
  | _ => none }
def fnExactBankGapsRow : OpenClaim := { program := "ytpoiebebnpelhaa", sum := "70aca82a6abbd9c5c30bdecbfd1439d890dad88163b7150057581f06f2d519e0", func := "loop.example/g03318/laws.FnExactBankGaps", spec := "fnExactBankGaps", unfollowed := true, recurses := true, apart := false }
def FnExactBankGapsSaid : Prop := fnExactBankGapsRow.holds Try.pinned (OpenSpec.ofChange fnExactBankGapsSpec)

/-- ITS FALSE NEIGHBOUR: 'it returns false'. Refute it at one input. -/
def fnExactBankGapsWrong : ChangeSpec := { name := "fnExactBankGaps", fn := fun _ => fun
  | [d] => { results := [.lit (.bool false)], args := [d] }
  | _ => none }
def FnExactBankGapsWrongFalsely : Prop := fnExactBankGapsRow.holds Try.pinned (OpenSpec.ofChange fnExactBankGapsWrong)

/-- 'laws.FnExactBankFit': WHATEVER THE INPUT: true; the input reads as it did. -/
def fnExactBankFitSpec : ChangeSpec := { name := "fnExactBankFit", fn := fun _ => fun
  | [d1, d2] => { results := [.lit (.bool true)], args := [d1, d2] }
  | _ => none }
def fnExactBankFitRow : OpenClaim := { program := "ytpoiebebnpelhaa", sum := "70aca82a6abbd9c5c30bdecbfd1439d890dad88163b7150057581f06f2d519e0", func := "loop.example/g03318/laws.FnExactBankFit", spec := "fnExactBankFit", unfollowed := true, recurses := true, apart := false }
def FnExactBankFitSaid : Prop := fnExactBankFitRow.holds Try.pinned (OpenSpec.ofChange fnExactBankFitSpec)

/-- ITS FALSE NEIGHBOUR: 'it returns false'. Refute it at one input. -/
def fnExactBankFitWrong : ChangeSpec := { name := "fnExactBankFit", fn := fun _ => fun
  | [d1, d2] => { results := [.lit (.bool false)], args := [d1, d2] }
  | _ => none }
def FnExactBankFitWrongFalsely : Prop := fnExactBankFitRow.holds Try.pinned (OpenSpec.ofChange fnExactBankFitWrong)

/-- 'laws.FnExactBankPut': WHATEVER THE INPUT: true; the input reads as it did. -/
def fnExactBankPutSpec : ChangeSpec := { name := "fnExactBankPut", fn := fun _ => fun
  | [d1, d2, d3] => { results := [.lit (.bool true)], args := [d1, d2, d3] }
  | _ => none }
def fnExactBankPutRow : OpenClaim := { program := "ytpoiebebnpelhaa", sum := "70aca82a6abbd9c5c30bdecbfd1439d890dad88163b7150057581f06f2d519e0", func := "loop.example/g03318/laws.FnExactBankPut", spec := "fnExactBankPut", unfollowed := true, recurses := true, apart := false }
def FnExactBankPutSaid : Prop := fnExactBankPutRow.holds Try.pinned (OpenSpec.ofChange fnExactBankPutSpec)

/-- ITS FALSE NEIGHBOUR: 'it returns false'. Refute it at one input. -/
def fnExactBankPutWrong : ChangeSpec := { name := "fnExactBankPut", fn := fun _ => fun
  | [d1, d2, d3] => { results := [.lit (.bool false)], args := [d1, d2, d3] }
  | _ => none }
def FnExactBankPutWrongFalsely : Prop := fnExactBankPutRow.holds Try.pinned (OpenSpec.ofChange fnExactBankPutWrong)

/-- 'laws.FnExactBankTake': WHATEVER THE INPUT: true; the input reads as it did. -/
def fnExactBankTakeSpec : ChangeSpec := { name := "fnExactBankTake", fn := fun _ => fun
  | [d1, d2] => { results := [.lit (.bool true)], args := [d1, d2] }
  | _ => none }
def fnExactBankTakeRow : OpenClaim := { program := "ytpoiebebnpelhaa", sum := "70aca82a6abbd9c5c30bdecbfd1439d890dad88163b7150057581f06f2d519e0", func := "loop.example/g03318/laws.FnExactBankTake", spec := "fnExactBankTake", unfollowed := true, recurses := true, apart := false }
def FnExactBankTakeSaid : Prop := fnExactBankTakeRow.holds Try.pinned (OpenSpec.ofChange fnExactBankTakeSpec)

/-- ITS FALSE NEIGHBOUR: 'it returns false'. Refute it at one input. -/
def fnExactBankTakeWrong : ChangeSpec := { name := "fnExactBankTake", fn := fun _ => fun
  | [d1, d2] => { results := [.lit (.bool false)], args := [d1, d2] }
  | _ => none }
def FnExactBankTakeWrongFalsely : Prop := fnExactBankTakeRow.holds Try.pinned (OpenSpec.ofChange fnExactBankTakeWrong)

/-- 'laws.FnExactMostOf': WHATEVER THE INPUT: true; the input reads as it did. -/
def fnExactMostOfSpec : ChangeSpec := { name := "fnExactMostOf", fn := fun _ => fun
  | [d1, d2] => { results := [.lit (.bool true)], args := [d1, d2] }
  | _ => none }
def fnExactMostOfRow : OpenClaim := { program := "ytpoiebebnpelhaa", sum := "70aca82a6abbd9c5c30bdecbfd1439d890dad88163b7150057581f06f2d519e0", func := "loop.example/g03318/laws.FnExactMostOf", spec := "fnExactMostOf", unfollowed := true, recurses := true, apart := false }
def FnExactMostOfSaid : Prop := fnExactMostOfRow.holds Try.pinned (OpenSpec.ofChange fnExactMostOfSpec)

/-- ITS FALSE NEIGHBOUR: 'it returns false'. Refute it at one input. -/
def fnExactMostOfWrong : ChangeSpec := { name := "fnExactMostOf", fn := fun _ => fun
  | [d1, d2] => { results := [.lit (.bool false)], args := [d1, d2] }
  | _ => none }
def FnExactMostOfWrongFalsely : Prop := fnExactMostOfRow.holds Try.pinned (OpenSpec.ofChange fnExactMostOfWrong)

/- THE SECOND FORM. 'bulk': how many values and letters a reading holds, each counted each time it is reached (what is shared counts as often as it is met; a slice's spare places count too). A statement '..UptoSaid' is the law's where the arguments, and the package variables that the reading takes, are together of bulk at most 1048576: NARROWER than '..Said'. Prove '..Said' where nothing that the law and all that it calls make is longer than what came in: it says more and counts as full. Else prove '..UptoSaid'. A law counts once. -/
mutual
def uptoBulk {H : Type} : DataW H → Nat
  | .lit (.string bytes) => bytes.length + 1
  | .lit _ => 1
  | .nil => 1
  | .ptr d => uptoBulk d + 1
  | .slice elems spare => uptoBulkAll elems + uptoBulkAll spare + 1
  | .agg parts => uptoBulkAll parts + 1
  | .iface _ d => uptoBulk d + 1
  | .map entries => uptoBulkEntries entries + 1
  | .held _ => 1
def uptoBulkAll {H : Type} : List (DataW H) → Nat
  | [] => 0
  | d :: r => uptoBulk d + uptoBulkAll r
def uptoBulkEntries {H : Type} : List (Lit × DataW H) → Nat
  | [] => 0
  | x :: r => uptoBulkEntry x + uptoBulkEntries r
def uptoBulkEntry {H : Type} : Lit × DataW H → Nat
  | (.string bytes, d) => bytes.length + uptoBulk d + 1
  | (_, d) => uptoBulk d + 1
 end
def uptoSmall : (H : Type) → List (DataW H) → Bool := fun _ ds => decide (uptoBulkAll ds ≤ 1048576)
def OpenSpec.upto (s : _root_.Go.ChangeSpec) : _root_.Go.OpenSpec := { _root_.Go.OpenSpec.ofChange s with cond := some uptoSmall }

/-- 'laws.FnExactBankGaps', WHERE WHAT IT READS IS OF BULK AT MOST 1048576: true; the input reads as it did. -/
def fnExactBankGapsUptoRow : OpenClaim := { program := "ytpoiebebnpelhaa", sum := "70aca82a6abbd9c5c30bdecbfd1439d890dad88163b7150057581f06f2d519e0", func := "loop.example/g03318/laws.FnExactBankGaps", spec := "fnExactBankGaps", unfollowed := true, recurses := true, apart := false, narrowed := true }
def FnExactBankGapsUptoSaid : Prop := fnExactBankGapsUptoRow.holds Try.pinned (OpenSpec.upto fnExactBankGapsSpec)

/-- 'laws.FnExactBankFit', WHERE WHAT IT READS IS OF BULK AT MOST 1048576: true; the input reads as it did. -/
def fnExactBankFitUptoRow : OpenClaim := { program := "ytpoiebebnpelhaa", sum := "70aca82a6abbd9c5c30bdecbfd1439d890dad88163b7150057581f06f2d519e0", func := "loop.example/g03318/laws.FnExactBankFit", spec := "fnExactBankFit", unfollowed := true, recurses := true, apart := false, narrowed := true }
def FnExactBankFitUptoSaid : Prop := fnExactBankFitUptoRow.holds Try.pinned (OpenSpec.upto fnExactBankFitSpec)

/-- 'laws.FnExactBankPut', WHERE WHAT IT READS IS OF BULK AT MOST 1048576: true; the input reads as it did. -/
def fnExactBankPutUptoRow : OpenClaim := { program := "ytpoiebebnpelhaa", sum := "70aca82a6abbd9c5c30bdecbfd1439d890dad88163b7150057581f06f2d519e0", func := "loop.example/g03318/laws.FnExactBankPut", spec := "fnExactBankPut", unfollowed := true, recurses := true, apart := false, narrowed := true }
def FnExactBankPutUptoSaid : Prop := fnExactBankPutUptoRow.holds Try.pinned (OpenSpec.upto fnExactBankPutSpec)

/-- 'laws.FnExactBankTake', WHERE WHAT IT READS IS OF BULK AT MOST 1048576: true; the input reads as it did. -/
def fnExactBankTakeUptoRow : OpenClaim := { program := "ytpoiebebnpelhaa", sum := "70aca82a6abbd9c5c30bdecbfd1439d890dad88163b7150057581f06f2d519e0", func := "loop.example/g03318/laws.FnExactBankTake", spec := "fnExactBankTake", unfollowed := true, recurses := true, apart := false, narrowed := true }
def FnExactBankTakeUptoSaid : Prop := fnExactBankTakeUptoRow.holds Try.pinned (OpenSpec.upto fnExactBankTakeSpec)

/-- 'laws.FnExactMostOf', WHERE WHAT IT READS IS OF BULK AT MOST 1048576: true; the input reads as it did. -/
def fnExactMostOfUptoRow : OpenClaim := { program := "ytpoiebebnpelhaa", sum := "70aca82a6abbd9c5c30bdecbfd1439d890dad88163b7150057581f06f2d519e0", func := "loop.example/g03318/laws.FnExactMostOf", spec := "fnExactMostOf", unfollowed := true, recurses := true, apart := false, narrowed := true }
def FnExactMostOfUptoSaid : Prop := fnExactMostOfUptoRow.holds Try.pinned (OpenSpec.upto fnExactMostOfSpec)

end Rows
end Go.Proofs.Ytpoiebebnpelhaa
