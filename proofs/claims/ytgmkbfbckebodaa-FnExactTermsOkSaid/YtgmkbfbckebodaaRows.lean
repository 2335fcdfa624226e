/-
  No cell of these rows narrows 'for every input' (looked for: loops, veiled, ifaces, maps, wideKeys, modest, calm, conditions, laid).
  DERIVED. THE GIVEN ROWS OF THIS SEAT. 5 by the template 'for every input the law returns true; each argument reads behind the call as it read before'; 0 by the template 'total and deterministic' (their statements: YtgmkbfbckebodaaTotals.lean).
  GIVEN WITH THE SEED: the statements are not yours to turn. If you find one false, say at which input.
  Laid BY PROGRAM, IN A SANDBOX (cutbox-rows.mjs): the forced cells as the released guide's own fill.sh prints them over the translation fdb3c12f03201413… (all of the seat's roots in one cut). By AI agents, Wed Nov 11 2026. No macro, syntax, notation, axiom, sorry.
-/
import Derived.Test.YtgmkbfbckebodaaChecked
import GoSem.Claim
import GoSem.ClaimJoined
import GoSem.ClaimMapViews
import Derived.JoinedTies
import Derived.KernelRfl
namespace Go.Proofs.Ytgmkbfbckebodaa
/- THE CELL 'sum', in the pinned program and in every row, IS THE sha256 OF THE DUMP (.gsa) THAT YtgmkbfbckebodaaProg.lean LOADS. Nothing in Lean hashes anything: it is a label: what it is worth is what the hold of that sum in a sandbox is worth. -/
noncomputable def Try.pinned : Pinned := { name := "ytgmkbfbckebodaa", sum := "fdb3c12f032014133835c915e72d416f67e836f2d670bb06c7a66008b699d5e5", checked := Try.checked }
namespace Rows
def none {H : Type} : Left H := { results := [], args := [] }

/-- 'laws.FnExactTermsOk': WHATEVER THE INPUT: true; the input reads as it did. -/
def fnExactTermsOkSpec : ChangeSpec := { name := "fnExactTermsOk", fn := fun _ => fun
  | [d] => { results := [.lit (.bool true)], args := [d] }
  | _ => none }
def fnExactTermsOkRow : OpenClaim := { program := "ytgmkbfbckebodaa", sum := "fdb3c12f032014133835c915e72d416f67e836f2d670bb06c7a66008b699d5e5", func := "loop.example/g03318/laws.FnExactTermsOk", spec := "fnExactTermsOk", apart := false }
def FnExactTermsOkSaid : Prop := fnExactTermsOkRow.holds Try.pinned (OpenSpec.ofChange fnExactTermsOkSpec)

/-- ITS FALSE NEIGHBOUR: 'it returns false'. Refute it at one input. -/
def fnExactTermsOkWrong : ChangeSpec := { name := "fnExactTermsOk", fn := fun _ => fun
  | [d] => { results := [.lit (.bool false)], args := [d] }
  | _ => none }
def FnExactTermsOkWrongFalsely : Prop := fnExactTermsOkRow.holds Try.pinned (OpenSpec.ofChange fnExactTermsOkWrong)

/-- 'laws.FnExactDeadlineOf': WHATEVER THE INPUT: true; the input reads as it did. -/
def fnExactDeadlineOfSpec : ChangeSpec := { name := "fnExactDeadlineOf", fn := fun _ => fun
  | [d1, d2, d3, d4] => { results := [.lit (.bool true)], args := [d1, d2, d3, d4] }
  | _ => none }
def fnExactDeadlineOfRow : OpenClaim := { program := "ytgmkbfbckebodaa", sum := "fdb3c12f032014133835c915e72d416f67e836f2d670bb06c7a66008b699d5e5", func := "loop.example/g03318/laws.FnExactDeadlineOf", spec := "fnExactDeadlineOf", apart := false }
def FnExactDeadlineOfSaid : Prop := fnExactDeadlineOfRow.holds Try.pinned (OpenSpec.ofChange fnExactDeadlineOfSpec)

/-- ITS FALSE NEIGHBOUR: 'it returns false'. Refute it at one input. -/
def fnExactDeadlineOfWrong : ChangeSpec := { name := "fnExactDeadlineOf", fn := fun _ => fun
  | [d1, d2, d3, d4] => { results := [.lit (.bool false)], args := [d1, d2, d3, d4] }
  | _ => none }
def FnExactDeadlineOfWrongFalsely : Prop := fnExactDeadlineOfRow.holds Try.pinned (OpenSpec.ofChange fnExactDeadlineOfWrong)

/-- 'laws.FnExactFeeOf': WHATEVER THE INPUT: true; the input reads as it did. -/
def fnExactFeeOfSpec : ChangeSpec := { name := "fnExactFeeOf", fn := fun _ => fun
  | [d1, d2, d3, d4, d5, d6] => { results := [.lit (.bool true)], args := [d1, d2, d3, d4, d5, d6] }
  | _ => none }
def fnExactFeeOfRow : OpenClaim := { program := "ytgmkbfbckebodaa", sum := "fdb3c12f032014133835c915e72d416f67e836f2d670bb06c7a66008b699d5e5", func := "loop.example/g03318/laws.FnExactFeeOf", spec := "fnExactFeeOf", unfollowed := true, recurses := true, apart := false }
def FnExactFeeOfSaid : Prop := fnExactFeeOfRow.holds Try.pinned (OpenSpec.ofChange fnExactFeeOfSpec)

/-- ITS FALSE NEIGHBOUR: 'it returns false'. Refute it at one input. -/
def fnExactFeeOfWrong : ChangeSpec := { name := "fnExactFeeOf", fn := fun _ => fun
  | [d1, d2, d3, d4, d5, d6] => { results := [.lit (.bool false)], args := [d1, d2, d3, d4, d5, d6] }
  | _ => none }
def FnExactFeeOfWrongFalsely : Prop := fnExactFeeOfRow.holds Try.pinned (OpenSpec.ofChange fnExactFeeOfWrong)

/-- 'laws.FnExactFreeUntil': WHATEVER THE INPUT: true; the input reads as it did. -/
def fnExactFreeUntilSpec : ChangeSpec := { name := "fnExactFreeUntil", fn := fun _ => fun
  | [d1, d2, d3] => { results := [.lit (.bool true)], args := [d1, d2, d3] }
  | _ => none }
def fnExactFreeUntilRow : OpenClaim := { program := "ytgmkbfbckebodaa", sum := "fdb3c12f032014133835c915e72d416f67e836f2d670bb06c7a66008b699d5e5", func := "loop.example/g03318/laws.FnExactFreeUntil", spec := "fnExactFreeUntil", apart := false }
def FnExactFreeUntilSaid : Prop := fnExactFreeUntilRow.holds Try.pinned (OpenSpec.ofChange fnExactFreeUntilSpec)

/-- ITS FALSE NEIGHBOUR: 'it returns false'. Refute it at one input. -/
def fnExactFreeUntilWrong : ChangeSpec := { name := "fnExactFreeUntil", fn := fun _ => fun
  | [d1, d2, d3] => { results := [.lit (.bool false)], args := [d1, d2, d3] }
  | _ => none }
def FnExactFreeUntilWrongFalsely : Prop := fnExactFreeUntilRow.holds Try.pinned (OpenSpec.ofChange fnExactFreeUntilWrong)

/-- 'laws.FnExactOverdue': WHATEVER THE INPUT: true; the input reads as it did. -/
def fnExactOverdueSpec : ChangeSpec := { name := "fnExactOverdue", fn := fun _ => fun
  | [d1, d2, d3, d4, d5] => { results := [.lit (.bool true)], args := [d1, d2, d3, d4, d5] }
  | _ => none }
def fnExactOverdueRow : OpenClaim := { program := "ytgmkbfbckebodaa", sum := "fdb3c12f032014133835c915e72d416f67e836f2d670bb06c7a66008b699d5e5", func := "loop.example/g03318/laws.FnExactOverdue", spec := "fnExactOverdue", apart := false }
def FnExactOverdueSaid : Prop := fnExactOverdueRow.holds Try.pinned (OpenSpec.ofChange fnExactOverdueSpec)

/-- ITS FALSE NEIGHBOUR: 'it returns false'. Refute it at one input. -/
def fnExactOverdueWrong : ChangeSpec := { name := "fnExactOverdue", fn := fun _ => fun
  | [d1, d2, d3, d4, d5] => { results := [.lit (.bool false)], args := [d1, d2, d3, d4, d5] }
  | _ => none }
def FnExactOverdueWrongFalsely : Prop := fnExactOverdueRow.holds Try.pinned (OpenSpec.ofChange fnExactOverdueWrong)

/- THE SECOND FORM. 'bulk': how many values and letters a reading holds, each counted each time it is reached (what is shared counts as often as it is met; a slice's spare places count too). A statement '..UptoSaid' is the law's where the arguments, and the package variables that the reading takes, are together of bulk at most 1048576: NARROWER than '..Said'. Prove '..Said' where nothing that the law and all that it calls make is longer than what came in: it says more and counts as full. Else prove '..UptoSaid'. A law counts once. -/
mutual
def uptoBulk {H : Type} : DataW H → Nat
  | .lit (.string bytes) => bytes.length + 1
  | .lit _ => 1
  | .nil => 1
  | .ptr d => uptoBulk d + 1
  | .slice elems spare => uptoBulkAll elems + uptoBulkAll spare + 1
  | .agg parts => uptoBulkAll parts + 1
  | .iface _ d => uptoBulk d + 1
  | .map entries => uptoBulkEntries entries + 1
  | .held _ => 1
def uptoBulkAll {H : Type} : List (DataW H) → Nat
  | [] => 0
  | d :: r => uptoBulk d + uptoBulkAll r
def uptoBulkEntries {H : Type} : List (Lit × DataW H) → Nat
  | [] => 0
  | x :: r => uptoBulkEntry x + uptoBulkEntries r
def uptoBulkEntry {H : Type} : Lit × DataW H → Nat
  | (.string bytes, d) => bytes.length + uptoBulk d + 1
  | (_, d) => uptoBulk d + 1
 end
def uptoSmall : (H : Type) → List (DataW H) → Bool := fun _ ds => decide (uptoBulkAll ds ≤ 1048576)
def OpenSpec.upto (s : _root_.Go.ChangeSpec) : _root_.Go.OpenSpec := { _root_.Go.OpenSpec.ofChange s with cond := some uptoSmall }

/-- 'laws.FnExactTermsOk', WHERE WHAT IT READS IS OF BULK AT MOST 1048576: true; the input reads as it did. -/
def fnExactTermsOkUptoRow : OpenClaim := { program := "ytgmkbfbckebodaa", sum := "fdb3c12f032014133835c915e72d416f67e836f2d670bb06c7a66008b699d5e5", func := "loop.example/g03318/laws.FnExactTermsOk", spec := "fnExactTermsOk", apart := false, narrowed := true }
def FnExactTermsOkUptoSaid : Prop := fnExactTermsOkUptoRow.holds Try.pinned (OpenSpec.upto fnExactTermsOkSpec)

/-- 'laws.FnExactDeadlineOf', WHERE WHAT IT READS IS OF BULK AT MOST 1048576: true; the input reads as it did. -/
def fnExactDeadlineOfUptoRow : OpenClaim := { program := "ytgmkbfbckebodaa", sum := "fdb3c12f032014133835c915e72d416f67e836f2d670bb06c7a66008b699d5e5", func := "loop.example/g03318/laws.FnExactDeadlineOf", spec := "fnExactDeadlineOf", apart := false, narrowed := true }
def FnExactDeadlineOfUptoSaid : Prop := fnExactDeadlineOfUptoRow.holds Try.pinned (OpenSpec.upto fnExactDeadlineOfSpec)

/-- 'laws.FnExactFeeOf', WHERE WHAT IT READS IS OF BULK AT MOST 1048576: true; the input reads as it did. -/
def fnExactFeeOfUptoRow : OpenClaim := { program := "ytgmkbfbckebodaa", sum := "fdb3c12f032014133835c915e72d416f67e836f2d670bb06c7a66008b699d5e5", func := "loop.example/g03318/laws.FnExactFeeOf", spec := "fnExactFeeOf", unfollowed := true, recurses := true, apart := false, narrowed := true }
def FnExactFeeOfUptoSaid : Prop := fnExactFeeOfUptoRow.holds Try.pinned (OpenSpec.upto fnExactFeeOfSpec)

/-- 'laws.FnExactFreeUntil', WHERE WHAT IT READS IS OF BULK AT MOST 1048576: true; the input reads as it did. -/
def fnExactFreeUntilUptoRow : OpenClaim := { program := "ytgmkbfbckebodaa", sum := "fdb3c12f032014133835c915e72d416f67e836f2d670bb06c7a66008b699d5e5", func := "loop.example/g03318/laws.FnExactFreeUntil", spec := "fnExactFreeUntil", apart := false, narrowed := true }
def FnExactFreeUntilUptoSaid : Prop := fnExactFreeUntilUptoRow.holds Try.pinned (OpenSpec.upto fnExactFreeUntilSpec)

/-- 'laws.FnExactOverdue', WHERE WHAT IT READS IS OF BULK AT MOST 1048576: true; the input reads as it did. -/
def fnExactOverdueUptoRow : OpenClaim := { program := "ytgmkbfbckebodaa", sum := "fdb3c12f032014133835c915e72d416f67e836f2d670bb06c7a66008b699d5e5", func := "loop.example/g03318/laws.FnExactOverdue", spec := "fnExactOverdue", apart := false, narrowed := true }
def FnExactOverdueUptoSaid : Prop := fnExactOverdueUptoRow.holds Try.pinned (OpenSpec.upto fnExactOverdueSpec)

end Rows
end Go.Proofs.Ytgmkbfbckebodaa
