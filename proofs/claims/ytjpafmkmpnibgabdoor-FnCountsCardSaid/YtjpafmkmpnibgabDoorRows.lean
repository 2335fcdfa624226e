/-
  NARROWER THAN 'FOR EVERY INPUT', by the rows' own cells (each row's printed sentence says how): FnCounts: laid · FnPads: laid · FnResync: laid.
  DERIVED. THE GIVEN ROWS OF THIS SEAT. 3 by the template 'for every input the law returns true; each argument reads behind the call as it read before'; 0 by the template 'total and deterministic' (their statements: YtjpafmkmpnibgabDoorTotals.lean).
  GIVEN WITH THE SEED: the statements are not yours to turn. If you find one false, say at which input.
  Laid BY PROGRAM, IN A SANDBOX (cutbox-rows.mjs): the forced cells as the released guide's own fill.sh prints them over the translation 4fbbf4781daa9fc1… (all of the seat's roots in one cut). By AI agents, Wed Nov 11 2026. No macro, syntax, notation, axiom, sorry.
-/
import Derived.Test.YtjpafmkmpnibgabDoorChecked
import GoSem.Claim
import GoSem.ClaimJoined
import GoSem.ClaimMapViews
import Derived.JoinedTies
import Derived.KernelRfl
namespace Go.Proofs.YtjpafmkmpnibgabDoor
/- THE CELL 'sum', in the pinned program and in every row, IS THE sha256 OF THE DUMP (.gsa) THAT YtjpafmkmpnibgabDoorProg.lean LOADS. Nothing in Lean hashes anything: it is a label: what it is worth is what the hold of that sum in a sandbox is worth. -/
noncomputable def Tryd.pinned : Pinned := { name := "ytjpafmkmpnibgabdoor", sum := "4fbbf4781daa9fc1314ebe176881f002fba3c307e3479fd048b2f359ea0e0580", checked := Tryd.checked }
namespace Rows
def none {H : Type} : Left H := { results := [], args := [] }

/- WHAT THE LISTED PACKAGE-LEVEL VARIABLES READ AS WHEN THE CALL BEGINS. Each datum BY PROGRAM (the guide's laid-datum.mjs) off the statement by which the dump's own 'gosem.cut.vars' lays the variable. In a bare row this is a premise. The card (YtjpafmkmpnibgabDoorCards.lean) ties it to the program's text. -/
def laid_loop_example_g03318_impl_rounds {H : Type} : DataW H := .agg [.lit (.int .i64 48271), .lit (.int .i64 48271), .lit (.int .i64 48271)]

/-- 'laws.FnCounts': WHATEVER THE INPUT: true; the input reads as it did. -/
def fnCountsSpec : ChangeSpec := { name := "fnCounts", vars := ["loop.example/g03318/impl.rounds"], fn := fun _ => fun
  | [d, g1] => { results := [.lit (.bool true)], args := [d], vars := [g1] }
  | _ => none }
def fnCountsRow : OpenClaim := { program := "ytjpafmkmpnibgabdoor", sum := "4fbbf4781daa9fc1314ebe176881f002fba3c307e3479fd048b2f359ea0e0580", func := "loop.example/g03318/laws.FnCounts", spec := "fnCounts", named := ["loop.example/g03318/impl.rounds"], apart := false, laid := [("loop.example/g03318/impl.rounds", laid_loop_example_g03318_impl_rounds)] }
def FnCountsSaid : Prop := fnCountsRow.holds Tryd.pinned (OpenSpec.ofChange fnCountsSpec)

/-- ITS FALSE NEIGHBOUR: 'it returns false'. Refute it at one input. -/
def fnCountsWrong : ChangeSpec := { name := "fnCounts", vars := ["loop.example/g03318/impl.rounds"], fn := fun _ => fun
  | [d, g1] => { results := [.lit (.bool false)], args := [d], vars := [g1] }
  | _ => none }
def FnCountsWrongFalsely : Prop := fnCountsRow.holds Tryd.pinned (OpenSpec.ofChange fnCountsWrong)

/-- 'laws.FnPads': WHATEVER THE INPUT: true; the input reads as it did. -/
def fnPadsSpec : ChangeSpec := { name := "fnPads", vars := ["loop.example/g03318/impl.rounds"], fn := fun _ => fun
  | [d, g1] => { results := [.lit (.bool true)], args := [d], vars := [g1] }
  | _ => none }
def fnPadsRow : OpenClaim := { program := "ytjpafmkmpnibgabdoor", sum := "4fbbf4781daa9fc1314ebe176881f002fba3c307e3479fd048b2f359ea0e0580", func := "loop.example/g03318/laws.FnPads", spec := "fnPads", named := ["loop.example/g03318/impl.rounds"], apart := false, laid := [("loop.example/g03318/impl.rounds", laid_loop_example_g03318_impl_rounds)] }
def FnPadsSaid : Prop := fnPadsRow.holds Tryd.pinned (OpenSpec.ofChange fnPadsSpec)

/-- ITS FALSE NEIGHBOUR: 'it returns false'. Refute it at one input. -/
def fnPadsWrong : ChangeSpec := { name := "fnPads", vars := ["loop.example/g03318/impl.rounds"], fn := fun _ => fun
  | [d, g1] => { results := [.lit (.bool false)], args := [d], vars := [g1] }
  | _ => none }
def FnPadsWrongFalsely : Prop := fnPadsRow.holds Tryd.pinned (OpenSpec.ofChange fnPadsWrong)

/-- 'laws.FnResync': WHATEVER THE INPUT: true; the input reads as it did. -/
def fnResyncSpec : ChangeSpec := { name := "fnResync", vars := ["loop.example/g03318/impl.rounds"], fn := fun _ => fun
  | [d, g1] => { results := [.lit (.bool true)], args := [d], vars := [g1] }
  | _ => none }
def fnResyncRow : OpenClaim := { program := "ytjpafmkmpnibgabdoor", sum := "4fbbf4781daa9fc1314ebe176881f002fba3c307e3479fd048b2f359ea0e0580", func := "loop.example/g03318/laws.FnResync", spec := "fnResync", named := ["loop.example/g03318/impl.rounds"], apart := false, laid := [("loop.example/g03318/impl.rounds", laid_loop_example_g03318_impl_rounds)] }
def FnResyncSaid : Prop := fnResyncRow.holds Tryd.pinned (OpenSpec.ofChange fnResyncSpec)

/-- ITS FALSE NEIGHBOUR: 'it returns false'. Refute it at one input. -/
def fnResyncWrong : ChangeSpec := { name := "fnResync", vars := ["loop.example/g03318/impl.rounds"], fn := fun _ => fun
  | [d, g1] => { results := [.lit (.bool false)], args := [d], vars := [g1] }
  | _ => none }
def FnResyncWrongFalsely : Prop := fnResyncRow.holds Tryd.pinned (OpenSpec.ofChange fnResyncWrong)

/- THE SECOND FORM. 'bulk': how many values and letters a reading holds, each counted each time it is reached (what is shared counts as often as it is met; a slice's spare places count too). A statement '..UptoSaid' is the law's where the arguments, and the package variables that the reading takes, are together of bulk at most 1048576: NARROWER than '..Said'. Prove '..Said' where nothing that the law and all that it calls make is longer than what came in: it says more and counts as full. Else prove '..UptoSaid'. A law counts once. -/
mutual
def uptoBulk {H : Type} : DataW H → Nat
  | .lit (.string bytes) => bytes.length + 1
  | .lit _ => 1
  | .nil => 1
  | .ptr d => uptoBulk d + 1
  | .slice elems spare => uptoBulkAll elems + uptoBulkAll spare + 1
  | .agg parts => uptoBulkAll parts + 1
  | .iface _ d => uptoBulk d + 1
  | .map entries => uptoBulkEntries entries + 1
  | .held _ => 1
def uptoBulkAll {H : Type} : List (DataW H) → Nat
  | [] => 0
  | d :: r => uptoBulk d + uptoBulkAll r
def uptoBulkEntries {H : Type} : List (Lit × DataW H) → Nat
  | [] => 0
  | x :: r => uptoBulkEntry x + uptoBulkEntries r
def uptoBulkEntry {H : Type} : Lit × DataW H → Nat
  | (.string bytes, d) => bytes.length + uptoBulk d + 1
  | (_, d) => uptoBulk d + 1
 end
def uptoSmall : (H : Type) → List (DataW H) → Bool := fun _ ds => decide (uptoBulkAll ds ≤ 1048576)
def OpenSpec.upto (s : _root_.Go.ChangeSpec) : _root_.Go.OpenSpec := { _root_.Go.OpenSpec.ofChange s with cond := some uptoSmall }

/-- 'laws.FnCounts', WHERE WHAT IT READS IS OF BULK AT MOST 1048576: true; the input reads as it did. -/
def fnCountsUptoRow : OpenClaim := { program := "ytjpafmkmpnibgabdoor", sum := "4fbbf4781daa9fc1314ebe176881f002fba3c307e3479fd048b2f359ea0e0580", func := "loop.example/g03318/laws.FnCounts", spec := "fnCounts", named := ["loop.example/g03318/impl.rounds"], apart := false, laid := [("loop.example/g03318/impl.rounds", laid_loop_example_g03318_impl_rounds)], narrowed := true }
def FnCountsUptoSaid : Prop := fnCountsUptoRow.holds Tryd.pinned (OpenSpec.upto fnCountsSpec)

/-- 'laws.FnPads', WHERE WHAT IT READS IS OF BULK AT MOST 1048576: true; the input reads as it did. -/
def fnPadsUptoRow : OpenClaim := { program := "ytjpafmkmpnibgabdoor", sum := "4fbbf4781daa9fc1314ebe176881f002fba3c307e3479fd048b2f359ea0e0580", func := "loop.example/g03318/laws.FnPads", spec := "fnPads", named := ["loop.example/g03318/impl.rounds"], apart := false, laid := [("loop.example/g03318/impl.rounds", laid_loop_example_g03318_impl_rounds)], narrowed := true }
def FnPadsUptoSaid : Prop := fnPadsUptoRow.holds Tryd.pinned (OpenSpec.upto fnPadsSpec)

/-- 'laws.FnResync', WHERE WHAT IT READS IS OF BULK AT MOST 1048576: true; the input reads as it did. -/
def fnResyncUptoRow : OpenClaim := { program := "ytjpafmkmpnibgabdoor", sum := "4fbbf4781daa9fc1314ebe176881f002fba3c307e3479fd048b2f359ea0e0580", func := "loop.example/g03318/laws.FnResync", spec := "fnResync", named := ["loop.example/g03318/impl.rounds"], apart := false, laid := [("loop.example/g03318/impl.rounds", laid_loop_example_g03318_impl_rounds)], narrowed := true }
def FnResyncUptoSaid : Prop := fnResyncUptoRow.holds Tryd.pinned (OpenSpec.upto fnResyncSpec)

end Rows
end Go.Proofs.YtjpafmkmpnibgabDoor
