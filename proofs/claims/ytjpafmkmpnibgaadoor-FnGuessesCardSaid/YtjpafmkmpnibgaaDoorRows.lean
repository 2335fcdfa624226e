/-
  NARROWER THAN 'FOR EVERY INPUT', by the rows' own cells (each row's printed sentence says how): FnExactCodeOf: laid · FnExactMatchOf: laid · FnExactTry: laid · FnExactResync: laid · FnExactPress: laid · FnGuesses: laid.
  DERIVED. THE GIVEN ROWS OF THIS SEAT. 6 by the template 'for every input the law returns true; each argument reads behind the call as it read before'; 0 by the template 'total and deterministic' (their statements: YtjpafmkmpnibgaaDoorTotals.lean).
  GIVEN WITH THE SEED: the statements are not yours to turn. If you find one false, say at which input.
  Laid BY PROGRAM, IN A SANDBOX (cutbox-rows.mjs): the forced cells as the released guide's own fill.sh prints them over the translation 3146aca6ee45c5ea… (all of the seat's roots in one cut). By AI agents, Wed Nov 11 2026. No macro, syntax, notation, axiom, sorry.
-/
import Derived.Test.YtjpafmkmpnibgaaDoorChecked
import GoSem.Claim
import GoSem.ClaimJoined
import GoSem.ClaimMapViews
import Derived.JoinedTies
import Derived.KernelRfl
namespace Go.Proofs.YtjpafmkmpnibgaaDoor
/- THE CELL 'sum', in the pinned program and in every row, IS THE sha256 OF THE DUMP (.gsa) THAT YtjpafmkmpnibgaaDoorProg.lean LOADS. Nothing in Lean hashes anything: it is a label: what it is worth is what the hold of that sum in a sandbox is worth. -/
noncomputable def Tryd.pinned : Pinned := { name := "ytjpafmkmpnibgaadoor", sum := "3146aca6ee45c5ea05ff979d3a2a0411d1e7363ca0f07acb7b7f3ed0ea680aca", checked := Tryd.checked }
namespace Rows
def none {H : Type} : Left H := { results := [], args := [] }

/- WHAT THE LISTED PACKAGE-LEVEL VARIABLES READ AS WHEN THE CALL BEGINS. Each datum BY PROGRAM (the guide's laid-datum.mjs) off the statement by which the dump's own 'gosem.cut.vars' lays the variable. In a bare row this is a premise. The card (YtjpafmkmpnibgaaDoorCards.lean) ties it to the program's text. -/
def laid_loop_example_g03318_impl_rounds {H : Type} : DataW H := .agg [.lit (.int .i64 48271), .lit (.int .i64 48271), .lit (.int .i64 48271)]

/-- 'laws.FnExactCodeOf': WHATEVER THE INPUT: true; the input reads as it did. -/
def fnExactCodeOfSpec : ChangeSpec := { name := "fnExactCodeOf", vars := ["loop.example/g03318/impl.rounds"], fn := fun _ => fun
  | [d1, d2, g1] => { results := [.lit (.bool true)], args := [d1, d2], vars := [g1] }
  | _ => none }
def fnExactCodeOfRow : OpenClaim := { program := "ytjpafmkmpnibgaadoor", sum := "3146aca6ee45c5ea05ff979d3a2a0411d1e7363ca0f07acb7b7f3ed0ea680aca", func := "loop.example/g03318/laws.FnExactCodeOf", spec := "fnExactCodeOf", named := ["loop.example/g03318/impl.rounds"], apart := false, laid := [("loop.example/g03318/impl.rounds", laid_loop_example_g03318_impl_rounds)] }
def FnExactCodeOfSaid : Prop := fnExactCodeOfRow.holds Tryd.pinned (OpenSpec.ofChange fnExactCodeOfSpec)

/-- ITS FALSE NEIGHBOUR: 'it returns false'. Refute it at one input. -/
def fnExactCodeOfWrong : ChangeSpec := { name := "fnExactCodeOf", vars := ["loop.example/g03318/impl.rounds"], fn := fun _ => fun
  | [d1, d2, g1] => { results := [.lit (.bool false)], args := [d1, d2], vars := [g1] }
  | _ => none }
def FnExactCodeOfWrongFalsely : Prop := fnExactCodeOfRow.holds Tryd.pinned (OpenSpec.ofChange fnExactCodeOfWrong)

/-- 'laws.FnExactMatchOf': WHATEVER THE INPUT: true; the input reads as it did. -/
def fnExactMatchOfSpec : ChangeSpec := { name := "fnExactMatchOf", vars := ["loop.example/g03318/impl.rounds"], fn := fun _ => fun
  | [d1, d2, g1] => { results := [.lit (.bool true)], args := [d1, d2], vars := [g1] }
  | _ => none }
def fnExactMatchOfRow : OpenClaim := { program := "ytjpafmkmpnibgaadoor", sum := "3146aca6ee45c5ea05ff979d3a2a0411d1e7363ca0f07acb7b7f3ed0ea680aca", func := "loop.example/g03318/laws.FnExactMatchOf", spec := "fnExactMatchOf", named := ["loop.example/g03318/impl.rounds"], apart := false, laid := [("loop.example/g03318/impl.rounds", laid_loop_example_g03318_impl_rounds)] }
def FnExactMatchOfSaid : Prop := fnExactMatchOfRow.holds Tryd.pinned (OpenSpec.ofChange fnExactMatchOfSpec)

/-- ITS FALSE NEIGHBOUR: 'it returns false'. Refute it at one input. -/
def fnExactMatchOfWrong : ChangeSpec := { name := "fnExactMatchOf", vars := ["loop.example/g03318/impl.rounds"], fn := fun _ => fun
  | [d1, d2, g1] => { results := [.lit (.bool false)], args := [d1, d2], vars := [g1] }
  | _ => none }
def FnExactMatchOfWrongFalsely : Prop := fnExactMatchOfRow.holds Tryd.pinned (OpenSpec.ofChange fnExactMatchOfWrong)

/-- 'laws.FnExactTry': WHATEVER THE INPUT: true; the input reads as it did. -/
def fnExactTrySpec : ChangeSpec := { name := "fnExactTry", vars := ["loop.example/g03318/impl.rounds"], fn := fun _ => fun
  | [d1, d2, d3, g1] => { results := [.lit (.bool true)], args := [d1, d2, d3], vars := [g1] }
  | _ => none }
def fnExactTryRow : OpenClaim := { program := "ytjpafmkmpnibgaadoor", sum := "3146aca6ee45c5ea05ff979d3a2a0411d1e7363ca0f07acb7b7f3ed0ea680aca", func := "loop.example/g03318/laws.FnExactTry", spec := "fnExactTry", named := ["loop.example/g03318/impl.rounds"], apart := false, laid := [("loop.example/g03318/impl.rounds", laid_loop_example_g03318_impl_rounds)] }
def FnExactTrySaid : Prop := fnExactTryRow.holds Tryd.pinned (OpenSpec.ofChange fnExactTrySpec)

/-- ITS FALSE NEIGHBOUR: 'it returns false'. Refute it at one input. -/
def fnExactTryWrong : ChangeSpec := { name := "fnExactTry", vars := ["loop.example/g03318/impl.rounds"], fn := fun _ => fun
  | [d1, d2, d3, g1] => { results := [.lit (.bool false)], args := [d1, d2, d3], vars := [g1] }
  | _ => none }
def FnExactTryWrongFalsely : Prop := fnExactTryRow.holds Tryd.pinned (OpenSpec.ofChange fnExactTryWrong)

/-- 'laws.FnExactResync': WHATEVER THE INPUT: true; the input reads as it did. -/
def fnExactResyncSpec : ChangeSpec := { name := "fnExactResync", vars := ["loop.example/g03318/impl.rounds"], fn := fun _ => fun
  | [d1, d2, d3, d4, g1] => { results := [.lit (.bool true)], args := [d1, d2, d3, d4], vars := [g1] }
  | _ => none }
def fnExactResyncRow : OpenClaim := { program := "ytjpafmkmpnibgaadoor", sum := "3146aca6ee45c5ea05ff979d3a2a0411d1e7363ca0f07acb7b7f3ed0ea680aca", func := "loop.example/g03318/laws.FnExactResync", spec := "fnExactResync", named := ["loop.example/g03318/impl.rounds"], apart := false, laid := [("loop.example/g03318/impl.rounds", laid_loop_example_g03318_impl_rounds)] }
def FnExactResyncSaid : Prop := fnExactResyncRow.holds Tryd.pinned (OpenSpec.ofChange fnExactResyncSpec)

/-- ITS FALSE NEIGHBOUR: 'it returns false'. Refute it at one input. -/
def fnExactResyncWrong : ChangeSpec := { name := "fnExactResync", vars := ["loop.example/g03318/impl.rounds"], fn := fun _ => fun
  | [d1, d2, d3, d4, g1] => { results := [.lit (.bool false)], args := [d1, d2, d3, d4], vars := [g1] }
  | _ => none }
def FnExactResyncWrongFalsely : Prop := fnExactResyncRow.holds Tryd.pinned (OpenSpec.ofChange fnExactResyncWrong)

/-- 'laws.FnExactPress': WHATEVER THE INPUT: true; the input reads as it did. -/
def fnExactPressSpec : ChangeSpec := { name := "fnExactPress", vars := ["loop.example/g03318/impl.rounds"], fn := fun _ => fun
  | [d, g1] => { results := [.lit (.bool true)], args := [d], vars := [g1] }
  | _ => none }
def fnExactPressRow : OpenClaim := { program := "ytjpafmkmpnibgaadoor", sum := "3146aca6ee45c5ea05ff979d3a2a0411d1e7363ca0f07acb7b7f3ed0ea680aca", func := "loop.example/g03318/laws.FnExactPress", spec := "fnExactPress", named := ["loop.example/g03318/impl.rounds"], apart := false, laid := [("loop.example/g03318/impl.rounds", laid_loop_example_g03318_impl_rounds)] }
def FnExactPressSaid : Prop := fnExactPressRow.holds Tryd.pinned (OpenSpec.ofChange fnExactPressSpec)

/-- ITS FALSE NEIGHBOUR: 'it returns false'. Refute it at one input. -/
def fnExactPressWrong : ChangeSpec := { name := "fnExactPress", vars := ["loop.example/g03318/impl.rounds"], fn := fun _ => fun
  | [d, g1] => { results := [.lit (.bool false)], args := [d], vars := [g1] }
  | _ => none }
def FnExactPressWrongFalsely : Prop := fnExactPressRow.holds Tryd.pinned (OpenSpec.ofChange fnExactPressWrong)

/-- 'laws.FnGuesses': WHATEVER THE INPUT: true; the input reads as it did. -/
def fnGuessesSpec : ChangeSpec := { name := "fnGuesses", vars := ["loop.example/g03318/impl.rounds"], fn := fun _ => fun
  | [d, g1] => { results := [.lit (.bool true)], args := [d], vars := [g1] }
  | _ => none }
def fnGuessesRow : OpenClaim := { program := "ytjpafmkmpnibgaadoor", sum := "3146aca6ee45c5ea05ff979d3a2a0411d1e7363ca0f07acb7b7f3ed0ea680aca", func := "loop.example/g03318/laws.FnGuesses", spec := "fnGuesses", named := ["loop.example/g03318/impl.rounds"], apart := false, laid := [("loop.example/g03318/impl.rounds", laid_loop_example_g03318_impl_rounds)] }
def FnGuessesSaid : Prop := fnGuessesRow.holds Tryd.pinned (OpenSpec.ofChange fnGuessesSpec)

/-- ITS FALSE NEIGHBOUR: 'it returns false'. Refute it at one input. -/
def fnGuessesWrong : ChangeSpec := { name := "fnGuesses", vars := ["loop.example/g03318/impl.rounds"], fn := fun _ => fun
  | [d, g1] => { results := [.lit (.bool false)], args := [d], vars := [g1] }
  | _ => none }
def FnGuessesWrongFalsely : Prop := fnGuessesRow.holds Tryd.pinned (OpenSpec.ofChange fnGuessesWrong)

/- THE SECOND FORM. 'bulk': how many values and letters a reading holds, each counted each time it is reached (what is shared counts as often as it is met; a slice's spare places count too). A statement '..UptoSaid' is the law's where the arguments, and the package variables that the reading takes, are together of bulk at most 1048576: NARROWER than '..Said'. Prove '..Said' where nothing that the law and all that it calls make is longer than what came in: it says more and counts as full. Else prove '..UptoSaid'. A law counts once. -/
mutual
def uptoBulk {H : Type} : DataW H → Nat
  | .lit (.string bytes) => bytes.length + 1
  | .lit _ => 1
  | .nil => 1
  | .ptr d => uptoBulk d + 1
  | .slice elems spare => uptoBulkAll elems + uptoBulkAll spare + 1
  | .agg parts => uptoBulkAll parts + 1
  | .iface _ d => uptoBulk d + 1
  | .map entries => uptoBulkEntries entries + 1
  | .held _ => 1
def uptoBulkAll {H : Type} : List (DataW H) → Nat
  | [] => 0
  | d :: r => uptoBulk d + uptoBulkAll r
def uptoBulkEntries {H : Type} : List (Lit × DataW H) → Nat
  | [] => 0
  | x :: r => uptoBulkEntry x + uptoBulkEntries r
def uptoBulkEntry {H : Type} : Lit × DataW H → Nat
  | (.string bytes, d) => bytes.length + uptoBulk d + 1
  | (_, d) => uptoBulk d + 1
 end
def uptoSmall : (H : Type) → List (DataW H) → Bool := fun _ ds => decide (uptoBulkAll ds ≤ 1048576)
def OpenSpec.upto (s : _root_.Go.ChangeSpec) : _root_.Go.OpenSpec := { _root_.Go.OpenSpec.ofChange s with cond := some uptoSmall }

/-- 'laws.FnExactCodeOf', WHERE WHAT IT READS IS OF BULK AT MOST 1048576: true; the input reads as it did. -/
def fnExactCodeOfUptoRow : OpenClaim := { program := "ytjpafmkmpnibgaadoor", sum := "3146aca6ee45c5ea05ff979d3a2a0411d1e7363ca0f07acb7b7f3ed0ea680aca", func := "loop.example/g03318/laws.FnExactCodeOf", spec := "fnExactCodeOf", named := ["loop.example/g03318/impl.rounds"], apart := false, laid := [("loop.example/g03318/impl.rounds", laid_loop_example_g03318_impl_rounds)], narrowed := true }
def FnExactCodeOfUptoSaid : Prop := fnExactCodeOfUptoRow.holds Tryd.pinned (OpenSpec.upto fnExactCodeOfSpec)

/-- 'laws.FnExactMatchOf', WHERE WHAT IT READS IS OF BULK AT MOST 1048576: true; the input reads as it did. -/
def fnExactMatchOfUptoRow : OpenClaim := { program := "ytjpafmkmpnibgaadoor", sum := "3146aca6ee45c5ea05ff979d3a2a0411d1e7363ca0f07acb7b7f3ed0ea680aca", func := "loop.example/g03318/laws.FnExactMatchOf", spec := "fnExactMatchOf", named := ["loop.example/g03318/impl.rounds"], apart := false, laid := [("loop.example/g03318/impl.rounds", laid_loop_example_g03318_impl_rounds)], narrowed := true }
def FnExactMatchOfUptoSaid : Prop := fnExactMatchOfUptoRow.holds Tryd.pinned (OpenSpec.upto fnExactMatchOfSpec)

/-- 'laws.FnExactTry', WHERE WHAT IT READS IS OF BULK AT MOST 1048576: true; the input reads as it did. -/
def fnExactTryUptoRow : OpenClaim := { program := "ytjpafmkmpnibgaadoor", sum := "3146aca6ee45c5ea05ff979d3a2a0411d1e7363ca0f07acb7b7f3ed0ea680aca", func := "loop.example/g03318/laws.FnExactTry", spec := "fnExactTry", named := ["loop.example/g03318/impl.rounds"], apart := false, laid := [("loop.example/g03318/impl.rounds", laid_loop_example_g03318_impl_rounds)], narrowed := true }
def FnExactTryUptoSaid : Prop := fnExactTryUptoRow.holds Tryd.pinned (OpenSpec.upto fnExactTrySpec)

/-- 'laws.FnExactResync', WHERE WHAT IT READS IS OF BULK AT MOST 1048576: true; the input reads as it did. -/
def fnExactResyncUptoRow : OpenClaim := { program := "ytjpafmkmpnibgaadoor", sum := "3146aca6ee45c5ea05ff979d3a2a0411d1e7363ca0f07acb7b7f3ed0ea680aca", func := "loop.example/g03318/laws.FnExactResync", spec := "fnExactResync", named := ["loop.example/g03318/impl.rounds"], apart := false, laid := [("loop.example/g03318/impl.rounds", laid_loop_example_g03318_impl_rounds)], narrowed := true }
def FnExactResyncUptoSaid : Prop := fnExactResyncUptoRow.holds Tryd.pinned (OpenSpec.upto fnExactResyncSpec)

/-- 'laws.FnExactPress', WHERE WHAT IT READS IS OF BULK AT MOST 1048576: true; the input reads as it did. -/
def fnExactPressUptoRow : OpenClaim := { program := "ytjpafmkmpnibgaadoor", sum := "3146aca6ee45c5ea05ff979d3a2a0411d1e7363ca0f07acb7b7f3ed0ea680aca", func := "loop.example/g03318/laws.FnExactPress", spec := "fnExactPress", named := ["loop.example/g03318/impl.rounds"], apart := false, laid := [("loop.example/g03318/impl.rounds", laid_loop_example_g03318_impl_rounds)], narrowed := true }
def FnExactPressUptoSaid : Prop := fnExactPressUptoRow.holds Tryd.pinned (OpenSpec.upto fnExactPressSpec)

/-- 'laws.FnGuesses', WHERE WHAT IT READS IS OF BULK AT MOST 1048576: true; the input reads as it did. -/
def fnGuessesUptoRow : OpenClaim := { program := "ytjpafmkmpnibgaadoor", sum := "3146aca6ee45c5ea05ff979d3a2a0411d1e7363ca0f07acb7b7f3ed0ea680aca", func := "loop.example/g03318/laws.FnGuesses", spec := "fnGuesses", named := ["loop.example/g03318/impl.rounds"], apart := false, laid := [("loop.example/g03318/impl.rounds", laid_loop_example_g03318_impl_rounds)], narrowed := true }
def FnGuessesUptoSaid : Prop := fnGuessesUptoRow.holds Tryd.pinned (OpenSpec.upto fnGuessesSpec)

end Rows
end Go.Proofs.YtjpafmkmpnibgaaDoor
