/-
  NARROWER THAN 'FOR EVERY INPUT', by the rows' own cells (each row's printed sentence says how): FnMerges: ifaces, laid · FnContradictions: ifaces, laid.
  DERIVED. THE GIVEN ROWS OF THIS SEAT. 2 by the template 'for every input the law returns true; each argument reads behind the call as it read before'; 0 by the template 'total and deterministic' (their statements: YtfmegkkllebgfaaDoorTotals.lean).
  GIVEN WITH THE SEED: the statements are not yours to turn. If you find one false, say at which input.
  Laid BY PROGRAM, IN A SANDBOX (cutbox-rows.mjs): the forced cells as the released guide's own fill.sh prints them over the translation b8ce2b5a20b51210… (all of the seat's roots in one cut). By AI agents, Wed Nov 11 2026. No macro, syntax, notation, axiom, sorry.
-/
import Derived.Test.YtfmegkkllebgfaaDoorChecked
import GoSem.Claim
import GoSem.ClaimJoined
import GoSem.ClaimMapViews
import Derived.JoinedTies
import Derived.KernelRfl
namespace Go.Proofs.YtfmegkkllebgfaaDoor
/- THE CELL 'sum', in the pinned program and in every row, IS THE sha256 OF THE DUMP (.gsa) THAT YtfmegkkllebgfaaDoorProg.lean LOADS. Nothing in Lean hashes anything: it is a label: what it is worth is what the hold of that sum in a sandbox is worth. -/
noncomputable def Tryd.pinned : Pinned := { name := "ytfmegkkllebgfaadoor", sum := "b8ce2b5a20b5121002eb36c8016c72124881dd2c621e9d95425fe71af976f7eb", checked := Tryd.checked }
namespace Rows
def none {H : Type} : Left H := { results := [], args := [] }

/- WHAT THE LISTED PACKAGE-LEVEL VARIABLES READ AS WHEN THE CALL BEGINS. Each datum BY PROGRAM (the guide's laid-datum.mjs) off the statement by which the dump's own 'gosem.cut.vars' lays the variable. In a bare row this is a premise. The card (YtfmegkkllebgfaaDoorCards.lean) ties it to the program's text. -/
def laid_loop_example_g03318_impl_errContradiction {H : Type} : DataW H := .iface "*errors.errorString" (.ptr (.agg [.lit (.string [116, 119, 111, 32, 100, 105, 102, 102, 101, 114, 101, 110, 116, 32, 101, 118, 101, 110, 116, 115, 32, 104, 97, 118, 101, 32, 116, 104, 101, 32, 115, 97, 109, 101, 32, 110, 111, 100, 101, 32, 97, 110, 100, 32, 110, 117, 109, 98, 101, 114])]))

/-- 'laws.FnMerges': WHATEVER THE INPUT: true; the input reads as it did. -/
def fnMergesSpec : ChangeSpec := { name := "fnMerges", vars := ["loop.example/g03318/impl.errContradiction"], fn := fun _ => fun
  | [d, g1] => { results := [.lit (.bool true)], args := [d], vars := [g1] }
  | _ => none }
def fnMergesRow : OpenClaim := { program := "ytfmegkkllebgfaadoor", sum := "b8ce2b5a20b5121002eb36c8016c72124881dd2c621e9d95425fe71af976f7eb", func := "loop.example/g03318/laws.FnMerges", spec := "fnMerges", inPlace := ["internal/reflectlite.TypeOf"], unfollowed := true, recurses := true, named := ["loop.example/g03318/impl.errContradiction"], ifaces := true, plainKeys := false, apart := false, laid := [("loop.example/g03318/impl.errContradiction", laid_loop_example_g03318_impl_errContradiction)] }
def FnMergesSaid : Prop := fnMergesRow.holds Tryd.pinned (OpenSpec.ofChange fnMergesSpec)

/-- ITS FALSE NEIGHBOUR: 'it returns false'. Refute it at one input. -/
def fnMergesWrong : ChangeSpec := { name := "fnMerges", vars := ["loop.example/g03318/impl.errContradiction"], fn := fun _ => fun
  | [d, g1] => { results := [.lit (.bool false)], args := [d], vars := [g1] }
  | _ => none }
def FnMergesWrongFalsely : Prop := fnMergesRow.holds Tryd.pinned (OpenSpec.ofChange fnMergesWrong)

/-- 'laws.FnContradictions': WHATEVER THE INPUT: true; the input reads as it did. -/
def fnContradictionsSpec : ChangeSpec := { name := "fnContradictions", vars := ["loop.example/g03318/impl.errContradiction"], fn := fun _ => fun
  | [d, g1] => { results := [.lit (.bool true)], args := [d], vars := [g1] }
  | _ => none }
def fnContradictionsRow : OpenClaim := { program := "ytfmegkkllebgfaadoor", sum := "b8ce2b5a20b5121002eb36c8016c72124881dd2c621e9d95425fe71af976f7eb", func := "loop.example/g03318/laws.FnContradictions", spec := "fnContradictions", inPlace := ["internal/reflectlite.TypeOf"], unfollowed := true, recurses := true, named := ["loop.example/g03318/impl.errContradiction"], ifaces := true, plainKeys := false, apart := false, laid := [("loop.example/g03318/impl.errContradiction", laid_loop_example_g03318_impl_errContradiction)] }
def FnContradictionsSaid : Prop := fnContradictionsRow.holds Tryd.pinned (OpenSpec.ofChange fnContradictionsSpec)

/-- ITS FALSE NEIGHBOUR: 'it returns false'. Refute it at one input. -/
def fnContradictionsWrong : ChangeSpec := { name := "fnContradictions", vars := ["loop.example/g03318/impl.errContradiction"], fn := fun _ => fun
  | [d, g1] => { results := [.lit (.bool false)], args := [d], vars := [g1] }
  | _ => none }
def FnContradictionsWrongFalsely : Prop := fnContradictionsRow.holds Tryd.pinned (OpenSpec.ofChange fnContradictionsWrong)

/- THE SECOND FORM. 'bulk': how many values and letters a reading holds, each counted each time it is reached (what is shared counts as often as it is met; a slice's spare places count too). A statement '..UptoSaid' is the law's where the arguments, and the package variables that the reading takes, are together of bulk at most 1048576: NARROWER than '..Said'. Prove '..Said' where nothing that the law and all that it calls make is longer than what came in: it says more and counts as full. Else prove '..UptoSaid'. A law counts once. -/
mutual
def uptoBulk {H : Type} : DataW H → Nat
  | .lit (.string bytes) => bytes.length + 1
  | .lit _ => 1
  | .nil => 1
  | .ptr d => uptoBulk d + 1
  | .slice elems spare => uptoBulkAll elems + uptoBulkAll spare + 1
  | .agg parts => uptoBulkAll parts + 1
  | .iface _ d => uptoBulk d + 1
  | .map entries => uptoBulkEntries entries + 1
  | .held _ => 1
def uptoBulkAll {H : Type} : List (DataW H) → Nat
  | [] => 0
  | d :: r => uptoBulk d + uptoBulkAll r
def uptoBulkEntries {H : Type} : List (Lit × DataW H) → Nat
  | [] => 0
  | x :: r => uptoBulkEntry x + uptoBulkEntries r
def uptoBulkEntry {H : Type} : Lit × DataW H → Nat
  | (.string bytes, d) => bytes.length + uptoBulk d + 1
  | (_, d) => uptoBulk d + 1
 end
def uptoSmall : (H : Type) → List (DataW H) → Bool := fun _ ds => decide (uptoBulkAll ds ≤ 1048576)
def OpenSpec.upto (s : _root_.Go.ChangeSpec) : _root_.Go.OpenSpec := { _root_.Go.OpenSpec.ofChange s with cond := some uptoSmall }

/-- 'laws.FnMerges', WHERE WHAT IT READS IS OF BULK AT MOST 1048576: true; the input reads as it did. -/
def fnMergesUptoRow : OpenClaim := { program := "ytfmegkkllebgfaadoor", sum := "b8ce2b5a20b5121002eb36c8016c72124881dd2c621e9d95425fe71af976f7eb", func := "loop.example/g03318/laws.FnMerges", spec := "fnMerges", inPlace := ["internal/reflectlite.TypeOf"], unfollowed := true, recurses := true, named := ["loop.example/g03318/impl.errContradiction"], ifaces := true, plainKeys := false, apart := false, laid := [("loop.example/g03318/impl.errContradiction", laid_loop_example_g03318_impl_errContradiction)], narrowed := true }
def FnMergesUptoSaid : Prop := fnMergesUptoRow.holds Tryd.pinned (OpenSpec.upto fnMergesSpec)

/-- 'laws.FnContradictions', WHERE WHAT IT READS IS OF BULK AT MOST 1048576: true; the input reads as it did. -/
def fnContradictionsUptoRow : OpenClaim := { program := "ytfmegkkllebgfaadoor", sum := "b8ce2b5a20b5121002eb36c8016c72124881dd2c621e9d95425fe71af976f7eb", func := "loop.example/g03318/laws.FnContradictions", spec := "fnContradictions", inPlace := ["internal/reflectlite.TypeOf"], unfollowed := true, recurses := true, named := ["loop.example/g03318/impl.errContradiction"], ifaces := true, plainKeys := false, apart := false, laid := [("loop.example/g03318/impl.errContradiction", laid_loop_example_g03318_impl_errContradiction)], narrowed := true }
def FnContradictionsUptoSaid : Prop := fnContradictionsUptoRow.holds Tryd.pinned (OpenSpec.upto fnContradictionsSpec)

end Rows
end Go.Proofs.YtfmegkkllebgfaaDoor
