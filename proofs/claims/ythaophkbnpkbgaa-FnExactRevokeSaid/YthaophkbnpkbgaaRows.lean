/-
  No cell of these rows narrows 'for every input' (looked for: loops, veiled, ifaces, maps, wideKeys, modest, calm, conditions, laid).
  DERIVED. THE GIVEN ROWS OF THIS SEAT. 5 by the template 'for every input the law returns true; each argument reads behind the call as it read before'; 0 by the template 'total and deterministic' (their statements: YthaophkbnpkbgaaTotals.lean).
  GIVEN WITH THE SEED: the statements are not yours to turn. If you find one false, say at which input.
  Laid BY PROGRAM, IN A SANDBOX (cutbox-rows.mjs): the forced cells as the released guide's own fill.sh prints them over the translation 7374c7148b5f4541… (all of the seat's roots in one cut). By AI agents, Wed Nov 11 2026. No macro, syntax, notation, axiom, sorry.
-/
import Derived.Test.YthaophkbnpkbgaaChecked
import GoSem.Claim
import GoSem.ClaimJoined
import GoSem.ClaimMapViews
import Derived.JoinedTies
import Derived.KernelRfl
namespace Go.Proofs.Ythaophkbnpkbgaa
/- THE CELL 'sum', in the pinned program and in every row, IS THE sha256 OF THE DUMP (.gsa) THAT YthaophkbnpkbgaaProg.lean LOADS. Nothing in Lean hashes anything: it is a label: what it is worth is what the hold of that sum in a sandbox is worth. -/
noncomputable def Try.pinned : Pinned := { name := "ythaophkbnpkbgaa", sum := "7374c7148b5f45415f387cac637d435e6ce06c2b5a062de022c6f16d7ef65d36", checked := Try.checked }
namespace Rows
def none {H : Type} : Left H := { results := [], args := [] }

/-- 'laws.FnExactGrantOk': WHATEVER THE INPUT: true; the input reads as it did. -/
def fnExactGrantOkSpec : ChangeSpec := { name := "fnExactGrantOk", fn := fun _ => fun
  | [d] => { results := [.lit (.bool true)], args := [d] }
  | _ => none }
def fnExactGrantOkRow : OpenClaim := { program := "ythaophkbnpkbgaa", sum := "7374c7148b5f45415f387cac637d435e6ce06c2b5a062de022c6f16d7ef65d36", func := "loop.example/g03318/laws.FnExactGrantOk", spec := "fnExactGrantOk", apart := false }
def FnExactGrantOkSaid : Prop := fnExactGrantOkRow.holds Try.pinned (OpenSpec.ofChange fnExactGrantOkSpec)

/-- ITS FALSE NEIGHBOUR: 'it returns false'. Refute it at one input. -/
def fnExactGrantOkWrong : ChangeSpec := { name := "fnExactGrantOk", fn := fun _ => fun
  | [d] => { results := [.lit (.bool false)], args := [d] }
  | _ => none }
def FnExactGrantOkWrongFalsely : Prop := fnExactGrantOkRow.holds Try.pinned (OpenSpec.ofChange fnExactGrantOkWrong)

/-- 'laws.FnExactGrantsOk': WHATEVER THE INPUT: true; the input reads as it did. -/
def fnExactGrantsOkSpec : ChangeSpec := { name := "fnExactGrantsOk", fn := fun _ => fun
  | [d] => { results := [.lit (.bool true)], args := [d] }
  | _ => none }
def fnExactGrantsOkRow : OpenClaim := { program := "ythaophkbnpkbgaa", sum := "7374c7148b5f45415f387cac637d435e6ce06c2b5a062de022c6f16d7ef65d36", func := "loop.example/g03318/laws.FnExactGrantsOk", spec := "fnExactGrantsOk", apart := false }
def FnExactGrantsOkSaid : Prop := fnExactGrantsOkRow.holds Try.pinned (OpenSpec.ofChange fnExactGrantsOkSpec)

/-- ITS FALSE NEIGHBOUR: 'it returns false'. Refute it at one input. -/
def fnExactGrantsOkWrong : ChangeSpec := { name := "fnExactGrantsOk", fn := fun _ => fun
  | [d] => { results := [.lit (.bool false)], args := [d] }
  | _ => none }
def FnExactGrantsOkWrongFalsely : Prop := fnExactGrantsOkRow.holds Try.pinned (OpenSpec.ofChange fnExactGrantsOkWrong)

/-- 'laws.FnExactApplies': WHATEVER THE INPUT: true; the input reads as it did. -/
def fnExactAppliesSpec : ChangeSpec := { name := "fnExactApplies", fn := fun _ => fun
  | [d1, d2, d3] => { results := [.lit (.bool true)], args := [d1, d2, d3] }
  | _ => none }
def fnExactAppliesRow : OpenClaim := { program := "ythaophkbnpkbgaa", sum := "7374c7148b5f45415f387cac637d435e6ce06c2b5a062de022c6f16d7ef65d36", func := "loop.example/g03318/laws.FnExactApplies", spec := "fnExactApplies", apart := false }
def FnExactAppliesSaid : Prop := fnExactAppliesRow.holds Try.pinned (OpenSpec.ofChange fnExactAppliesSpec)

/-- ITS FALSE NEIGHBOUR: 'it returns false'. Refute it at one input. -/
def fnExactAppliesWrong : ChangeSpec := { name := "fnExactApplies", fn := fun _ => fun
  | [d1, d2, d3] => { results := [.lit (.bool false)], args := [d1, d2, d3] }
  | _ => none }
def FnExactAppliesWrongFalsely : Prop := fnExactAppliesRow.holds Try.pinned (OpenSpec.ofChange fnExactAppliesWrong)

/-- 'laws.FnExactAddGrant': WHATEVER THE INPUT: true; the input reads as it did. -/
def fnExactAddGrantSpec : ChangeSpec := { name := "fnExactAddGrant", fn := fun _ => fun
  | [d1, d2] => { results := [.lit (.bool true)], args := [d1, d2] }
  | _ => none }
def fnExactAddGrantRow : OpenClaim := { program := "ythaophkbnpkbgaa", sum := "7374c7148b5f45415f387cac637d435e6ce06c2b5a062de022c6f16d7ef65d36", func := "loop.example/g03318/laws.FnExactAddGrant", spec := "fnExactAddGrant", apart := false }
def FnExactAddGrantSaid : Prop := fnExactAddGrantRow.holds Try.pinned (OpenSpec.ofChange fnExactAddGrantSpec)

/-- ITS FALSE NEIGHBOUR: 'it returns false'. Refute it at one input. -/
def fnExactAddGrantWrong : ChangeSpec := { name := "fnExactAddGrant", fn := fun _ => fun
  | [d1, d2] => { results := [.lit (.bool false)], args := [d1, d2] }
  | _ => none }
def FnExactAddGrantWrongFalsely : Prop := fnExactAddGrantRow.holds Try.pinned (OpenSpec.ofChange fnExactAddGrantWrong)

/-- 'laws.FnExactRevoke': WHATEVER THE INPUT: true; the input reads as it did. -/
def fnExactRevokeSpec : ChangeSpec := { name := "fnExactRevoke", fn := fun _ => fun
  | [d1, d2] => { results := [.lit (.bool true)], args := [d1, d2] }
  | _ => none }
def fnExactRevokeRow : OpenClaim := { program := "ythaophkbnpkbgaa", sum := "7374c7148b5f45415f387cac637d435e6ce06c2b5a062de022c6f16d7ef65d36", func := "loop.example/g03318/laws.FnExactRevoke", spec := "fnExactRevoke", apart := false }
def FnExactRevokeSaid : Prop := fnExactRevokeRow.holds Try.pinned (OpenSpec.ofChange fnExactRevokeSpec)

/-- ITS FALSE NEIGHBOUR: 'it returns false'. Refute it at one input. -/
def fnExactRevokeWrong : ChangeSpec := { name := "fnExactRevoke", fn := fun _ => fun
  | [d1, d2] => { results := [.lit (.bool false)], args := [d1, d2] }
  | _ => none }
def FnExactRevokeWrongFalsely : Prop := fnExactRevokeRow.holds Try.pinned (OpenSpec.ofChange fnExactRevokeWrong)

/- THE SECOND FORM. 'bulk': how many values and letters a reading holds, each counted each time it is reached (what is shared counts as often as it is met; a slice's spare places count too). A statement '..UptoSaid' is the law's where the arguments, and the package variables that the reading takes, are together of bulk at most 1048576: NARROWER than '..Said'. Prove '..Said' where nothing that the law and all that it calls make is longer than what came in: it says more and counts as full. Else prove '..UptoSaid'. A law counts once. -/
mutual
def uptoBulk {H : Type} : DataW H → Nat
  | .lit (.string bytes) => bytes.length + 1
  | .lit _ => 1
  | .nil => 1
  | .ptr d => uptoBulk d + 1
  | .slice elems spare => uptoBulkAll elems + uptoBulkAll spare + 1
  | .agg parts => uptoBulkAll parts + 1
  | .iface _ d => uptoBulk d + 1
  | .map entries => uptoBulkEntries entries + 1
  | .held _ => 1
def uptoBulkAll {H : Type} : List (DataW H) → Nat
  | [] => 0
  | d :: r => uptoBulk d + uptoBulkAll r
def uptoBulkEntries {H : Type} : List (Lit × DataW H) → Nat
  | [] => 0
  | x :: r => uptoBulkEntry x + uptoBulkEntries r
def uptoBulkEntry {H : Type} : Lit × DataW H → Nat
  | (.string bytes, d) => bytes.length + uptoBulk d + 1
  | (_, d) => uptoBulk d + 1
 end
def uptoSmall : (H : Type) → List (DataW H) → Bool := fun _ ds => decide (uptoBulkAll ds ≤ 1048576)
def OpenSpec.upto (s : _root_.Go.ChangeSpec) : _root_.Go.OpenSpec := { _root_.Go.OpenSpec.ofChange s with cond := some uptoSmall }

/-- 'laws.FnExactGrantOk', WHERE WHAT IT READS IS OF BULK AT MOST 1048576: true; the input reads as it did. -/
def fnExactGrantOkUptoRow : OpenClaim := { program := "ythaophkbnpkbgaa", sum := "7374c7148b5f45415f387cac637d435e6ce06c2b5a062de022c6f16d7ef65d36", func := "loop.example/g03318/laws.FnExactGrantOk", spec := "fnExactGrantOk", apart := false, narrowed := true }
def FnExactGrantOkUptoSaid : Prop := fnExactGrantOkUptoRow.holds Try.pinned (OpenSpec.upto fnExactGrantOkSpec)

/-- 'laws.FnExactGrantsOk', WHERE WHAT IT READS IS OF BULK AT MOST 1048576: true; the input reads as it did. -/
def fnExactGrantsOkUptoRow : OpenClaim := { program := "ythaophkbnpkbgaa", sum := "7374c7148b5f45415f387cac637d435e6ce06c2b5a062de022c6f16d7ef65d36", func := "loop.example/g03318/laws.FnExactGrantsOk", spec := "fnExactGrantsOk", apart := false, narrowed := true }
def FnExactGrantsOkUptoSaid : Prop := fnExactGrantsOkUptoRow.holds Try.pinned (OpenSpec.upto fnExactGrantsOkSpec)

/-- 'laws.FnExactApplies', WHERE WHAT IT READS IS OF BULK AT MOST 1048576: true; the input reads as it did. -/
def fnExactAppliesUptoRow : OpenClaim := { program := "ythaophkbnpkbgaa", sum := "7374c7148b5f45415f387cac637d435e6ce06c2b5a062de022c6f16d7ef65d36", func := "loop.example/g03318/laws.FnExactApplies", spec := "fnExactApplies", apart := false, narrowed := true }
def FnExactAppliesUptoSaid : Prop := fnExactAppliesUptoRow.holds Try.pinned (OpenSpec.upto fnExactAppliesSpec)

/-- 'laws.FnExactAddGrant', WHERE WHAT IT READS IS OF BULK AT MOST 1048576: true; the input reads as it did. -/
def fnExactAddGrantUptoRow : OpenClaim := { program := "ythaophkbnpkbgaa", sum := "7374c7148b5f45415f387cac637d435e6ce06c2b5a062de022c6f16d7ef65d36", func := "loop.example/g03318/laws.FnExactAddGrant", spec := "fnExactAddGrant", apart := false, narrowed := true }
def FnExactAddGrantUptoSaid : Prop := fnExactAddGrantUptoRow.holds Try.pinned (OpenSpec.upto fnExactAddGrantSpec)

/-- 'laws.FnExactRevoke', WHERE WHAT IT READS IS OF BULK AT MOST 1048576: true; the input reads as it did. -/
def fnExactRevokeUptoRow : OpenClaim := { program := "ythaophkbnpkbgaa", sum := "7374c7148b5f45415f387cac637d435e6ce06c2b5a062de022c6f16d7ef65d36", func := "loop.example/g03318/laws.FnExactRevoke", spec := "fnExactRevoke", apart := false, narrowed := true }
def FnExactRevokeUptoSaid : Prop := fnExactRevokeUptoRow.holds Try.pinned (OpenSpec.upto fnExactRevokeSpec)

end Rows
end Go.Proofs.Ythaophkbnpkbgaa
