/-
  No cell of these rows narrows 'for every input' (looked for: loops, veiled, ifaces, maps, wideKeys, modest, calm, conditions, laid).
  DERIVED. THE GIVEN ROWS OF THIS SEAT. 6 by the template 'for every input the law returns true; each argument reads behind the call as it read before'; 0 by the template 'total and deterministic' (their statements: YtjpafmkmpnibgaaTotals.lean).
  GIVEN WITH THE SEED: the statements are not yours to turn. If you find one false, say at which input.
  Laid BY PROGRAM, IN A SANDBOX (cutbox-rows.mjs): the forced cells as the released guide's own fill.sh prints them over the translation f65828a77bb55d24… (all of the seat's roots in one cut). By AI agents, Wed Nov 11 2026. No macro, syntax, notation, axiom, sorry.
-/
import Derived.Test.YtjpafmkmpnibgaaChecked
import GoSem.Claim
import GoSem.ClaimJoined
import GoSem.ClaimMapViews
import Derived.JoinedTies
import Derived.KernelRfl
namespace Go.Proofs.Ytjpafmkmpnibgaa
/- THE CELL 'sum', in the pinned program and in every row, IS THE sha256 OF THE DUMP (.gsa) THAT YtjpafmkmpnibgaaProg.lean LOADS. Nothing in Lean hashes anything: it is a label: what it is worth is what the hold of that sum in a sandbox is worth. -/
noncomputable def Try.pinned : Pinned := { name := "ytjpafmkmpnibgaa", sum := "f65828a77bb55d2422ec8a4208b1f7adc9a131490b6956ec2796f9579612ab80", checked := Try.checked }
namespace Rows
def none {H : Type} : Left H := { results := [], args := [] }

/-- 'laws.FnExactLockOk': WHATEVER THE INPUT: true; the input reads as it did. -/
def fnExactLockOkSpec : ChangeSpec := { name := "fnExactLockOk", fn := fun _ => fun
  | [d] => { results := [.lit (.bool true)], args := [d] }
  | _ => none }
def fnExactLockOkRow : OpenClaim := { program := "ytjpafmkmpnibgaa", sum := "f65828a77bb55d2422ec8a4208b1f7adc9a131490b6956ec2796f9579612ab80", func := "loop.example/g03318/laws.FnExactLockOk", spec := "fnExactLockOk", apart := false }
def FnExactLockOkSaid : Prop := fnExactLockOkRow.holds Try.pinned (OpenSpec.ofChange fnExactLockOkSpec)

/-- ITS FALSE NEIGHBOUR: 'it returns false'. Refute it at one input. -/
def fnExactLockOkWrong : ChangeSpec := { name := "fnExactLockOk", fn := fun _ => fun
  | [d] => { results := [.lit (.bool false)], args := [d] }
  | _ => none }
def FnExactLockOkWrongFalsely : Prop := fnExactLockOkRow.holds Try.pinned (OpenSpec.ofChange fnExactLockOkWrong)

/-- 'laws.FnExactNewLock': WHATEVER THE INPUT: true; the input reads as it did. -/
def fnExactNewLockSpec : ChangeSpec := { name := "fnExactNewLock", fn := fun _ => fun
  | [d] => { results := [.lit (.bool true)], args := [d] }
  | _ => none }
def fnExactNewLockRow : OpenClaim := { program := "ytjpafmkmpnibgaa", sum := "f65828a77bb55d2422ec8a4208b1f7adc9a131490b6956ec2796f9579612ab80", func := "loop.example/g03318/laws.FnExactNewLock", spec := "fnExactNewLock", apart := false }
def FnExactNewLockSaid : Prop := fnExactNewLockRow.holds Try.pinned (OpenSpec.ofChange fnExactNewLockSpec)

/-- ITS FALSE NEIGHBOUR: 'it returns false'. Refute it at one input. -/
def fnExactNewLockWrong : ChangeSpec := { name := "fnExactNewLock", fn := fun _ => fun
  | [d] => { results := [.lit (.bool false)], args := [d] }
  | _ => none }
def FnExactNewLockWrongFalsely : Prop := fnExactNewLockRow.holds Try.pinned (OpenSpec.ofChange fnExactNewLockWrong)

/-- 'laws.FnExactTryName': WHATEVER THE INPUT: true; the input reads as it did. -/
def fnExactTryNameSpec : ChangeSpec := { name := "fnExactTryName", fn := fun _ => fun
  | [d] => { results := [.lit (.bool true)], args := [d] }
  | _ => none }
def fnExactTryNameRow : OpenClaim := { program := "ytjpafmkmpnibgaa", sum := "f65828a77bb55d2422ec8a4208b1f7adc9a131490b6956ec2796f9579612ab80", func := "loop.example/g03318/laws.FnExactTryName", spec := "fnExactTryName", apart := false }
def FnExactTryNameSaid : Prop := fnExactTryNameRow.holds Try.pinned (OpenSpec.ofChange fnExactTryNameSpec)

/-- ITS FALSE NEIGHBOUR: 'it returns false'. Refute it at one input. -/
def fnExactTryNameWrong : ChangeSpec := { name := "fnExactTryName", fn := fun _ => fun
  | [d] => { results := [.lit (.bool false)], args := [d] }
  | _ => none }
def FnExactTryNameWrongFalsely : Prop := fnExactTryNameRow.holds Try.pinned (OpenSpec.ofChange fnExactTryNameWrong)

/-- 'laws.FnExactPadOk': WHATEVER THE INPUT: true; the input reads as it did. -/
def fnExactPadOkSpec : ChangeSpec := { name := "fnExactPadOk", fn := fun _ => fun
  | [d] => { results := [.lit (.bool true)], args := [d] }
  | _ => none }
def fnExactPadOkRow : OpenClaim := { program := "ytjpafmkmpnibgaa", sum := "f65828a77bb55d2422ec8a4208b1f7adc9a131490b6956ec2796f9579612ab80", func := "loop.example/g03318/laws.FnExactPadOk", spec := "fnExactPadOk", apart := false }
def FnExactPadOkSaid : Prop := fnExactPadOkRow.holds Try.pinned (OpenSpec.ofChange fnExactPadOkSpec)

/-- ITS FALSE NEIGHBOUR: 'it returns false'. Refute it at one input. -/
def fnExactPadOkWrong : ChangeSpec := { name := "fnExactPadOk", fn := fun _ => fun
  | [d] => { results := [.lit (.bool false)], args := [d] }
  | _ => none }
def FnExactPadOkWrongFalsely : Prop := fnExactPadOkRow.holds Try.pinned (OpenSpec.ofChange fnExactPadOkWrong)

/-- 'laws.FnExactCanOpen': WHATEVER THE INPUT: true; the input reads as it did. -/
def fnExactCanOpenSpec : ChangeSpec := { name := "fnExactCanOpen", fn := fun _ => fun
  | [d1, d2] => { results := [.lit (.bool true)], args := [d1, d2] }
  | _ => none }
def fnExactCanOpenRow : OpenClaim := { program := "ytjpafmkmpnibgaa", sum := "f65828a77bb55d2422ec8a4208b1f7adc9a131490b6956ec2796f9579612ab80", func := "loop.example/g03318/laws.FnExactCanOpen", spec := "fnExactCanOpen", apart := false }
def FnExactCanOpenSaid : Prop := fnExactCanOpenRow.holds Try.pinned (OpenSpec.ofChange fnExactCanOpenSpec)

/-- ITS FALSE NEIGHBOUR: 'it returns false'. Refute it at one input. -/
def fnExactCanOpenWrong : ChangeSpec := { name := "fnExactCanOpen", fn := fun _ => fun
  | [d1, d2] => { results := [.lit (.bool false)], args := [d1, d2] }
  | _ => none }
def FnExactCanOpenWrongFalsely : Prop := fnExactCanOpenRow.holds Try.pinned (OpenSpec.ofChange fnExactCanOpenWrong)

/-- 'laws.FnExactMostWrong': WHATEVER THE INPUT: true; the input reads as it did. -/
def fnExactMostWrongSpec : ChangeSpec := { name := "fnExactMostWrong", fn := fun _ => fun
  | [d] => { results := [.lit (.bool true)], args := [d] }
  | _ => none }
def fnExactMostWrongRow : OpenClaim := { program := "ytjpafmkmpnibgaa", sum := "f65828a77bb55d2422ec8a4208b1f7adc9a131490b6956ec2796f9579612ab80", func := "loop.example/g03318/laws.FnExactMostWrong", spec := "fnExactMostWrong", apart := false }
def FnExactMostWrongSaid : Prop := fnExactMostWrongRow.holds Try.pinned (OpenSpec.ofChange fnExactMostWrongSpec)

/-- ITS FALSE NEIGHBOUR: 'it returns false'. Refute it at one input. -/
def fnExactMostWrongWrong : ChangeSpec := { name := "fnExactMostWrong", fn := fun _ => fun
  | [d] => { results := [.lit (.bool false)], args := [d] }
  | _ => none }
def FnExactMostWrongWrongFalsely : Prop := fnExactMostWrongRow.holds Try.pinned (OpenSpec.ofChange fnExactMostWrongWrong)

/- THE SECOND FORM. 'bulk': how many values and letters a reading holds, each counted each time it is reached (what is shared counts as often as it is met; a slice's spare places count too). A statement '..UptoSaid' is the law's where the arguments, and the package variables that the reading takes, are together of bulk at most 1048576: NARROWER than '..Said'. Prove '..Said' where nothing that the law and all that it calls make is longer than what came in: it says more and counts as full. Else prove '..UptoSaid'. A law counts once. -/
mutual
def uptoBulk {H : Type} : DataW H → Nat
  | .lit (.string bytes) => bytes.length + 1
  | .lit _ => 1
  | .nil => 1
  | .ptr d => uptoBulk d + 1
  | .slice elems spare => uptoBulkAll elems + uptoBulkAll spare + 1
  | .agg parts => uptoBulkAll parts + 1
  | .iface _ d => uptoBulk d + 1
  | .map entries => uptoBulkEntries entries + 1
  | .held _ => 1
def uptoBulkAll {H : Type} : List (DataW H) → Nat
  | [] => 0
  | d :: r => uptoBulk d + uptoBulkAll r
def uptoBulkEntries {H : Type} : List (Lit × DataW H) → Nat
  | [] => 0
  | x :: r => uptoBulkEntry x + uptoBulkEntries r
def uptoBulkEntry {H : Type} : Lit × DataW H → Nat
  | (.string bytes, d) => bytes.length + uptoBulk d + 1
  | (_, d) => uptoBulk d + 1
 end
def uptoSmall : (H : Type) → List (DataW H) → Bool := fun _ ds => decide (uptoBulkAll ds ≤ 1048576)
def OpenSpec.upto (s : _root_.Go.ChangeSpec) : _root_.Go.OpenSpec := { _root_.Go.OpenSpec.ofChange s with cond := some uptoSmall }

/-- 'laws.FnExactLockOk', WHERE WHAT IT READS IS OF BULK AT MOST 1048576: true; the input reads as it did. -/
def fnExactLockOkUptoRow : OpenClaim := { program := "ytjpafmkmpnibgaa", sum := "f65828a77bb55d2422ec8a4208b1f7adc9a131490b6956ec2796f9579612ab80", func := "loop.example/g03318/laws.FnExactLockOk", spec := "fnExactLockOk", apart := false, narrowed := true }
def FnExactLockOkUptoSaid : Prop := fnExactLockOkUptoRow.holds Try.pinned (OpenSpec.upto fnExactLockOkSpec)

/-- 'laws.FnExactNewLock', WHERE WHAT IT READS IS OF BULK AT MOST 1048576: true; the input reads as it did. -/
def fnExactNewLockUptoRow : OpenClaim := { program := "ytjpafmkmpnibgaa", sum := "f65828a77bb55d2422ec8a4208b1f7adc9a131490b6956ec2796f9579612ab80", func := "loop.example/g03318/laws.FnExactNewLock", spec := "fnExactNewLock", apart := false, narrowed := true }
def FnExactNewLockUptoSaid : Prop := fnExactNewLockUptoRow.holds Try.pinned (OpenSpec.upto fnExactNewLockSpec)

/-- 'laws.FnExactTryName', WHERE WHAT IT READS IS OF BULK AT MOST 1048576: true; the input reads as it did. -/
def fnExactTryNameUptoRow : OpenClaim := { program := "ytjpafmkmpnibgaa", sum := "f65828a77bb55d2422ec8a4208b1f7adc9a131490b6956ec2796f9579612ab80", func := "loop.example/g03318/laws.FnExactTryName", spec := "fnExactTryName", apart := false, narrowed := true }
def FnExactTryNameUptoSaid : Prop := fnExactTryNameUptoRow.holds Try.pinned (OpenSpec.upto fnExactTryNameSpec)

/-- 'laws.FnExactPadOk', WHERE WHAT IT READS IS OF BULK AT MOST 1048576: true; the input reads as it did. -/
def fnExactPadOkUptoRow : OpenClaim := { program := "ytjpafmkmpnibgaa", sum := "f65828a77bb55d2422ec8a4208b1f7adc9a131490b6956ec2796f9579612ab80", func := "loop.example/g03318/laws.FnExactPadOk", spec := "fnExactPadOk", apart := false, narrowed := true }
def FnExactPadOkUptoSaid : Prop := fnExactPadOkUptoRow.holds Try.pinned (OpenSpec.upto fnExactPadOkSpec)

/-- 'laws.FnExactCanOpen', WHERE WHAT IT READS IS OF BULK AT MOST 1048576: true; the input reads as it did. -/
def fnExactCanOpenUptoRow : OpenClaim := { program := "ytjpafmkmpnibgaa", sum := "f65828a77bb55d2422ec8a4208b1f7adc9a131490b6956ec2796f9579612ab80", func := "loop.example/g03318/laws.FnExactCanOpen", spec := "fnExactCanOpen", apart := false, narrowed := true }
def FnExactCanOpenUptoSaid : Prop := fnExactCanOpenUptoRow.holds Try.pinned (OpenSpec.upto fnExactCanOpenSpec)

/-- 'laws.FnExactMostWrong', WHERE WHAT IT READS IS OF BULK AT MOST 1048576: true; the input reads as it did. -/
def fnExactMostWrongUptoRow : OpenClaim := { program := "ytjpafmkmpnibgaa", sum := "f65828a77bb55d2422ec8a4208b1f7adc9a131490b6956ec2796f9579612ab80", func := "loop.example/g03318/laws.FnExactMostWrong", spec := "fnExactMostWrong", apart := false, narrowed := true }
def FnExactMostWrongUptoSaid : Prop := fnExactMostWrongUptoRow.holds Try.pinned (OpenSpec.upto fnExactMostWrongSpec)

end Rows
end Go.Proofs.Ytjpafmkmpnibgaa
