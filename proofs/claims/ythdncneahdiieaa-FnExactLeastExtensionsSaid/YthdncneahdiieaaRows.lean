/-
  No cell of these rows narrows 'for every input' (looked for: loops, veiled, ifaces, maps, wideKeys, modest, calm, conditions, laid).
  DERIVED. THE GIVEN ROWS OF THIS SEAT. 5 by the template 'for every input the law returns true; each argument reads behind the call as it read before'; 0 by the template 'total and deterministic' (their statements: YthdncneahdiieaaTotals.lean).
  GIVEN WITH THE SEED: the statements are not yours to turn. If you find one false, say at which input.
  Laid BY PROGRAM, IN A SANDBOX (cutbox-rows.mjs): the forced cells as the released guide's own fill.sh prints them over the translation e91ee3054e3849b3… (all of the seat's roots in one cut). By AI agents, Wed Nov 11 2026. No macro, syntax, notation, axiom, sorry.
-/
import Derived.Test.YthdncneahdiieaaChecked
import GoSem.Claim
import GoSem.ClaimJoined
import GoSem.ClaimMapViews
import Derived.JoinedTies
import Derived.KernelRfl
namespace Go.Proofs.Ythdncneahdiieaa
/- THE CELL 'sum', in the pinned program and in every row, IS THE sha256 OF THE DUMP (.gsa) THAT YthdncneahdiieaaProg.lean LOADS. Nothing in Lean hashes anything: it is a label: what it is worth is what the hold of that sum in a sandbox is worth. -/
noncomputable def Try.pinned : Pinned := { name := "ythdncneahdiieaa", sum := "e91ee3054e3849b37fd19815ac82c518caddb3fa2a1550c3931209de76e1878a", checked := Try.checked }
namespace Rows
def none {H : Type} : Left H := { results := [], args := [] }

/-- 'laws.FnExactNextRise': WHATEVER THE INPUT: true; the input reads as it did. -/
def fnExactNextRiseSpec : ChangeSpec := { name := "fnExactNextRise", fn := fun _ => fun
  | [d1, d2, d3, d4, d5, d6] => { results := [.lit (.bool true)], args := [d1, d2, d3, d4, d5, d6] }
  | _ => none }
def fnExactNextRiseRow : OpenClaim := { program := "ythdncneahdiieaa", sum := "e91ee3054e3849b37fd19815ac82c518caddb3fa2a1550c3931209de76e1878a", func := "loop.example/g03318/laws.FnExactNextRise", spec := "fnExactNextRise", unfollowed := true, recurses := true, apart := false }
def FnExactNextRiseSaid : Prop := fnExactNextRiseRow.holds Try.pinned (OpenSpec.ofChange fnExactNextRiseSpec)

/-- ITS FALSE NEIGHBOUR: 'it returns false'. Refute it at one input. -/
def fnExactNextRiseWrong : ChangeSpec := { name := "fnExactNextRise", fn := fun _ => fun
  | [d1, d2, d3, d4, d5, d6] => { results := [.lit (.bool false)], args := [d1, d2, d3, d4, d5, d6] }
  | _ => none }
def FnExactNextRiseWrongFalsely : Prop := fnExactNextRiseRow.holds Try.pinned (OpenSpec.ofChange fnExactNextRiseWrong)

/-- 'laws.FnExactCanExtend': WHATEVER THE INPUT: true; the input reads as it did. -/
def fnExactCanExtendSpec : ChangeSpec := { name := "fnExactCanExtend", fn := fun _ => fun
  | [d1, d2, d3, d4, d5] => { results := [.lit (.bool true)], args := [d1, d2, d3, d4, d5] }
  | _ => none }
def fnExactCanExtendRow : OpenClaim := { program := "ythdncneahdiieaa", sum := "e91ee3054e3849b37fd19815ac82c518caddb3fa2a1550c3931209de76e1878a", func := "loop.example/g03318/laws.FnExactCanExtend", spec := "fnExactCanExtend", apart := false }
def FnExactCanExtendSaid : Prop := fnExactCanExtendRow.holds Try.pinned (OpenSpec.ofChange fnExactCanExtendSpec)

/-- ITS FALSE NEIGHBOUR: 'it returns false'. Refute it at one input. -/
def fnExactCanExtendWrong : ChangeSpec := { name := "fnExactCanExtend", fn := fun _ => fun
  | [d1, d2, d3, d4, d5] => { results := [.lit (.bool false)], args := [d1, d2, d3, d4, d5] }
  | _ => none }
def FnExactCanExtendWrongFalsely : Prop := fnExactCanExtendRow.holds Try.pinned (OpenSpec.ofChange fnExactCanExtendWrong)

/-- 'laws.FnExactLeastExtensions': WHATEVER THE INPUT: true; the input reads as it did. -/
def fnExactLeastExtensionsSpec : ChangeSpec := { name := "fnExactLeastExtensions", fn := fun _ => fun
  | [d1, d2, d3, d4] => { results := [.lit (.bool true)], args := [d1, d2, d3, d4] }
  | _ => none }
def fnExactLeastExtensionsRow : OpenClaim := { program := "ythdncneahdiieaa", sum := "e91ee3054e3849b37fd19815ac82c518caddb3fa2a1550c3931209de76e1878a", func := "loop.example/g03318/laws.FnExactLeastExtensions", spec := "fnExactLeastExtensions", apart := false }
def FnExactLeastExtensionsSaid : Prop := fnExactLeastExtensionsRow.holds Try.pinned (OpenSpec.ofChange fnExactLeastExtensionsSpec)

/-- ITS FALSE NEIGHBOUR: 'it returns false'. Refute it at one input. -/
def fnExactLeastExtensionsWrong : ChangeSpec := { name := "fnExactLeastExtensions", fn := fun _ => fun
  | [d1, d2, d3, d4] => { results := [.lit (.bool false)], args := [d1, d2, d3, d4] }
  | _ => none }
def FnExactLeastExtensionsWrongFalsely : Prop := fnExactLeastExtensionsRow.holds Try.pinned (OpenSpec.ofChange fnExactLeastExtensionsWrong)

/-- 'laws.FnExactBillOf': WHATEVER THE INPUT: true; the input reads as it did. -/
def fnExactBillOfSpec : ChangeSpec := { name := "fnExactBillOf", fn := fun _ => fun
  | [d1, d2, d3] => { results := [.lit (.bool true)], args := [d1, d2, d3] }
  | _ => none }
def fnExactBillOfRow : OpenClaim := { program := "ythdncneahdiieaa", sum := "e91ee3054e3849b37fd19815ac82c518caddb3fa2a1550c3931209de76e1878a", func := "loop.example/g03318/laws.FnExactBillOf", spec := "fnExactBillOf", unfollowed := true, recurses := true, apart := false }
def FnExactBillOfSaid : Prop := fnExactBillOfRow.holds Try.pinned (OpenSpec.ofChange fnExactBillOfSpec)

/-- ITS FALSE NEIGHBOUR: 'it returns false'. Refute it at one input. -/
def fnExactBillOfWrong : ChangeSpec := { name := "fnExactBillOf", fn := fun _ => fun
  | [d1, d2, d3] => { results := [.lit (.bool false)], args := [d1, d2, d3] }
  | _ => none }
def FnExactBillOfWrongFalsely : Prop := fnExactBillOfRow.holds Try.pinned (OpenSpec.ofChange fnExactBillOfWrong)

/-- 'laws.FnExactCheapestTerms': WHATEVER THE INPUT: true; the input reads as it did. -/
def fnExactCheapestTermsSpec : ChangeSpec := { name := "fnExactCheapestTerms", fn := fun _ => fun
  | [d1, d2, d3] => { results := [.lit (.bool true)], args := [d1, d2, d3] }
  | _ => none }
def fnExactCheapestTermsRow : OpenClaim := { program := "ythdncneahdiieaa", sum := "e91ee3054e3849b37fd19815ac82c518caddb3fa2a1550c3931209de76e1878a", func := "loop.example/g03318/laws.FnExactCheapestTerms", spec := "fnExactCheapestTerms", unfollowed := true, recurses := true, apart := false }
def FnExactCheapestTermsSaid : Prop := fnExactCheapestTermsRow.holds Try.pinned (OpenSpec.ofChange fnExactCheapestTermsSpec)

/-- ITS FALSE NEIGHBOUR: 'it returns false'. Refute it at one input. -/
def fnExactCheapestTermsWrong : ChangeSpec := { name := "fnExactCheapestTerms", fn := fun _ => fun
  | [d1, d2, d3] => { results := [.lit (.bool false)], args := [d1, d2, d3] }
  | _ => none }
def FnExactCheapestTermsWrongFalsely : Prop := fnExactCheapestTermsRow.holds Try.pinned (OpenSpec.ofChange fnExactCheapestTermsWrong)

/- THE SECOND FORM. 'bulk': how many values and letters a reading holds, each counted each time it is reached (what is shared counts as often as it is met; a slice's spare places count too). A statement '..UptoSaid' is the law's where the arguments, and the package variables that the reading takes, are together of bulk at most 1048576: NARROWER than '..Said'. Prove '..Said' where nothing that the law and all that it calls make is longer than what came in: it says more and counts as full. Else prove '..UptoSaid'. A law counts once. -/
mutual
def uptoBulk {H : Type} : DataW H → Nat
  | .lit (.string bytes) => bytes.length + 1
  | .lit _ => 1
  | .nil => 1
  | .ptr d => uptoBulk d + 1
  | .slice elems spare => uptoBulkAll elems + uptoBulkAll spare + 1
  | .agg parts => uptoBulkAll parts + 1
  | .iface _ d => uptoBulk d + 1
  | .map entries => uptoBulkEntries entries + 1
  | .held _ => 1
def uptoBulkAll {H : Type} : List (DataW H) → Nat
  | [] => 0
  | d :: r => uptoBulk d + uptoBulkAll r
def uptoBulkEntries {H : Type} : List (Lit × DataW H) → Nat
  | [] => 0
  | x :: r => uptoBulkEntry x + uptoBulkEntries r
def uptoBulkEntry {H : Type} : Lit × DataW H → Nat
  | (.string bytes, d) => bytes.length + uptoBulk d + 1
  | (_, d) => uptoBulk d + 1
 end
def uptoSmall : (H : Type) → List (DataW H) → Bool := fun _ ds => decide (uptoBulkAll ds ≤ 1048576)
def OpenSpec.upto (s : _root_.Go.ChangeSpec) : _root_.Go.OpenSpec := { _root_.Go.OpenSpec.ofChange s with cond := some uptoSmall }

/-- 'laws.FnExactNextRise', WHERE WHAT IT READS IS OF BULK AT MOST 1048576: true; the input reads as it did. -/
def fnExactNextRiseUptoRow : OpenClaim := { program := "ythdncneahdiieaa", sum := "e91ee3054e3849b37fd19815ac82c518caddb3fa2a1550c3931209de76e1878a", func := "loop.example/g03318/laws.FnExactNextRise", spec := "fnExactNextRise", unfollowed := true, recurses := true, apart := false, narrowed := true }
def FnExactNextRiseUptoSaid : Prop := fnExactNextRiseUptoRow.holds Try.pinned (OpenSpec.upto fnExactNextRiseSpec)

/-- 'laws.FnExactCanExtend', WHERE WHAT IT READS IS OF BULK AT MOST 1048576: true; the input reads as it did. -/
def fnExactCanExtendUptoRow : OpenClaim := { program := "ythdncneahdiieaa", sum := "e91ee3054e3849b37fd19815ac82c518caddb3fa2a1550c3931209de76e1878a", func := "loop.example/g03318/laws.FnExactCanExtend", spec := "fnExactCanExtend", apart := false, narrowed := true }
def FnExactCanExtendUptoSaid : Prop := fnExactCanExtendUptoRow.holds Try.pinned (OpenSpec.upto fnExactCanExtendSpec)

/-- 'laws.FnExactLeastExtensions', WHERE WHAT IT READS IS OF BULK AT MOST 1048576: true; the input reads as it did. -/
def fnExactLeastExtensionsUptoRow : OpenClaim := { program := "ythdncneahdiieaa", sum := "e91ee3054e3849b37fd19815ac82c518caddb3fa2a1550c3931209de76e1878a", func := "loop.example/g03318/laws.FnExactLeastExtensions", spec := "fnExactLeastExtensions", apart := false, narrowed := true }
def FnExactLeastExtensionsUptoSaid : Prop := fnExactLeastExtensionsUptoRow.holds Try.pinned (OpenSpec.upto fnExactLeastExtensionsSpec)

/-- 'laws.FnExactBillOf', WHERE WHAT IT READS IS OF BULK AT MOST 1048576: true; the input reads as it did. -/
def fnExactBillOfUptoRow : OpenClaim := { program := "ythdncneahdiieaa", sum := "e91ee3054e3849b37fd19815ac82c518caddb3fa2a1550c3931209de76e1878a", func := "loop.example/g03318/laws.FnExactBillOf", spec := "fnExactBillOf", unfollowed := true, recurses := true, apart := false, narrowed := true }
def FnExactBillOfUptoSaid : Prop := fnExactBillOfUptoRow.holds Try.pinned (OpenSpec.upto fnExactBillOfSpec)

/-- 'laws.FnExactCheapestTerms', WHERE WHAT IT READS IS OF BULK AT MOST 1048576: true; the input reads as it did. -/
def fnExactCheapestTermsUptoRow : OpenClaim := { program := "ythdncneahdiieaa", sum := "e91ee3054e3849b37fd19815ac82c518caddb3fa2a1550c3931209de76e1878a", func := "loop.example/g03318/laws.FnExactCheapestTerms", spec := "fnExactCheapestTerms", unfollowed := true, recurses := true, apart := false, narrowed := true }
def FnExactCheapestTermsUptoSaid : Prop := fnExactCheapestTermsUptoRow.holds Try.pinned (OpenSpec.upto fnExactCheapestTermsSpec)

end Rows
end Go.Proofs.Ythdncneahdiieaa
