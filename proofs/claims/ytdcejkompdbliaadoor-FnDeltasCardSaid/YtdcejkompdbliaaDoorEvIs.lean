/- errors.Is over the one sentinel of the project, made by errors.New: asked of nil, and of itself. -/
import Derived.Test.YtdcejkompdbliaaDoorProg
import Derived.WalkKit
import Derived.LaidEql
import Derived.Stop.Asserts
import Derived.RowKitTokens
namespace Go.Proofs.YtdcejkompdbliaaDoor
open Go.RowKit Go.Extern.Stop Go.Stop Go.Extern
set_option linter.unusedVariables false

/-- what Go's Comparable is in the model: some function M -/
theorem isM : ∃ M : Array Value → Sem Value, Extern.find Tryd.f80 = some M ∧ ∀ w : World, (M #[.agg #[.pointer (some ⟨Tryd.prog.globals.size, 108, none⟩)]]).run Tryd.prog w = .ok (.bool true) w :=
  ⟨Extern.ReflectliteType.method fun t => do Extern.Rtype.noPackHeld "Comparable" t; pure (.bool (← typeInfo t).comparable), by kernel_rfl, fun w => by kernel_rfl⟩
theorem isTy : ∃ (r : Value) (M : Array Value → Sem Value), (∀ (v : Value) (w : World), (Extern.ReflectliteType.typeOf #[.iface 108 v]).run Tryd.prog w = .ok (.iface 77 (.agg #[r])) w) ∧
    Extern.find Tryd.f80 = some M ∧ ∀ w : World, (M #[.agg #[r]]).run Tryd.prog w = .ok (.bool true) w := by
  obtain ⟨M, h1, h2⟩ := isM
  exact ⟨_, M, fun v w => by kernel_rfl, h1, h2⟩
theorem isMeth (n : Nat) (v : Value) (w : World) : (Go.method (n + 1) 77 v "Comparable").run Tryd.prog w = .ok (80, v) w := by kernel_rfl
theorem isCo : (Tryd.prog.info? 108).map (·.comparable) = some true := by kernel_rfl
theorem isSz : (Tryd.prog.info? 133).map (·.size) = some 1 := by kernel_rfl
set_option maxRecDepth 100000 in
/-- asked of nil: no -/
theorem isNil8 (b : Addr) (w : World) :
    Calls Tryd.prog 22 #[.nilIface, .iface 108 (.pointer (some b))] w fun e w' => e = .returned (.bool false) ∧ w' = w := by
  have hn := run_eql_iface_nil_left (P := Tryd.prog) w 108 (.pointer (some b)) Tryd.underlying45
  go_enter Tryd.func22, Tryd.ntmps22
  go_wp2
  go_ret
  exact ⟨rfl, rfl⟩
set_option maxRecDepth 100000 in
/-- asked of the sentinel itself: yes -/
theorem isSame8 (a : Addr) (w : World) :
    Calls Tryd.prog 22 #[.iface 108 (.pointer (some a)), .iface 108 (.pointer (some a))] w fun e w' => e = .returned (.bool true) ∧ w' = w := by
  obtain ⟨i, hi, hcmp⟩ := Option.map_eq_some_iff.1 isCo
  obtain ⟨j, hj, hjs⟩ := Option.map_eq_some_iff.1 isSz
  obtain ⟨r, M, tT, hM, cT⟩ := isTy
  have h8 := @run_callFunc_extern Tryd.prog 33 _ Extern.ReflectliteType.typeOf Tryd.func33 (by kernel_rfl) (by kernel_rfl) (by kernel_rfl) (by kernel_rfl)
  have h32 := @run_callFunc_extern Tryd.prog 80 _ M Tryd.func80 (by kernel_rfl) (by kernel_rfl) (by kernel_rfl) hM
  have mR := isMeth
  have heq := run_eql_iface_ptr_same (P := Tryd.prog) w a Tryd.underlying45 Tryd.underlying108 hi hcmp hj
  go_enter Tryd.func22, Tryd.ntmps22
  go_wp2
  refine wp_loop_rounds 1 ?_
  rw [rounds_succ]
  go_wp2
  go_ret
  exact ⟨rfl, rfl⟩
end Go.Proofs.YtdcejkompdbliaaDoor
