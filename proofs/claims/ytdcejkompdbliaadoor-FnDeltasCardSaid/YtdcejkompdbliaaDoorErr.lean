/- The package-level variable that holds the one error of chapter 8: what the row's condition gives, and how it reads. -/
import Derived.Test.YtdcejkompdbliaaDoorEvUn
import Derived.Test.YtdcejkompdbliaaDoorRows
import Derived.ProofKit
import Derived.LaidMore
import Derived.OpenShut
import Derived.Stop.Joined
import Derived.Stop.Texts
import Derived.Stop.LaidErr
import Derived.ChangeVars
import Derived.RowKitTokens
namespace Go.Proofs.YtdcejkompdbliaaDoor
open Go.ChangeShapes Go.WideShapes Go.ChangeAt Go.RowKit Go.Stop
set_option linter.unusedVariables false

def laid1 : List (String × DataW Unit) := [("loop.example/g03318/impl.errContradiction", Rows.laid_loop_example_g03318_impl_errContradiction)]
set_option maxRecDepth 100000 in
/-- The door's own heap meets the condition. -/
theorem door_met (os : Os) (args : Array Value) : laidMetH Tryd.prog laid1 ((World.doorLaid Tryd.prog 400 os).forCall (fun _ _ => 0) ⟨#[], args, []⟩).memory :=
  laidMetH_of_parts3 (fuel := 8) (laidMet_of_run' 8 (by kernel_rfl) (by kernel_rfl)) (by kernel_rfl) (by kernel_rfl)
theorem gErr : Tryd.prog.globalNamed "loop.example/g03318/impl.errContradiction" = some 0 := by kernel_rfl
theorem tErr : (Tryd.prog.globals[0]?).map (·.type) = some 45 := by kernel_rfl
theorem cErr : Tryd.prog.cellsOf 133 = 1 := by kernel_rfl
theorem cStr : Tryd.prog.cellsOf 9 = 1 := by kernel_rfl
theorem starErr : "*" ++ "errors.errorString" = "*errors.errorString" := by decide
set_option maxRecDepth 100000 in
theorem rowErr (u : TypeId) (h : Tryd.prog.typeName? 3 u = some "*errors.errorString") : u = 108 :=
  typeName_ptr_named (nm := "errors.errorString") (by rw [starErr]; kernel_rfl) (by kernel_rfl) (by decide) u (by rw [starErr]; exact h)
abbrev errVal (ad : Addr) : Value := .iface 108 (.pointer (some ad))
set_option maxRecDepth 100000 in
theorem of_laid {W : World} (h : laidMetH Tryd.prog laid1 W) : ∃ ad : Addr, W.var? Tryd.prog "loop.example/g03318/impl.errContradiction" = some #[errVal ad] := by
  rw [MakeChecks.laidMetH_plain _ _ _ (by kernel_rfl)] at h
  obtain ⟨a, s, hv, _⟩ := laid_sentinel h gErr tErr Tryd.underlying45 rowErr Tryd.underlying108 Tryd.underlying133 rfl rfl Tryd.underlying9 cErr cStr
  exact ⟨a, hv⟩
theorem err_of {W : World} {ad : Addr} (h : W.var? Tryd.prog "loop.example/g03318/impl.errContradiction" = some #[errVal ad]) : ErrV W ad := by
  have := World.var?_cell gErr h 0
  simpa [ErrV] using this
theorem var_below {W W' : World} {ad : Addr} (h : W.var? Tryd.prog "loop.example/g03318/impl.errContradiction" = some #[errVal ad]) (hb : Below W.heap.size W W') : W'.var? Tryd.prog "loop.example/g03318/impl.errContradiction" = some #[errVal ad] := by
  have hlt := World.block_lt_of_cell? _ _ (err_of h)
  unfold World.var? at h ⊢
  rw [gErr] at h ⊢
  simp only [Option.bind_some] at h ⊢
  rw [hb.block _ hlt]; exact h
theorem vars_of {H : Type} (enc : TypeId × Value → H) {W : World} {ad : Addr} (h : W.var? Tryd.prog "loop.example/g03318/impl.errContradiction" = some #[errVal ad]) (sp : Nat → Bool) :
    DataW.TrodVars enc Tryd.prog W sp ["loop.example/g03318/impl.errContradiction"] [tok enc (errVal ad)] [.cell 0 0] :=
  vars_read1 enc gErr tErr Tryd.underlying45 h trivial sp
end Go.Proofs.YtdcejkompdbliaaDoor
