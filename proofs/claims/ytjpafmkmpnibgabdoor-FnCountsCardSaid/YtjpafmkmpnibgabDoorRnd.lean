/- The package-level variable that holds the rounds of a code: what the row's condition gives, and how it reads. -/
import Derived.Test.YtjpafmkmpnibgabDoorCodI
import Derived.Test.YtjpafmkmpnibgabDoorRows
import Derived.ProofKit
import Derived.LaidMore
import Derived.OpenShut
import Derived.Stop.Joined
import Derived.ChangeVars
import Derived.Lib.LaidTab
namespace Go.Proofs.YtjpafmkmpnibgabDoor
open Go.ChangeShapes Go.WideShapes Go.ChangeAt Go.RowKit
set_option linter.unusedVariables false

def laid1 : List (String × DataW Unit) := [("loop.example/g03318/impl.rounds", Rows.laid_loop_example_g03318_impl_rounds)]
set_option maxRecDepth 100000 in
/-- The door's own heap meets the condition. -/
theorem door_met (os : Os) (args : Array Value) : laidMetH Tryd.prog laid1 ((World.doorLaid Tryd.prog 400 os).forCall (fun _ _ => 0) ⟨#[], args, []⟩).memory :=
  laidMetH_of_parts3 (fuel := 8) (laidMet_of_run' 8 (by kernel_rfl) (by kernel_rfl)) (by kernel_rfl) (by kernel_rfl)
theorem gRnd : Tryd.prog.globalNamed "loop.example/g03318/impl.rounds" = some 0 := by kernel_rfl
theorem tRnd : (Tryd.prog.globals[0]?).map (·.type) = some 51 := by kernel_rfl
theorem cRnd : Tryd.prog.cellsOf 51 = 3 := by kernel_rfl
theorem cInt : Tryd.prog.cellsOf 3 = 1 := by kernel_rfl
theorem dRnd : (Rows.laid_loop_example_g03318_impl_rounds : DataW Unit) = Lib.tabData .i64 [48271, 48271, 48271] := by kernel_rfl
def cellsR : Array Value := #[.int .i64 48271, .int .i64 48271, .int .i64 48271]
abbrev rndH {H : Type} : DataW H := .agg [.lit (.int .i64 48271), .lit (.int .i64 48271), .lit (.int .i64 48271)]
theorem reads_rnd {H : Type} (enc : TypeId × Value → H) (W : World) (sp : Nat → Bool) : DataW.trod enc Tryd.prog W 0 sp true 3 51 cellsR.toList = some (rndH, []) := by kernel_rfl
set_option maxRecDepth 100000 in
theorem of_laid {W : World} (h : laidMetH Tryd.prog laid1 W) : W.var? Tryd.prog "loop.example/g03318/impl.rounds" = some cellsR := by
  rw [MakeChecks.laidMetH_plain _ _ _ (by kernel_rfl)] at h
  obtain ⟨ps, ⟨g0, t0, cs0, f0, p0, q0, hg0, ht0, hv0, hd0, _, _⟩, _⟩ := h
  obtain rfl := Option.some.inj (gRnd.symm.trans hg0)
  obtain rfl := Option.some.inj (tRnd.symm.trans ht0)
  rw [dRnd] at hd0
  have := Lib.cells_of_tab Tryd.underlying51 Tryd.underlying3 cInt cRnd hd0
  rw [hv0]
  congr 1
  exact Array.toList_inj.1 this
theorem rnd_of {W : World} (h : W.var? Tryd.prog "loop.example/g03318/impl.rounds" = some cellsR) : Rounds W := by
  have h0 := World.var?_cell gRnd h 0
  have h1 := World.var?_cell gRnd h 1
  have h2 := World.var?_cell gRnd h 2
  exact ⟨h0, h1, h2, World.block_lt_of_cell? _ _ h0⟩
theorem var_below {W W' : World} (h : W.var? Tryd.prog "loop.example/g03318/impl.rounds" = some cellsR) (hb : Below W.heap.size W W') : W'.var? Tryd.prog "loop.example/g03318/impl.rounds" = some cellsR := by
  have hlt := (rnd_of h).2.2.2
  unfold World.var? at h ⊢
  rw [gRnd] at h ⊢
  simp only [Option.bind_some] at h ⊢
  rw [hb.block _ hlt]; exact h
theorem vars_of {H : Type} (enc : TypeId × Value → H) {W : World} (h : W.var? Tryd.prog "loop.example/g03318/impl.rounds" = some cellsR) (sp : Nat → Bool) :
    DataW.TrodVars enc Tryd.prog W sp ["loop.example/g03318/impl.rounds"] [rndH] (MemPlace.row ⟨0, 0, none⟩ cellsR.size ++ [] ++ []) :=
  ⟨0, 51, cellsR, 3, [], [], gRnd, tRnd, h, reads_rnd enc W sp, rfl, rfl⟩
/-- how the variable was read -/
theorem open_rnd {H : Type} {enc : TypeId × Value → H} {W : World} {gs : List (DataW H)} {q : List MemPlace} (hL : laidMetH Tryd.prog laid1 W) (hV : DataW.TrodVars enc Tryd.prog W (fun _ => true) ["loop.example/g03318/impl.rounds"] gs q) :
    gs = [rndH] ∧ q = MemPlace.row ⟨0, 0, none⟩ cellsR.size ++ [] := by
  obtain ⟨g, t, cs, fuel, d, p', rfl, hg, ht, hvar, hd, rfl⟩ := trodVars_one hV
  obtain rfl := Option.some.inj (gRnd.symm.trans hg)
  obtain rfl := Option.some.inj (tRnd.symm.trans ht)
  obtain rfl : cs = cellsR := Option.some.inj (hvar.symm.trans (of_laid hL))
  obtain ⟨rfl, rfl⟩ := DataW.Trod.unique (v := .agg cellsR) ⟨fuel, hd⟩ ⟨3, reads_rnd enc W _⟩
  exact ⟨rfl, rfl⟩
end Go.Proofs.YtjpafmkmpnibgabDoor
