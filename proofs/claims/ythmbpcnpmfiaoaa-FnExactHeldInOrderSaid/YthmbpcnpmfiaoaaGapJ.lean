/- Chapter 2: the program's filled, Cleared. -/
import Derived.Test.YthmbpcnpmfiaoaaGapI
namespace Go.Proofs.Ythmbpcnpmfiaoaa
open Go.RowKit
set_option linter.unusedVariables false

theorem map_trx (F : List Int) (L : List Bx) : (L.map (trOf F)).map Tr.x = L := by
  rw [List.map_map]; conv => rhs; rw [← List.map_id L]
  rfl
theorem newB_eq (g : Gp) (p size : Int) : newB g p size = ⟨g.low, size, p, false⟩ :: restL g.low size g.size := rfl
theorem TS.only {w w' : World} {lo g : Nat} {q : Option Addr} {gs : List Nat} {p : Option Addr} {l : List Tr} (h : TS w lo q p gs l) (ho : Only w g w') (hg : g ∉ gs) : TS w' lo q p gs l :=
  h.kept fun g' hg' cs hh => (ho.block g' (has_lt hh) (fun e => hg (by have e' : g' = g := by injection e
                                                                       rw [← e']; exact hg'))).trans hh
theorem has_only {w w' : World} {g k : Nat} {t : TypeId} {cs : Array Value} (h : Has w k t cs) (ho : Only w g w') (hne : k ≠ g) : Has w' k t cs := (ho.block k (has_lt h) (fun e => hne (by injection e))).trans h

end Go.Proofs.Ythmbpcnpmfiaoaa
