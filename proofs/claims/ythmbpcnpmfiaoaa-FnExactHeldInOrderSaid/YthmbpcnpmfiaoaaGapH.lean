/- Chapter 2: l02Fill of the model: a gap is filled (gen_gaph.py). -/
import Derived.Test.YthmbpcnpmfiaoaaGapE
import Derived.Test.YthmbpcnpmfiaoaaGapF
import Derived.Test.YthmbpcnpmfiaoaaOwnB
import Derived.Test.YthmbpcnpmfiaoaaAny
import Derived.Deep.DeepCutAuto
import Derived.Deep.CutRange
import Derived.Deep.CutBlock
namespace Go.Proofs.Ythmbpcnpmfiaoaa
open Go.RowKit
set_option linter.unusedVariables false

theorem size2G (W : World) (o p : Obj) : ((W.alloc o).alloc p).heap.size = W.heap.size + 2 := by simp
theorem boxV_snocG (L : List Bx) (x : Bx) : boxV (L ++ [x]) = boxV L ++ boxC x := by simp [boxV]
/-- the answer is a column of the call's own -/
def ColAns0 (z : Int) (F : List Int) (L : List Bx) (w : World) (e : Ending) (w' : World) : Prop := ∃ A2 A3 c2 c3, e = .returned (.agg #[.int .i64 z, .slice A2 F.length c2, .slice A3 L.length c3]) ∧ OR w' w.heap.size 3 A2 (intV F) ∧ OR w' w.heap.size 62 A3 (boxV L) ∧ Below w.heap.size w w'
/-- a column in work: its box, its rows -/
structure FS (w0 wr : World) (gC : Nat) (z : Int) (A2 : Option Addr) (F : List Int) (c2 : Nat) (A' : Option Addr) (c' : Nat) (D : List Bx) : Prop where
  bel : Below w0.heap.size w0 wr
  col : Has wr gC 50 #[.int .i64 z, .slice A2 F.length c2, .slice A' D.length c']
  row : wr.ownsRow w0.heap.size 62 4 (.slice A' D.length c') D.length (boxV D)
  fix : OR wr w0.heap.size 3 A2 (intV F)
section
variable {w0 wr w3 : World} {gC : Nat} {z : Int} {A2 A' A3 : Option Addr} {F : List Int} {c2 c' c3 : Nat} {D : List Bx}
theorem FS.alloc (h : FS w0 wr gC z A2 F c2 A' c' D) (ob : Obj) : FS w0 (wr.alloc ob) gC z A2 F c2 A' c' D := ⟨h.bel.alloc h.bel.size _, has_alloc h.col _, h.row.alloc _, h.fix.alloc_ _⟩
theorem FS.mid (h : FS w0 wr gC z A2 F c2 A' c' D) (hgrow : wr.grownBy w3 (Value.slice A' D.length c').ownBlock) (hrow : ∀ b, (Value.slice A' D.length c').ownBlock = some b → w0.heap.size ≤ b ∧ ∃ cur, Has wr b 62 cur) :
    Has w3 gC 50 #[.int .i64 z, .slice A2 F.length c2, .slice A' D.length c'] :=
  has_grown h.col hgrow (fun e => by
    obtain ⟨_, cur, hc⟩ := hrow gC e.symm
    have := hc.symm.trans h.col
    injection this with this; injection this with _ this _
    exact absurd this (by decide))
theorem FS.app (h : FS w0 wr gC z A2 F c2 A' c' D) (hgC : w0.heap.size ≤ gC) {b : Bx} (hown : w3.ownsRow w0.heap.size 62 4 (.slice A3 (D.length + 1) c3) (D.length + 1) (boxV D ++ boxC b)) (hgrow : wr.grownBy w3 (Value.slice A' D.length c').ownBlock) (hrow : ∀ b, (Value.slice A' D.length c').ownBlock = some b → w0.heap.size ≤ b ∧ ∃ cur, Has wr b 62 cur) :
    FS w0 (w3.setCell ⟨gC, 2, none⟩ (.slice A3 (D.length + 1) c3)) gC z A2 F c2 A3 c3 (D ++ [b]) := by
  have hm := h.mid hgrow hrow
  have hl : (D ++ [b]).length = D.length + 1 := by simp
  refine ⟨?_, ?_, ?_, ?_⟩
  · exact (h.bel.grown hgrow h.bel.size (fun b hb => (hrow b hb).1)).setCell (p := ⟨gC, 2, none⟩) hgC _
  · have := has_set hm 2 (.slice A3 (D.length + 1) c3)
    rw [hl]; simpa using this
  · rw [hl, boxV_snocG]
    exact hown.kept (only_set (only_refl w3 gC) 2 _) (.inr (fun e => by
      obtain ⟨_, cur, hc⟩ := own_has hown _ e
      have := hc.symm.trans hm
      injection this with this; injection this with _ this _
      exact absurd this (by decide)))
  · exact (h.fix.grown_ hgrow (fun b hb => (hrow b hb).2) (by decide)).set_other hm (by decide) 2 _
end
theorem src_bx {w : World} {g : Nat} {x : Bx} {t : TypeId} (h : Has w g t #[.int .i64 x.low, .int .i64 x.size, .int .i64 x.par, .bool x.jam]) : Src w (some ⟨g, 0, none⟩) 1 4 (boxC x) := by
  refine ⟨rfl, fun u hu => ?_, (fun e => by cases e), fun ad e j u hu => ?_⟩
  · simp [boxC] at hu
    rcases hu with rfl | rfl | rfl | rfl <;> rfl
  · injection e with e; subst e
    rw [addrK, Nat.zero_add, cell_of_row w g j _ t (0, 0) h]
    simpa [boxC] using hu
theorem ans_finr0 {w w2 : World} {A2 A3 : Option Addr} {F L : List Value} {e1 e2 : TypeId} (r base : Nat) (hb : Below w.heap.size w w2) (hr : w.heap.size ≤ r) (hbase : r < base) (h2 : OR w2 base e1 A2 F) (h3 : OR w2 base e2 A3 L) (u v x : Value) :
    OR (((w2.setCell ⟨r, 0, none⟩ u).setCell ⟨r, 1, none⟩ v).setCell ⟨r, 2, none⟩ x) w.heap.size e1 A2 F ∧ OR (((w2.setCell ⟨r, 0, none⟩ u).setCell ⟨r, 1, none⟩ v).setCell ⟨r, 2, none⟩ x) w.heap.size e2 A3 L ∧ Below w.heap.size w (((w2.setCell ⟨r, 0, none⟩ u).setCell ⟨r, 1, none⟩ v).setCell ⟨r, 2, none⟩ x) :=
  ⟨(((h2.setlow (by show r < _; omega) _).setlow (by show r < _; omega) _).setlow (by show r < _; omega) _).more (by omega),
   (((h3.setlow (by show r < _; omega) _).setlow (by show r < _; omega) _).setlow (by show r < _; omega) _).more (by omega),
   ((hb.setCell hr _).setCell hr _).setCell hr _⟩
theorem fillL_succ {g : Gp} {p size : Int} {L : List Bx} {k : Nat} {b : Bx} (h : L[k]? = some b) : fillL g p size (L.take (k + 1)) = fillL g p size (L.take k) ++ fillB g p size b := by
  rw [List.take_add_one, h]; simp [fillL]

end Go.Proofs.Ythmbpcnpmfiaoaa
