/- What an argument's reading gives: doors, faults and signs, by value. -/
import Derived.Test.YtjcmndbjpbnogaaMem
import Derived.Deep.Slices
import Derived.Deep.Fields
import Derived.ProofKit
import Derived.Lib.SmallJoins
import Derived.OpenShut
namespace Go.Proofs.Ytjcmndbjpbnogaa
open Go.RowKit Go.ChangeShapes Go.WideShapes Go.Deep Go.Joins
set_option linter.unusedVariables false

section
variable {H : Type} {enc : TypeId × Value → H} {P : Program} {w : World} {base : Nat} {spare : Nat → Bool} {held : Bool}
/-- each field of a struct whose fields are one cell each -/
theorem open_aggN {r : Reach} {b0 : Nat} {t : TypeId} {fs : Array Field} {v : Value} {d : DataW H} {p : List MemPlace} (hs : P.underlying t = some (.struct fs)) (hone : oneCellFields P fs = true) (hC : P.cellsOf t = fs.size)
    (hv : Value.okWide P w r b0 t v) (h : DataW.Trod enc P w base spare held t v d p) :
    ∃ cs : Array Value, v = .agg cs ∧ cs.size = fs.size ∧ ∀ (j : Nat) (f : Field), fs[j]? = some f → ∃ (u : Value) (y : DataW H × List MemPlace) (n : Nat), cs[j]? = some u ∧ DataW.trod enc P w base spare held n f.type [u] = some y := by
  obtain ⟨cs, rfl, hsz⟩ := okWide_struct hs hv
  obtain ⟨fuel, hf0⟩ := h
  have hf : DataW.trod enc P w base spare held fuel t cs.toList = some (d, p) := by simpa [Value.cells] using hf0
  refine ⟨cs, rfl, hsz.trans hC, fun j f hj => ?_⟩
  obtain ⟨ys, n', _, _, hlen, hyl, hff⟩ := DataW.trod_struct hs hf
  obtain ⟨ho, hk⟩ := hone_of hone j f hj
  have hjl : j < fs.size := (Array.getElem?_eq_some_iff.1 hj).1
  have h1 := hff j f hj
  rw [ho, hk] at h1
  have hys : ys[j]? = some (ys[j]'(by omega)) := List.getElem?_eq_getElem (by omega)
  rw [hys] at h1
  have hc : j < cs.toList.length := by rw [Array.length_toList]; omega
  have h2 : List.take 1 (List.drop j cs.toList) = [cs.toList[j]] := by rw [List.drop_eq_getElem_cons hc]; rfl
  rw [h2] at h1
  refine ⟨_, _, n', ?_, h1⟩
  rw [← Array.getElem?_toList]
  exact List.getElem?_eq_getElem hc
/-- a field that is an int -/
theorem fieldI {cs : Array Value} {fs : Array Field} (h : ∀ (j : Nat) (f : Field), fs[j]? = some f → ∃ (u : Value) (y : DataW H × List MemPlace) (n : Nat), cs[j]? = some u ∧ DataW.trod enc P w base spare held n f.type [u] = some y)
    (j : Nat) (f : Field) (hj : fs[j]? = some f) (ht : P.underlying f.type = some (.int .i64)) : ∃ x : Int, cs[j]? = some (.int .i64 x) ∧ (Lit.int .i64 x).wf = true := by
  obtain ⟨u, y, n, hu, htr⟩ := h j f hj
  obtain ⟨x, hx, _, hw⟩ := DataW.trod_int ht htr
  have e : u = .int .i64 x := by injection hx
  exact ⟨x, by rw [hu, e], hw⟩
/-- a field that is a bool -/
theorem fieldB {cs : Array Value} {fs : Array Field} (h : ∀ (j : Nat) (f : Field), fs[j]? = some f → ∃ (u : Value) (y : DataW H × List MemPlace) (n : Nat), cs[j]? = some u ∧ DataW.trod enc P w base spare held n f.type [u] = some y)
    (j : Nat) (f : Field) (hj : fs[j]? = some f) (ht : P.underlying f.type = some .bool) : ∃ x : Bool, cs[j]? = some (.bool x) := by
  obtain ⟨u, y, n, hu, htr⟩ := h j f hj
  obtain ⟨x, hx, _⟩ := DataW.trod_bool ht htr
  have e : u = .bool x := by injection hx
  exact ⟨x, by rw [hu, e]⟩
theorem array5_of {cs : Array Value} {a b c d e : Value} (h : cs.size = 5) (h0 : cs[0]? = some a) (h1 : cs[1]? = some b) (h2 : cs[2]? = some c) (h3 : cs[3]? = some d) (h4 : cs[4]? = some e) : cs = #[a, b, c, d, e] := by
  obtain ⟨l⟩ := cs
  match l, h with
  | [x0, x1, x2, x3, x4], _ => simp at h0 h1 h2 h3 h4; simp [h0, h1, h2, h3, h4]
theorem array4_of {cs : Array Value} {a b c d : Value} (h : cs.size = 4) (h0 : cs[0]? = some a) (h1 : cs[1]? = some b) (h2 : cs[2]? = some c) (h3 : cs[3]? = some d) : cs = #[a, b, c, d] := by
  obtain ⟨l⟩ := cs
  match l, h with
  | [x0, x1, x2, x3], _ => simp at h0 h1 h2 h3; simp [h0, h1, h2, h3]
theorem array2_of {cs : Array Value} {a b : Value} (h : cs.size = 2) (h0 : cs[0]? = some a) (h1 : cs[1]? = some b) : cs = #[a, b] := by
  obtain ⟨l⟩ := cs
  match l, h with
  | [x0, x1], _ => simp at h0 h1; simp [h0, h1]
/-- four ints -/
theorem open_int4 {r : Reach} {b0 : Nat} {t : TypeId} {f0 f1 f2 f3 : Field} {v : Value} {d : DataW H} {p : List MemPlace} (hs : P.underlying t = some (.struct #[f0, f1, f2, f3])) (hone : oneCellFields P #[f0, f1, f2, f3] = true) (hC : P.cellsOf t = 4)
    (h0 : P.underlying f0.type = some (.int .i64)) (h1 : P.underlying f1.type = some (.int .i64)) (h2 : P.underlying f2.type = some (.int .i64)) (h3 : P.underlying f3.type = some (.int .i64))
    (hv : Value.okWide P w r b0 t v) (h : DataW.Trod enc P w base spare held t v d p) :
    ∃ a b c e : Int, v = .agg #[.int .i64 a, .int .i64 b, .int .i64 c, .int .i64 e] ∧ ((Lit.int .i64 a).wf = true ∧ (Lit.int .i64 b).wf = true ∧ (Lit.int .i64 c).wf = true ∧ (Lit.int .i64 e).wf = true) := by
  obtain ⟨cs, rfl, hsz, hall⟩ := open_aggN hs hone hC hv h
  obtain ⟨a, ha, wa⟩ := fieldI hall 0 f0 rfl h0
  obtain ⟨b, hb, wb⟩ := fieldI hall 1 f1 rfl h1
  obtain ⟨c, hc, wc⟩ := fieldI hall 2 f2 rfl h2
  obtain ⟨e, he, we⟩ := fieldI hall 3 f3 rfl h3
  exact ⟨a, b, c, e, by rw [array4_of hsz ha hb hc he], wa, wb, wc, we⟩
/-- four flags -/
theorem open_bool4 {r : Reach} {b0 : Nat} {t : TypeId} {f0 f1 f2 f3 : Field} {v : Value} {d : DataW H} {p : List MemPlace} (hs : P.underlying t = some (.struct #[f0, f1, f2, f3])) (hone : oneCellFields P #[f0, f1, f2, f3] = true) (hC : P.cellsOf t = 4)
    (h0 : P.underlying f0.type = some .bool) (h1 : P.underlying f1.type = some .bool) (h2 : P.underlying f2.type = some .bool) (h3 : P.underlying f3.type = some .bool)
    (hv : Value.okWide P w r b0 t v) (h : DataW.Trod enc P w base spare held t v d p) :
    ∃ a b c e : Bool, v = .agg #[.bool a, .bool b, .bool c, .bool e] := by
  obtain ⟨cs, rfl, hsz, hall⟩ := open_aggN hs hone hC hv h
  obtain ⟨a, ha⟩ := fieldB hall 0 f0 rfl h0
  obtain ⟨b, hb⟩ := fieldB hall 1 f1 rfl h1
  obtain ⟨c, hc⟩ := fieldB hall 2 f2 rfl h2
  obtain ⟨e, he⟩ := fieldB hall 3 f3 rfl h3
  exact ⟨a, b, c, e, by rw [array4_of hsz ha hb hc he]⟩
/-- two ints and three flags -/
theorem open_door {r : Reach} {b0 : Nat} {t : TypeId} {f0 f1 f2 f3 f4 : Field} {v : Value} {d : DataW H} {p : List MemPlace} (hs : P.underlying t = some (.struct #[f0, f1, f2, f3, f4])) (hone : oneCellFields P #[f0, f1, f2, f3, f4] = true) (hC : P.cellsOf t = 5)
    (h0 : P.underlying f0.type = some (.int .i64)) (h1 : P.underlying f1.type = some (.int .i64)) (h2 : P.underlying f2.type = some .bool) (h3 : P.underlying f3.type = some .bool) (h4 : P.underlying f4.type = some .bool)
    (hv : Value.okWide P w r b0 t v) (h : DataW.Trod enc P w base spare held t v d p) :
    ∃ (a b : Int) (c e g : Bool), v = .agg #[.int .i64 a, .int .i64 b, .bool c, .bool e, .bool g] ∧ ((Lit.int .i64 a).wf = true ∧ (Lit.int .i64 b).wf = true) := by
  obtain ⟨cs, rfl, hsz, hall⟩ := open_aggN hs hone hC hv h
  obtain ⟨a, ha, wa⟩ := fieldI hall 0 f0 rfl h0
  obtain ⟨b, hb, wb⟩ := fieldI hall 1 f1 rfl h1
  obtain ⟨c, hc⟩ := fieldB hall 2 f2 rfl h2
  obtain ⟨e, he⟩ := fieldB hall 3 f3 rfl h3
  obtain ⟨g, hg⟩ := fieldB hall 4 f4 rfl h4
  exact ⟨a, b, c, e, g, by rw [array5_of hsz ha hb hc he hg], wa, wb⟩
end
end Go.Proofs.Ytjcmndbjpbnogaa
