/- Chapter 2: columns whose walls' row is the call's own, with its capacity (gen_own.py). -/
import Derived.Test.YthmoonjceokijaaGapQ
import Derived.Test.YthmoonjceokijaaColN
import Derived.Test.YthmoonjceokijaaColG
namespace Go.Proofs.Ythmoonjceokijaa
open Go.RowKit
set_option linter.unusedVariables false

/-- a row of the call's own, one cell an element, with its capacity -/
def OQ (n : Nat) (w : World) (base : Nat) (e : TypeId) (A : Option Addr) (xs : List Value) : Prop := w.ownsRow base e 1 (.slice A xs.length n) xs.length xs
section
variable {w w' : World} {base B n : Nat} {e e' : TypeId} {A : Option Addr} {xs : List Value}
theorem OQ.or (h : OQ n w base e A xs) : OR w base e A xs := or_of h
theorem oq_of {m c : Nat} (h : w.ownsRow base e 1 (.slice A m c) m xs) : OQ c w base e A xs := by
  have hl : xs.length = m := by have := h.1; omega
  subst hl; exact h
theorem OQ.kept (h : OQ n w base e A xs) (hk : ∀ g, base ≤ g → (∃ cur, Has w g e cur) → w'.heap[g]? = w.heap[g]?) : OQ n w' base e A xs := by
  obtain ⟨h1, h2 | ⟨g, cap, cur, hv, hb, hh, r⟩⟩ := h
  · exact ⟨h1, .inl h2⟩
  · exact ⟨h1, .inr ⟨g, cap, cur, hv, hb, (hk g hb ⟨cur, hh⟩).trans hh, r⟩⟩
theorem OQ.below (h : OQ n w base e A xs) (hb : Below w.heap.size w w') : OQ n w' base e A xs := h.kept fun g _ ⟨_, hc⟩ => hb.block g (has_lt hc)
theorem OQ.alloc_ (h : OQ n w base e A xs) (o : Obj) : OQ n (w.alloc o) base e A xs := h.below (balloc w o)
theorem OQ.more (h : OQ n w base e A xs) (hB : B ≤ base) : OQ n w B e A xs := by
  obtain ⟨h1, h2 | ⟨g, cap, cur, hv, hb, r⟩⟩ := h
  · exact ⟨h1, .inl h2⟩
  · exact ⟨h1, .inr ⟨g, cap, cur, hv, by omega, r⟩⟩
theorem OQ.setlow (h : OQ n w base e A xs) {p : Addr} (hp : p.block < base) (v : Value) : OQ n (w.setCell p v) base e A xs := h.kept fun g hg _ => Below.heap_setCell w p v g (by omega)
theorem OQ.set_other {g : Nat} {cur : Array Value} (h : OQ n w base e A xs) (hh : Has w g e' cur) (hne : e ≠ e') (i : Nat) (v : Value) : OQ n (w.setCell ⟨g, i, none⟩ v) base e A xs :=
  h.kept fun k _ ⟨_, hc⟩ => Below.heap_setCell w ⟨g, i, none⟩ v k (fun eq => by
    have eq : k = g := eq
    subst eq
    have := hc.symm.trans hh
    injection this with this; injection this with _ this _
    exact hne this)
theorem OQ.grown_ {row : Option Nat} (h : OQ n w base e A xs) (hg : w.grownBy w' row) (hr : ∀ b, row = some b → ∃ cur, Has w b e' cur) (hne : e ≠ e') : OQ n w' base e A xs :=
  h.kept fun k _ ⟨_, hc⟩ => hg.block k (has_lt hc) (fun eq => by
    obtain ⟨cur', h'⟩ := hr k eq.symm
    have := hc.symm.trans h'
    injection this with this; injection this with _ this _
    exact hne this)
theorem OQ.il {l : List Int} (h : OQ n w base e A (intV l)) : IL w w.heap.size A l := h.or.il
end
theorem copy_fino {w w0 w2 : World} {n : Nat} {A2 A3 : Option Addr} {F L : List Value} {e1 e2 : TypeId} (b0 : Below w.heap.size w w0) (hb : Below (w.heap.size + 1) w0 w2) (h2 : OQ n w2 (w.heap.size + 2) e1 A2 F) (h3 : OR w2 (w.heap.size + 2) e2 A3 L) (hz : w.heap.size + 2 ≤ w2.heap.size) (u v x : Value) :
    OQ n (((w2.setCell ⟨w.heap.size + 1, 0, none⟩ u).setCell ⟨w.heap.size + 1, 1, none⟩ v).setCell ⟨w.heap.size + 1, 2, none⟩ x) w.heap.size e1 A2 F ∧ OR (((w2.setCell ⟨w.heap.size + 1, 0, none⟩ u).setCell ⟨w.heap.size + 1, 1, none⟩ v).setCell ⟨w.heap.size + 1, 2, none⟩ x) w.heap.size e2 A3 L ∧ Below w.heap.size w (((w2.setCell ⟨w.heap.size + 1, 0, none⟩ u).setCell ⟨w.heap.size + 1, 1, none⟩ v).setCell ⟨w.heap.size + 1, 2, none⟩ x) :=
  ⟨(((h2.setlow (by show w.heap.size + 1 < _; omega) _).setlow (by show w.heap.size + 1 < _; omega) _).setlow (by show w.heap.size + 1 < _; omega) _).more (by omega),
   (((h3.setlow (by show w.heap.size + 1 < _; omega) _).setlow (by show w.heap.size + 1 < _; omega) _).setlow (by show w.heap.size + 1 < _; omega) _).more (by omega),
   (((b0.trans (hb.mono (by omega))).setCell (by simp) _).setCell (by simp) _).setCell (by simp) _⟩

set_option maxRecDepth 100000 in
set_option maxHeartbeats 8000000 in
theorem copySo_any (w : World) (B : Nat) (x : Cl) (lf : x.F.length ≤ 1048576) (lb : x.L.length ≤ 1048576) (hB : B ≤ w.heap.size) (hV : CV w B x) :
    Calls Try.prog 32 #[.agg #[.int .i64 x.z, .slice x.AF x.F.length x.cF, .slice x.AB x.L.length x.cB]] w fun e w' => ∃ A2 A3 n2 n3, e = .returned (.agg #[.int .i64 x.z, .slice A2 x.F.length n2, .slice A3 x.L.length n3]) ∧ OQ n2 w' w.heap.size 3 A2 (intV x.F) ∧ OR w' w.heap.size 47 A3 (boxV x.L) ∧ Below w.heap.size w w' := by
  have HV := Lib.hid hV; clear hV
  obtain ⟨i0, hi0, hz0, hz1, hz2⟩ := info_parts intInfo
  obtain ⟨j0, hj0, hy0, hy1, hy2⟩ := info_parts boxInfo
  go_enter Try.func32, Try.ntmps32
  go_wp2_with fail
  generalize hW0 : (w.alloc (.cells #[.int .i64 x.z, .slice x.AF x.F.length x.cF, .slice x.AB x.L.length x.cB] 27)).alloc (.cells #[.int .i64 0, .slice none 0 0, .slice none 0 0] 27) = w0
  have b0 : Below w.heap.size w w0 := by rw [← hW0]; exact bthen (balloc _ _) (balloc _ _)
  have k0 : Has w0 w.heap.size 27 #[.int .i64 x.z, .slice x.AF x.F.length x.cF, .slice x.AB x.L.length x.cB] := by rw [← hW0]; exact has_alloc (has_new _ _ _) _
  have k1 : Has w0 (w.heap.size + 1) 27 #[.int .i64 0, .slice none 0 0, .slice none 0 0] := by rw [← hW0]; have := has_new (w.alloc (.cells #[.int .i64 x.z, .slice x.AF x.F.length x.cF, .slice x.AB x.L.length x.cB] 27)) 27 #[.int .i64 0, .slice none 0 0, .slice none 0 0]; simpa using this
  clear hW0
  have e0 := has_cell k0 0 rfl
  have e1 := has_cell k0 1 rfl
  have e2 := has_cell k0 2 rfl
  have K0 := Lib.hid k0; have K1 := Lib.hid k1; clear k0
  have hz : w.heap.size + 1 < w0.heap.size := has_lt k1
  clear k1
  have v0 := HV.out.later hB b0
  have V0 := Lib.hid v0; clear v0
  have hb0z := b0.size
  have hBz : B ≤ w0.heap.size := by omega
  have S0 : (fun W : World => (W.cell? ⟨w.heap.size, 0, none⟩ = some (.int .i64 x.z) ∧ W.cell? ⟨w.heap.size, 1, none⟩ = some (.slice x.AF x.F.length x.cF) ∧ W.cell? ⟨w.heap.size, 2, none⟩ = some (.slice x.AB x.L.length x.cB)) ∧ Below (w.heap.size + 1) w0 W) w0.drew := ⟨⟨e0, e1, e2⟩, (Below.refl _ _).drew⟩
  clear e0 e1 e2
  have hw0 : w.heap.size + 1 ≤ w0.heap.size := by omega
  have hw2 : w.heap.size + 2 ≤ w0.heap.size := by omega
  have hw3 : w.heap.size + 2 ≤ w0.heap.size + 1 := by omega
  have hB1 : B ≤ w.heap.size + 1 := by omega
  go_region_held3 (fun W : World => (W.cell? ⟨w.heap.size, 0, none⟩ = some (.int .i64 x.z) ∧ W.cell? ⟨w.heap.size, 1, none⟩ = some (.slice x.AF x.F.length x.cF) ∧ W.cell? ⟨w.heap.size, 2, none⟩ = some (.slice x.AB x.L.length x.cB)) ∧ Below (w.heap.size + 1) w0 W) (first | assumption | exact keepA w.heap.size (w.heap.size + 1) _ (Nat.lt_add_one _) hw0 (by assumption) | exact ⟨⟨(cell_far3 (Nat.lt_add_one _) _ _ _ _ _ _ _).trans hSx.1.1, (cell_far3 (Nat.lt_add_one _) _ _ _ _ _ _ _).trans hSx.1.2.1, (cell_far3 (Nat.lt_add_one _) _ _ _ _ _ _ _).trans hSx.1.2.2⟩, ((hSx.2.setCell (p := ⟨w.heap.size + 1, 0, none⟩) (Nat.le_refl _) _).setCell (p := ⟨w.heap.size + 1, 1, none⟩) (Nat.le_refl _) _).setCell (p := ⟨w.heap.size + 1, 2, none⟩) (Nat.le_refl _) _⟩) (first
    | ((refine step_app rfl _ _ 24 rfl (w.heap.size + 2) 3 i0 (.int .i64 0) 1 8 Try.underlying24 hi0 hz0 hz1 hz2 rfl (by decide) _ 0 [] rfl ?_ x.AF x.F.length x.cF (intV x.F) rfl ?_ ?_ ?_ ?_ ?_); (first | exact (owns_at w0 (w.heap.size + 2) 3 1 _ rfl hw2).drew | exact ((owns_at w0 (w.heap.size + 2) 3 1 _ rfl hw2).alloc _).drew | exact (owns_at (w0.alloc _) (w.heap.size + 2) 3 1 _ (by simp) hw3).drew | exact (owns_at _ (w.heap.size + 2) 3 1 _ rfl hz9) | exact ((owns_at w0 (w.heap.size + 2) 3 1 _ rfl hw2).alloc _).drew.kept hgx (.inr (fun e => by have e' := Option.some.inj (show some _ = some _ from e); exact absurd e' (by simp))) | exact (owns_at (w0.alloc _) (w.heap.size + 2) 3 1 _ (by simp) hw3).drew.kept hgx (.inr (fun e => by have e' := Option.some.inj (show some _ = some _ from e); exact absurd e' (by simp)))); (exact il_src (B := B) (V0.out.f.below (Below.mono (And.right (by assumption)) hB1))); (unfold maxLen; omega); omega; (first | exact hz9 | (simp; omega)); (intro A2 n2 w1 hown1 hgx hb1; have hSx := keepG w.heap.size (w.heap.size + 1) (Nat.lt_add_one _) hw0 (by assumption) hgx (fun b e => by have := (hb1 b e).1; omega); have hz9 := hSx.2.size; have hz9 := Nat.le_trans hw2 hz9; have KT : Has w1 (w.heap.size + 1) 27 #[.int .i64 0, .slice none 0 0, .slice none 0 0] := has_grown (by first | exact has_alloc K1.out _ | exact has_alloc (has_alloc K1.out _) _ | exact KT | exact has_alloc KT _) hgx (fun e => by have := (hb1 _ e.symm).1; omega); have y0 := has_cell KT 0 rfl; have y1 := has_cell KT 1 rfl; have y2 := has_cell KT 2 rfl; have f0 := has_free KT 0; have f1 := has_free KT 1; have f2 := has_free KT 2; have O2 := oq_of hown1; try have O3 := OR.grown_ (by first | exact O3 | exact O3.alloc_ _) hgx (fun b e => (hb1 b e).2) (by decide)))
    | ((refine step_app rfl _ _ 25 rfl (w.heap.size + 2) 47 j0 (.agg #[.int .i64 0, .int .i64 0, .int .i64 0, .bool false]) 4 32 Try.underlying25 hj0 hy0 hy1 hy2 rfl (by decide) _ 0 [] rfl ?_ x.AB x.L.length x.cB (boxV x.L) rfl ?_ ?_ ?_ ?_ ?_); (first | exact (owns_at w0 (w.heap.size + 2) 47 4 _ rfl hw2).drew | exact ((owns_at w0 (w.heap.size + 2) 47 4 _ rfl hw2).alloc _).drew | exact (owns_at (w0.alloc _) (w.heap.size + 2) 47 4 _ (by simp) hw3).drew | exact (owns_at _ (w.heap.size + 2) 47 4 _ rfl hz9) | exact ((owns_at w0 (w.heap.size + 2) 47 4 _ rfl hw2).alloc _).drew.kept hgx (.inr (fun e => by have e' := Option.some.inj (show some _ = some _ from e); exact absurd e' (by simp))) | exact (owns_at (w0.alloc _) (w.heap.size + 2) 47 4 _ (by simp) hw3).drew.kept hgx (.inr (fun e => by have e' := Option.some.inj (show some _ = some _ from e); exact absurd e' (by simp)))); (exact xl_src (B := B) (V0.out.b.below (Below.mono (And.right (by assumption)) hB1))); (unfold maxLen; omega); omega; (first | exact hz9 | (simp; omega)); (intro A3 n3 w2 hown2 hgx hb2; have hSx := keepG w.heap.size (w.heap.size + 1) (Nat.lt_add_one _) hw0 (by assumption) hgx (fun b e => by have := (hb2 b e).1; omega); have hz9 := hSx.2.size; have hz9 := Nat.le_trans hw2 hz9; have KT : Has w2 (w.heap.size + 1) 27 #[.int .i64 0, .slice none 0 0, .slice none 0 0] := has_grown (by first | exact has_alloc K1.out _ | exact has_alloc (has_alloc K1.out _) _ | exact KT | exact has_alloc KT _) hgx (fun e => by have := (hb2 _ e.symm).1; omega); have y0 := has_cell KT 0 rfl; have y1 := has_cell KT 1 rfl; have y2 := has_cell KT 2 rfl; have f0 := has_free KT 0; have f1 := has_free KT 1; have f2 := has_free KT 2; have O3 := or_of hown2; try have O2 := OQ.grown_ (by first | exact O2 | exact O2.alloc_ _) hgx (fun b e => (hb2 b e).2) (by decide))))
  all_goals
    have hold := has_set (has_set (has_set KT 0 (.int .i64 x.z)) 1 (.slice A2 x.F.length n2)) 2 (.slice A3 x.L.length n3)
    simp only [List.setIfInBounds_toArray, List.set_cons_zero, List.set_cons_succ] at hold
    have g0 := has_cell hold 0 rfl
    have g1 := has_cell hold 1 rfl
    have g2 := has_cell hold 2 rfl
    rw [List.nil_append] at O2 O3
    have fin := copy_fino b0 hSx.2 O2 O3 hz9 (Value.int .i64 x.z) (Value.slice A2 x.F.length n2) (Value.slice A3 x.L.length n3)
    have FIN := Lib.hid fin
    clear fin hSx KT hold O2 O3 y0 y1 y2 f0 f1 f2 hgx S0
    go_wp2_with fail
    refine bodyPost_ret (v := .agg #[.int .i64 x.z, .slice A2 x.F.length n2, .slice A3 x.L.length n3]) (by simp [results, Try.results32, go_sem, g0, g1, g2]) rfl ⟨A2, A3, n2, n3, rfl, FIN.out⟩
end Go.Proofs.Ythmoonjceokijaa
