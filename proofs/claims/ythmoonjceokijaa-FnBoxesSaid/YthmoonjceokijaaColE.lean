/- Chapter 2: contract of the program's ColumnOk. -/
import Derived.Test.YthmoonjceokijaaColD
namespace Go.Proofs.Ythmoonjceokijaa
open Go.RowKit
set_option linter.unusedVariables false

theorem Cl.one {w : World} {B g : Nat} {x : Cl} (h : Has w g 27 #[.int .i64 x.z, .slice x.AF x.F.length x.cF, .slice x.AB x.L.length x.cB]) (hB : g < B) : KL w B (some ⟨g, 0, none⟩) [x] := by
  refine .inr ⟨g, 0, rfl, hB, fun k y hy => ?_⟩
  have hk : k = 0 := by have := (List.getElem?_eq_some_iff.1 hy).1; simp at this; omega
  subst hk
  simp at hy
  subst hy
  exact ⟨has_cell h 0 rfl, has_cell h 1 rfl, has_cell h 2 rfl⟩
theorem pars_bd {L : List Bx} (h : BoxesTo L L.length) : ∀ b ∈ L, 0 ≤ b.par ∧ b.par ≤ 999 := fun b hb => by
  obtain ⟨k, hk⟩ := List.getElem?_of_mem hb
  have := h k b (List.getElem?_eq_some_iff.1 hk).1 hk
  exact ⟨this.2.2.1, this.2.2.2⟩
theorem col_of {h : Int} {F : List Int} {L : List Bx} (h1 : FixOk h F) (h2 : BoxesW h F L) (h3 : Dis (L.map Bx.par)) : ColOk h F L :=
  ⟨h1, h2.1, h2.2.1, (walls_iff h1 h2.1).1 h2.2.2, h3⟩
theorem of_col {h : Int} {F : List Int} {L : List Bx} (g : ColOk h F L) : FixOk h F ∧ BoxesW h F L ∧ Dis (L.map Bx.par) :=
  ⟨g.fix, ⟨g.box, g.top, (walls_iff g.fix g.box).2 g.wall⟩, g.diff⟩

set_option maxHeartbeats 1000000 in
theorem colI_any (w : World) (B : Nat) (x : Cl) (hB : B ≤ w.heap.size) (hV : CV w B x) :
    Calls Try.prog 12 #[.agg #[.int .i64 x.z, .slice x.AF x.F.length x.cF, .slice x.AB x.L.length x.cB]] w (Tells (ColOk x.z x.F x.L) w) := by
  have HV := Lib.hid hV; clear hV
  go_enter Try.func12, Try.ntmps12
  go_wp2_with fail
  generalize hW0 : w.alloc (.cells #[.int .i64 x.z, .slice x.AF x.F.length x.cF, .slice x.AB x.L.length x.cB] 27) = w0 at *
  have b0 : Below w.heap.size w w0 := by rw [← hW0]; exact balloc _ _
  have k0 : Has w0 w.heap.size 27 #[.int .i64 x.z, .slice x.AF x.F.length x.cF, .slice x.AB x.L.length x.cB] := by rw [← hW0]; exact has_new _ _ _
  clear hW0
  have K0 := Lib.hid k0; clear k0
  have v0 := HV.out.later hB b0
  refine (fixedI_any w0 B x.AF x.cF x.F x.z v0.lf (by have := b0.size; omega) v0.f).mono ?_
  rintro e w1 ⟨b1, rfl, hb1, hw1⟩
  have HB1 := Lib.hid hb1; clear hb1
  have c1 := bthen b0 hw1
  have k1 := has_call K0.out hw1
  have e0 := has_cell k1 0 rfl
  have e1 := has_cell k1 1 rfl
  have e2 := has_cell k1 2 rfl
  have K1 := Lib.hid k1; clear k1
  cases b1
  · go_wp2_with fail
    go_ret
    exact tells_no (fun g => by have := HB1.out.2 (of_col g).1; simp at this) c1
  have hfix := HB1.out.1 rfl
  have v1 := HV.out.later hB c1
  have HFIX := Lib.hid hfix; clear hfix
  go_wp2_with fail
  refine (boxesI_any w1 B x.AF x.AB x.cF x.cB x.z x.F x.L v1.lf v1.lb (by have := c1.size; omega) v1.f v1.b HFIX.out.lo HFIX.out.hi).mono ?_
  rintro e w2 ⟨b2, rfl, hb2, hw2⟩
  have HB2 := Lib.hid hb2; clear hb2
  clear e0 e1 e2
  have c2 := bthen c1 hw2
  have k2 := has_call K1.out hw2
  have e0 := has_cell k2 0 rfl
  have e1 := has_cell k2 1 rfl
  have e2 := has_cell k2 2 rfl
  have K2 := Lib.hid k2; clear k2
  cases b2
  · go_wp2_with fail
    go_ret
    exact tells_no (fun g => by have := HB2.out.2 (of_col g).2.1; simp at this) c2
  have hbox := HB2.out.1 rfl
  have HBOX := Lib.hid hbox; clear hbox
  have hs2 := has_lt K2.out
  go_wp2_with fail
  generalize hW2 : w2.alloc (.cells #[.int .i64 x.z, .slice x.AF x.F.length x.cF, .slice x.AB x.L.length x.cB] 27) = w3 at *
  have b3 : Below w2.heap.size w2 w3 := by rw [← hW2]; exact balloc _ _
  have k3 : Has w3 w2.heap.size 27 #[.int .i64 x.z, .slice x.AF x.F.length x.cF, .slice x.AB x.L.length x.cB] := by rw [← hW2]; exact has_new _ _ _
  clear hW2 e0 e1 e2
  have c3 := bthen c2 b3
  have v3 := (HV.out.later hB c3).more (show B ≤ w3.heap.size by have := c3.size; omega)
  refine (differ_any w3 w3.heap.size (some ⟨w2.heap.size, 0, none⟩) 1 [x] (by unfold maxLen; simp) (Nat.le_refl _) (Cl.one k3 (has_lt k3)) (fun y hy => by rw [List.mem_singleton.1 hy]; exact v3) (fun y hy => by rw [List.mem_singleton.1 hy]; exact pars_bd HBOX.out.1)).mono ?_
  rintro e w4 ⟨b4, rfl, hb4, hw4⟩
  have HB4 := Lib.hid hb4; clear hb4
  have c4 := bthen c3 hw4
  have hap : allPars [x] = x.L.map Bx.par := by simp [allPars, parsOf]
  have HAP := Lib.hid hap; clear hap
  go_wp2_with fail
  go_ret
  refine ⟨b4, rfl, ?_, c4⟩
  have := HB4.out
  rw [HAP.out] at this
  rw [this]
  exact ⟨fun h => col_of HFIX.out HBOX.out h, fun g => g.diff⟩
end Go.Proofs.Ythmoonjceokijaa
