/- Chapter 2: copies of a column: slices.Clone of the program, the appends of the model. -/
import Derived.Test.YthmoonjceokijaaColC
import Derived.Test.YthmoonjceokijaaColE
import Derived.Test.YthmoonjceokijaaOwn
import Derived.Deep.DeepMust
import Derived.Deep.RegionHeld3
import Derived.Deep.AppendLies
import Derived.WalkSpells
import Derived.Lib.SliceRun
namespace Go.Proofs.Ythmoonjceokijaa
open Go.RowKit
set_option linter.unusedVariables false

theorem addrK (b off i : Nat) : (Addr.mk b off none).add i = ⟨b, off + i, none⟩ := by
  unfold Addr.add
  split
  · rename_i h; subst h; rfl
  · rfl
theorem il_news {w : World} {B : Nat} {a : Addr} {l : List Int} (h : IL w B (some a) l) : ∀ (j : Nat) (u : Value), (intV l)[j]? = some u → w.cell? (a.add j) = some u := by
  intro j u hu
  have hj : j < l.length := by have := (List.getElem?_eq_some_iff.1 hu).1; rwa [intV_len] at this
  rcases h with h | ⟨b, off, e, _, hc⟩
  · rw [h] at hj; simp at hj
  · injection e with e; subst e
    rw [addrK]
    have hx := List.getElem?_eq_getElem hj
    rw [intV_at hx] at hu
    rw [← hu]; exact hc j _ hx
theorem xl_news {w : World} {B : Nat} {a : Addr} {l : List Bx} (h : XL w B (some a) l) : ∀ (j : Nat) (u : Value), (boxV l)[j]? = some u → w.cell? (a.add j) = some u := by
  intro j u hu
  have hj : j < 4 * l.length := by have := (List.getElem?_eq_some_iff.1 hu).1; rwa [boxV_len] at this
  obtain ⟨q, r, rfl, hr⟩ : ∃ q r, j = q * 4 + r ∧ r < 4 := ⟨j / 4, j % 4, by omega, by omega⟩
  have hq : q < l.length := by omega
  have hx := List.getElem?_eq_getElem hq
  have h1 := boxV_at hx
  rcases h with h | ⟨b, off, e, _, hc⟩
  · rw [h] at hq; simp at hq
  · injection e with e; subst e
    have h2 := hc q _ hx
    rw [addrK]
    rcases r with _ | _ | _ | _ | r
    · rw [Nat.add_zero] at hu ⊢; rw [h1.1] at hu; rw [← hu]; exact h2.1
    · rw [h1.2.1] at hu; rw [← hu, ← Nat.add_assoc]; exact h2.2.1
    · rw [h1.2.2.1] at hu; rw [← hu, ← Nat.add_assoc]; exact h2.2.2.1
    · rw [h1.2.2.2] at hu; rw [← hu, ← Nat.add_assoc]; exact h2.2.2.2
    · omega
theorem il_none {w : World} {B : Nat} {l : List Int} (h : IL w B none l) : l = [] := by
  rcases h with h | ⟨b, off, e, _⟩
  · exact h
  · cases e
theorem xl_none {w : World} {B : Nat} {l : List Bx} (h : XL w B none l) : l = [] := by
  rcases h with h | ⟨b, off, e, _⟩
  · exact h
  · cases e
theorem int_one {l : List Int} : ∀ u ∈ intV l, u.oneCell' = true := by
  intro u hu
  obtain ⟨x, _, rfl⟩ := List.mem_map.1 hu
  rfl
theorem box_one {l : List Bx} : ∀ u ∈ boxV l, u.oneCell' = true := by
  intro u hu
  obtain ⟨x, _, hx⟩ := List.mem_flatMap.1 hu
  simp [boxC] at hx
  rcases hx with rfl | rfl | rfl | rfl <;> rfl

set_option maxRecDepth 100000 in
set_option maxHeartbeats 400000 in
theorem cloneInt_any (w : World) (B : Nat) (A : Option Addr) (c : Nat) (l : List Int) (hl : l.length ≤ 1048576) (hB : B ≤ w.heap.size) (hS : IL w B A l) :
    Calls Try.prog 52 #[.slice A l.length c] w fun e w' => ∃ A' c', e = .returned (.slice A' l.length c') ∧ OR w' w.heap.size 3 A' (intV l) ∧ Below w.heap.size w w' := by
  obtain ⟨i0, hi0, hz0, hz1, hz2⟩ := info_parts intInfo
  rcases A with _ | a
  · obtain rfl := il_none hS
    have hn := fun (w : World) (n c n' c' : Nat) => Lib.run_eql_slice_nil (P := Try.prog) w 24 3 none n c n' c' Try.underlying24
    go_enter Try.func52, Try.ntmps52
    go_wp2
    go_ret
    exact ⟨none, 0, rfl, .inl rfl, Below.refl _ _⟩
  · have HS := Lib.hid hS; clear hS
    have hn := fun (w : World) (n c n' c' : Nat) => Lib.run_eql_slice_nil (P := Try.prog) w 24 3 (some a) n c n' c' Try.underlying24
    go_enter Try.func52, Try.ntmps52
    go_wp2_with (at_builtin; go_must (refine wpList_append_own _ rfl _ _ 24 rfl w.heap.size 3 i0 (.int .i64 0) 1 8 Try.underlying24 hi0 hz0 hz1 hz2 rfl (by decide) _ _ _ rfl (World.ownsRow_lit (base := w.heap.size) (e := 3) (size := 1) w #[] 0 (Nat.le_refl _) (Nat.zero_le _) rfl) a l.length c (intV l) rfl (by simp [intV_len]) (il_news (HS.out.later hB (balloc _ _))) int_one (by unfold maxLen; omega) (by omega) (by simp) ?_))
    intro v' w3 hown hgrow _
    obtain ⟨A', c', rfl, hor⟩ := or_own hown
    go_wp2
    go_ret
    refine ⟨A', c', by simp, by simpa using hor, ?_⟩
    exact (balloc w (.cells #[] 3)).grown hgrow (by simp) (fun k hk => by simp [Value.ownBlock] at hk; omega)

set_option maxRecDepth 100000 in
set_option maxHeartbeats 400000 in
theorem cloneBox_any (w : World) (B : Nat) (A : Option Addr) (c : Nat) (l : List Bx) (hl : l.length ≤ 1048576) (hB : B ≤ w.heap.size) (hS : XL w B A l) :
    Calls Try.prog 53 #[.slice A l.length c] w fun e w' => ∃ A' c', e = .returned (.slice A' l.length c') ∧ OR w' w.heap.size 47 A' (boxV l) ∧ Below w.heap.size w w' := by
  obtain ⟨i0, hi0, hz0, hz1, hz2⟩ := info_parts boxInfo
  rcases A with _ | a
  · obtain rfl := xl_none hS
    have hn := fun (w : World) (n c n' c' : Nat) => Lib.run_eql_slice_nil (P := Try.prog) w 25 47 none n c n' c' Try.underlying25
    go_enter Try.func53, Try.ntmps53
    go_wp2
    go_ret
    exact ⟨none, 0, rfl, .inl rfl, Below.refl _ _⟩
  · have HS := Lib.hid hS; clear hS
    have hn := fun (w : World) (n c n' c' : Nat) => Lib.run_eql_slice_nil (P := Try.prog) w 25 47 (some a) n c n' c' Try.underlying25
    go_enter Try.func53, Try.ntmps53
    go_wp2_with (at_builtin; go_must (refine wpList_append_own _ rfl _ _ 25 rfl w.heap.size 47 i0 (.agg #[.int .i64 0, .int .i64 0, .int .i64 0, .bool false]) 4 32 Try.underlying25 hi0 hz0 hz1 hz2 rfl (by decide) _ _ _ rfl (World.ownsRow_lit (base := w.heap.size) (e := 47) (size := 4) w #[] 0 (Nat.le_refl _) (Nat.zero_le _) rfl) a l.length c (boxV l) rfl (by rw [boxV_len]; omega) (xl_news (HS.out.later hB (balloc _ _))) box_one (by unfold maxLen; omega) (by omega) (by simp) ?_))
    intro v' w3 hown hgrow _
    obtain ⟨A', c', rfl, hor⟩ := or_own hown
    go_wp2
    go_ret
    refine ⟨A', c', by simp, by simpa using hor, ?_⟩
    exact (balloc w (.cells #[] 47)).grown hgrow (by simp) (fun k hk => by simp [Value.ownBlock] at hk; omega)

theorem cell_far3 {w : World} {g q : Nat} (h : q < g) (o i j k : Nat) (u v x : Value) : (((w.setCell ⟨g, i, none⟩ u).setCell ⟨g, j, none⟩ v).setCell ⟨g, k, none⟩ x).cell? ⟨q, o, none⟩ = w.cell? ⟨q, o, none⟩ := by
  rw [World.cell?_setCell_other _ _ _ _ (fun e => by injection e; omega), World.cell?_setCell_other _ _ _ _ (fun e => by injection e; omega), World.cell?_setCell_other _ _ _ _ (fun e => by injection e; omega)]

theorem keepA {w0 w : World} (q g : Nat) {a b c : Value} (o : Obj) (h : q < g) (hz : g ≤ w0.heap.size) (hS : (w.cell? ⟨q, 0, none⟩ = some a ∧ w.cell? ⟨q, 1, none⟩ = some b ∧ w.cell? ⟨q, 2, none⟩ = some c) ∧ Below g w0 w) :
    ((w.alloc o).cell? ⟨q, 0, none⟩ = some a ∧ (w.alloc o).cell? ⟨q, 1, none⟩ = some b ∧ (w.alloc o).cell? ⟨q, 2, none⟩ = some c) ∧ Below g w0 (w.alloc o) := by
  have hs := hS.2.size
  have k : ∀ i, (w.alloc o).cell? ⟨q, i, none⟩ = w.cell? ⟨q, i, none⟩ := fun i => bold (balloc w o) _ _ (by omega)
  exact ⟨⟨(k 0).trans hS.1.1, (k 1).trans hS.1.2.1, (k 2).trans hS.1.2.2⟩, hS.2.alloc (by omega) _⟩
theorem keepG {w0 w w' : World} (q g : Nat) {a b c : Value} {row : Option Nat} (h : q < g) (hz : g ≤ w0.heap.size) (hS : (w.cell? ⟨q, 0, none⟩ = some a ∧ w.cell? ⟨q, 1, none⟩ = some b ∧ w.cell? ⟨q, 2, none⟩ = some c) ∧ Below g w0 w) (hg : w.grownBy w' row) (hr : ∀ b, row = some b → g ≤ b) :
    (w'.cell? ⟨q, 0, none⟩ = some a ∧ w'.cell? ⟨q, 1, none⟩ = some b ∧ w'.cell? ⟨q, 2, none⟩ = some c) ∧ Below g w0 w' := by
  have hs := hS.2.size
  have hb : Below g w w' := ⟨hg.os, hg.tape, hg.output, hg.size, fun k hk => hg.block k (by omega) (fun e => by have := hr k e.symm; omega)⟩
  have k : ∀ i, w'.cell? ⟨q, i, none⟩ = w.cell? ⟨q, i, none⟩ := fun i => hb.cell (p := ⟨q, i, none⟩) h
  exact ⟨⟨(k 0).trans hS.1.1, (k 1).trans hS.1.2.1, (k 2).trans hS.1.2.2⟩, hS.2.trans hb⟩
theorem OR.alloc_ {w : World} {base : Nat} {e : TypeId} {A : Option Addr} {xs : List Value} (h : OR w base e A xs) (o : Obj) : OR (w.alloc o) base e A xs := h.below (balloc w o)
theorem OR.grown_ {w w' : World} {base : Nat} {e e' : TypeId} {A : Option Addr} {xs : List Value} {row : Option Nat} (h : OR w base e A xs) (hg : w.grownBy w' row) (hr : ∀ b, row = some b → ∃ cur, Has w b e' cur) (hne : e ≠ e') : OR w' base e A xs := by
  rcases h with h | ⟨g, cur, rfl, hb, hh, hc⟩
  · exact .inl h
  · refine .inr ⟨g, cur, rfl, hb, has_grown hh hg (fun eq => ?_), hc⟩
    obtain ⟨cur', h'⟩ := hr g eq.symm
    have := hh.symm.trans h'
    injection this with this; injection this with _ this _
    exact hne this
theorem keep3 {w0 w : World} {B g q i j k : Nat} {u v x a b c : Value} (h : q < g) (hS : (w.cell? ⟨q, 0, none⟩ = some a ∧ w.cell? ⟨q, 1, none⟩ = some b ∧ w.cell? ⟨q, 2, none⟩ = some c) ∧ Below g w0 w) :
    ((((w.setCell ⟨g, i, none⟩ u).setCell ⟨g, j, none⟩ v).setCell ⟨g, k, none⟩ x).cell? ⟨q, 0, none⟩ = some a ∧ (((w.setCell ⟨g, i, none⟩ u).setCell ⟨g, j, none⟩ v).setCell ⟨g, k, none⟩ x).cell? ⟨q, 1, none⟩ = some b ∧ (((w.setCell ⟨g, i, none⟩ u).setCell ⟨g, j, none⟩ v).setCell ⟨g, k, none⟩ x).cell? ⟨q, 2, none⟩ = some c) ∧ Below g w0 (((w.setCell ⟨g, i, none⟩ u).setCell ⟨g, j, none⟩ v).setCell ⟨g, k, none⟩ x) :=
  ⟨⟨(cell_far3 h _ _ _ _ _ _ _).trans hS.1.1, (cell_far3 h _ _ _ _ _ _ _).trans hS.1.2.1, (cell_far3 h _ _ _ _ _ _ _).trans hS.1.2.2⟩, ((hS.2.setCell (Nat.le_refl _) _).setCell (Nat.le_refl _) _).setCell (Nat.le_refl _) _⟩

set_option maxRecDepth 100000 in
set_option maxHeartbeats 1000000 in
theorem copyI_any (w : World) (B : Nat) (x : Cl) (lf : x.F.length ≤ 1048576) (lb : x.L.length ≤ 1048576) (hB : B ≤ w.heap.size) (hV : CV w B x) :
    Calls Try.prog 27 #[.agg #[.int .i64 x.z, .slice x.AF x.F.length x.cF, .slice x.AB x.L.length x.cB]] w fun e w' => ∃ A2 A3 n2 n3, e = .returned (.agg #[.int .i64 x.z, .slice A2 x.F.length n2, .slice A3 x.L.length n3]) ∧ OR w' w.heap.size 3 A2 (intV x.F) ∧ OR w' w.heap.size 47 A3 (boxV x.L) ∧ Below w.heap.size w w' := by
  have HV := Lib.hid hV; clear hV
  go_enter Try.func27, Try.ntmps27
  go_wp2_with fail
  generalize hW0 : (w.alloc (.cells #[.int .i64 x.z, .slice x.AF x.F.length x.cF, .slice x.AB x.L.length x.cB] 27)).alloc (.cells #[.int .i64 0, .slice none 0 0, .slice none 0 0] 27) = w0
  have b0 : Below w.heap.size w w0 := by rw [← hW0]; exact bthen (balloc _ _) (balloc _ _)
  have k0 : Has w0 w.heap.size 27 #[.int .i64 x.z, .slice x.AF x.F.length x.cF, .slice x.AB x.L.length x.cB] := by rw [← hW0]; exact has_alloc (has_new _ _ _) _
  have k1 : Has w0 (w.heap.size + 1) 27 #[.int .i64 0, .slice none 0 0, .slice none 0 0] := by rw [← hW0]; have := has_new (w.alloc (.cells #[.int .i64 x.z, .slice x.AF x.F.length x.cF, .slice x.AB x.L.length x.cB] 27)) 27 #[.int .i64 0, .slice none 0 0, .slice none 0 0]; simpa using this
  clear hW0
  have e0 := has_cell k0 0 rfl
  have e1 := has_cell k0 1 rfl
  have e2 := has_cell k0 2 rfl
  have K0 := Lib.hid k0; have K1 := Lib.hid k1; clear k0
  have hz : w.heap.size + 1 < w0.heap.size := has_lt k1
  clear k1
  have v0 := HV.out.later hB b0
  have V0 := Lib.hid v0; clear v0
  have hb0z := b0.size
  have hBz : B ≤ w0.heap.size := by omega
  have S0 : (fun W : World => (W.cell? ⟨w.heap.size, 0, none⟩ = some (.int .i64 x.z) ∧ W.cell? ⟨w.heap.size, 1, none⟩ = some (.slice x.AF x.F.length x.cF) ∧ W.cell? ⟨w.heap.size, 2, none⟩ = some (.slice x.AB x.L.length x.cB)) ∧ Below (w.heap.size + 1) w0 W) w0.drew := ⟨⟨e0, e1, e2⟩, (Below.refl _ _).drew⟩
  clear e0 e1 e2
  go_region_held3 (fun W : World => (W.cell? ⟨w.heap.size, 0, none⟩ = some (.int .i64 x.z) ∧ W.cell? ⟨w.heap.size, 1, none⟩ = some (.slice x.AF x.F.length x.cF) ∧ W.cell? ⟨w.heap.size, 2, none⟩ = some (.slice x.AB x.L.length x.cB)) ∧ Below (w.heap.size + 1) w0 W) (first | assumption | (go_loud (exact ⟨⟨(cell_far3 (Nat.lt_add_one _) _ _ _ _ _ _ _).trans S2.1.1, (cell_far3 (Nat.lt_add_one _) _ _ _ _ _ _ _).trans S2.1.2.1, (cell_far3 (Nat.lt_add_one _) _ _ _ _ _ _ _).trans S2.1.2.2⟩, ((S2.2.setCell (p := ⟨w.heap.size + 1, 0, none⟩) (Nat.le_refl _) _).setCell (p := ⟨w.heap.size + 1, 1, none⟩) (Nat.le_refl _) _).setCell (p := ⟨w.heap.size + 1, 2, none⟩) (Nat.le_refl _) _⟩))) (first
    | (go_at_call 52; go_must (refine (cloneInt_any w0.drew B x.AF x.cF x.F lf hBz V0.out.f).mono ?_); rintro e w1 ⟨A2, n2, rfl, ho1, hb1⟩; have HO1 := Lib.hid ho1; clear ho1; have hb01 : Below w0.heap.size w0 w1 := ((Below.refl w0.heap.size w0).drew).trans hb1; have hz01 := hb01.size; clear hb1; have S1 : (fun W : World => (W.cell? ⟨w.heap.size, 0, none⟩ = some (.int .i64 x.z) ∧ W.cell? ⟨w.heap.size, 1, none⟩ = some (.slice x.AF x.F.length x.cF) ∧ W.cell? ⟨w.heap.size, 2, none⟩ = some (.slice x.AB x.L.length x.cB)) ∧ Below (w.heap.size + 1) w0 W) w1 := ⟨⟨(bold hb01 _ _ (by omega)).trans S0.1.1, (bold hb01 _ _ (by omega)).trans S0.1.2.1, (bold hb01 _ _ (by omega)).trans S0.1.2.2⟩, hb01.mono (by omega)⟩)
    | (go_at_call 53; go_must (refine (cloneBox_any w1 B x.AB x.cB x.L lb (by omega) (V0.out.b.later hBz hb01)).mono ?_); rintro e w2 ⟨A3, n3, rfl, ho2, hb2⟩; have HO2 := Lib.hid ho2; clear ho2; have hb02 := bthen hb01 hb2; have hz02 := hb02.size; have HB2 := Lib.hid hb2; clear hb2; have S2 : (fun W : World => (W.cell? ⟨w.heap.size, 0, none⟩ = some (.int .i64 x.z) ∧ W.cell? ⟨w.heap.size, 1, none⟩ = some (.slice x.AF x.F.length x.cF) ∧ W.cell? ⟨w.heap.size, 2, none⟩ = some (.slice x.AB x.L.length x.cB)) ∧ Below (w.heap.size + 1) w0 W) w2 := ⟨⟨(bold hb02 _ _ (by omega)).trans S0.1.1, (bold hb02 _ _ (by omega)).trans S0.1.2.1, (bold hb02 _ _ (by omega)).trans S0.1.2.2⟩, hb02.mono (by omega)⟩; have k2 := has_call K1.out hb02; have y0 := has_cell k2 0 rfl; have y1 := has_cell k2 1 rfl; have y2 := has_cell k2 2 rfl; have f0 := has_free k2 0; have f1 := has_free k2 1; have f2 := has_free k2 2; have K2 := Lib.hid k2; clear k2))
  have hold : Has (((w2.setCell ⟨w.heap.size + 1, 0, none⟩ (.int .i64 x.z)).setCell ⟨w.heap.size + 1, 1, none⟩ (.slice A2 x.F.length n2)).setCell ⟨w.heap.size + 1, 2, none⟩ (.slice A3 x.L.length n3)) (w.heap.size + 1) 27 #[.int .i64 x.z, .slice A2 x.F.length n2, .slice A3 x.L.length n3] := by
    have := has_set (has_set (has_set K2.out 0 (.int .i64 x.z)) 1 (.slice A2 x.F.length n2)) 2 (.slice A3 x.L.length n3)
    simpa using this
  have g0 := has_cell hold 0 rfl
  have g1 := has_cell hold 1 rfl
  have g2 := has_cell hold 2 rfl
  clear y0 y1 y2 f0 f1 f2 S0 S1 S2
  go_wp2_with fail
  refine bodyPost_ret (v := .agg #[.int .i64 x.z, .slice A2 x.F.length n2, .slice A3 x.L.length n3]) (by simp [results, Try.results27, go_sem, g0, g1, g2]) rfl ⟨A2, A3, n2, n3, rfl, ?_, ?_, ?_⟩
  · have sA : OR w2 w0.heap.size 3 A2 (intV x.F) := HO1.out.below HB2.out
    exact (((sA.setlow (by show w.heap.size + 1 < _; omega) _).setlow (by show w.heap.size + 1 < _; omega) _).setlow (by show w.heap.size + 1 < _; omega) _).more (by omega)
  · exact (((HO2.out.setlow (by show w.heap.size + 1 < _; omega) _).setlow (by show w.heap.size + 1 < _; omega) _).setlow (by show w.heap.size + 1 < _; omega) _).more (by omega)
  · exact (((bthen b0 hb02).setCell (by simp) _).setCell (by simp) _).setCell (by simp) _

theorem il_src {w : World} {B : Nat} {A : Option Addr} {l : List Int} (h : IL w B A l) : Src w A l.length 1 (intV l) :=
  ⟨by simp [intV_len], int_one, fun e => by subst e; rw [il_none h]; rfl, fun ad e => by subst e; exact il_news h⟩
theorem xl_src {w : World} {B : Nat} {A : Option Addr} {l : List Bx} (h : XL w B A l) : Src w A l.length 4 (boxV l) :=
  ⟨by rw [boxV_len]; omega, box_one, fun e => by subst e; rw [xl_none h]; rfl, fun ad e => by subst e; exact xl_news h⟩
theorem or_of {w : World} {base : Nat} {e : TypeId} {A : Option Addr} {xs : List Value} {size n c : Nat} (h : w.ownsRow base e size (.slice A n c) n xs) : OR w base e A xs := by
  obtain ⟨A', c', e1, h1⟩ := or_own h
  injection e1 with e1; subst e1; exact h1

theorem copy_fin {w w0 w2 : World} {A2 A3 : Option Addr} {F L : List Value} {e1 e2 : TypeId} (b0 : Below w.heap.size w w0) (hb : Below (w.heap.size + 1) w0 w2) (h2 : OR w2 (w.heap.size + 2) e1 A2 F) (h3 : OR w2 (w.heap.size + 2) e2 A3 L) (hz : w.heap.size + 2 ≤ w2.heap.size) (u v x : Value) :
    OR (((w2.setCell ⟨w.heap.size + 1, 0, none⟩ u).setCell ⟨w.heap.size + 1, 1, none⟩ v).setCell ⟨w.heap.size + 1, 2, none⟩ x) w.heap.size e1 A2 F ∧ OR (((w2.setCell ⟨w.heap.size + 1, 0, none⟩ u).setCell ⟨w.heap.size + 1, 1, none⟩ v).setCell ⟨w.heap.size + 1, 2, none⟩ x) w.heap.size e2 A3 L ∧ Below w.heap.size w (((w2.setCell ⟨w.heap.size + 1, 0, none⟩ u).setCell ⟨w.heap.size + 1, 1, none⟩ v).setCell ⟨w.heap.size + 1, 2, none⟩ x) :=
  ⟨(((h2.setlow (by show w.heap.size + 1 < _; omega) _).setlow (by show w.heap.size + 1 < _; omega) _).setlow (by show w.heap.size + 1 < _; omega) _).more (by omega),
   (((h3.setlow (by show w.heap.size + 1 < _; omega) _).setlow (by show w.heap.size + 1 < _; omega) _).setlow (by show w.heap.size + 1 < _; omega) _).more (by omega),
   (((b0.trans (hb.mono (by omega))).setCell (by simp) _).setCell (by simp) _).setCell (by simp) _⟩

set_option maxRecDepth 100000 in
set_option maxHeartbeats 8000000 in
theorem copyS_any (w : World) (B : Nat) (x : Cl) (lf : x.F.length ≤ 1048576) (lb : x.L.length ≤ 1048576) (hB : B ≤ w.heap.size) (hV : CV w B x) :
    Calls Try.prog 32 #[.agg #[.int .i64 x.z, .slice x.AF x.F.length x.cF, .slice x.AB x.L.length x.cB]] w fun e w' => ∃ A2 A3 n2 n3, e = .returned (.agg #[.int .i64 x.z, .slice A2 x.F.length n2, .slice A3 x.L.length n3]) ∧ OR w' w.heap.size 3 A2 (intV x.F) ∧ OR w' w.heap.size 47 A3 (boxV x.L) ∧ Below w.heap.size w w' := by
  have HV := Lib.hid hV; clear hV
  obtain ⟨i0, hi0, hz0, hz1, hz2⟩ := info_parts intInfo
  obtain ⟨j0, hj0, hy0, hy1, hy2⟩ := info_parts boxInfo
  go_enter Try.func32, Try.ntmps32
  go_wp2_with fail
  generalize hW0 : (w.alloc (.cells #[.int .i64 x.z, .slice x.AF x.F.length x.cF, .slice x.AB x.L.length x.cB] 27)).alloc (.cells #[.int .i64 0, .slice none 0 0, .slice none 0 0] 27) = w0
  have b0 : Below w.heap.size w w0 := by rw [← hW0]; exact bthen (balloc _ _) (balloc _ _)
  have k0 : Has w0 w.heap.size 27 #[.int .i64 x.z, .slice x.AF x.F.length x.cF, .slice x.AB x.L.length x.cB] := by rw [← hW0]; exact has_alloc (has_new _ _ _) _
  have k1 : Has w0 (w.heap.size + 1) 27 #[.int .i64 0, .slice none 0 0, .slice none 0 0] := by rw [← hW0]; have := has_new (w.alloc (.cells #[.int .i64 x.z, .slice x.AF x.F.length x.cF, .slice x.AB x.L.length x.cB] 27)) 27 #[.int .i64 0, .slice none 0 0, .slice none 0 0]; simpa using this
  clear hW0
  have e0 := has_cell k0 0 rfl
  have e1 := has_cell k0 1 rfl
  have e2 := has_cell k0 2 rfl
  have K0 := Lib.hid k0; have K1 := Lib.hid k1; clear k0
  have hz : w.heap.size + 1 < w0.heap.size := has_lt k1
  clear k1
  have v0 := HV.out.later hB b0
  have V0 := Lib.hid v0; clear v0
  have hb0z := b0.size
  have hBz : B ≤ w0.heap.size := by omega
  have S0 : (fun W : World => (W.cell? ⟨w.heap.size, 0, none⟩ = some (.int .i64 x.z) ∧ W.cell? ⟨w.heap.size, 1, none⟩ = some (.slice x.AF x.F.length x.cF) ∧ W.cell? ⟨w.heap.size, 2, none⟩ = some (.slice x.AB x.L.length x.cB)) ∧ Below (w.heap.size + 1) w0 W) w0.drew := ⟨⟨e0, e1, e2⟩, (Below.refl _ _).drew⟩
  clear e0 e1 e2
  have hw0 : w.heap.size + 1 ≤ w0.heap.size := by omega
  have hw2 : w.heap.size + 2 ≤ w0.heap.size := by omega
  have hw3 : w.heap.size + 2 ≤ w0.heap.size + 1 := by omega
  have hB1 : B ≤ w.heap.size + 1 := by omega
  go_region_held3 (fun W : World => (W.cell? ⟨w.heap.size, 0, none⟩ = some (.int .i64 x.z) ∧ W.cell? ⟨w.heap.size, 1, none⟩ = some (.slice x.AF x.F.length x.cF) ∧ W.cell? ⟨w.heap.size, 2, none⟩ = some (.slice x.AB x.L.length x.cB)) ∧ Below (w.heap.size + 1) w0 W) (first | assumption | exact keepA w.heap.size (w.heap.size + 1) _ (Nat.lt_add_one _) hw0 (by assumption) | exact ⟨⟨(cell_far3 (Nat.lt_add_one _) _ _ _ _ _ _ _).trans hSx.1.1, (cell_far3 (Nat.lt_add_one _) _ _ _ _ _ _ _).trans hSx.1.2.1, (cell_far3 (Nat.lt_add_one _) _ _ _ _ _ _ _).trans hSx.1.2.2⟩, ((hSx.2.setCell (p := ⟨w.heap.size + 1, 0, none⟩) (Nat.le_refl _) _).setCell (p := ⟨w.heap.size + 1, 1, none⟩) (Nat.le_refl _) _).setCell (p := ⟨w.heap.size + 1, 2, none⟩) (Nat.le_refl _) _⟩) (first
    | ((refine step_app rfl _ _ 24 rfl (w.heap.size + 2) 3 i0 (.int .i64 0) 1 8 Try.underlying24 hi0 hz0 hz1 hz2 rfl (by decide) _ 0 [] rfl ?_ x.AF x.F.length x.cF (intV x.F) rfl ?_ ?_ ?_ ?_ ?_); (first | exact (owns_at w0 (w.heap.size + 2) 3 1 _ rfl hw2).drew | exact ((owns_at w0 (w.heap.size + 2) 3 1 _ rfl hw2).alloc _).drew | exact (owns_at (w0.alloc _) (w.heap.size + 2) 3 1 _ (by simp) hw3).drew | exact (owns_at _ (w.heap.size + 2) 3 1 _ rfl hz9) | exact ((owns_at w0 (w.heap.size + 2) 3 1 _ rfl hw2).alloc _).drew.kept hgx (.inr (fun e => by have e' := Option.some.inj (show some _ = some _ from e); exact absurd e' (by simp))) | exact (owns_at (w0.alloc _) (w.heap.size + 2) 3 1 _ (by simp) hw3).drew.kept hgx (.inr (fun e => by have e' := Option.some.inj (show some _ = some _ from e); exact absurd e' (by simp)))); (exact il_src (B := B) (V0.out.f.below (Below.mono (And.right (by assumption)) hB1))); (unfold maxLen; omega); omega; (first | exact hz9 | (simp; omega)); (intro A2 n2 w1 hown1 hgx hb1; have hSx := keepG w.heap.size (w.heap.size + 1) (Nat.lt_add_one _) hw0 (by assumption) hgx (fun b e => by have := (hb1 b e).1; omega); have hz9 := hSx.2.size; have hz9 := Nat.le_trans hw2 hz9; have KT : Has w1 (w.heap.size + 1) 27 #[.int .i64 0, .slice none 0 0, .slice none 0 0] := has_grown (by first | exact has_alloc K1.out _ | exact has_alloc (has_alloc K1.out _) _ | exact KT | exact has_alloc KT _) hgx (fun e => by have := (hb1 _ e.symm).1; omega); have y0 := has_cell KT 0 rfl; have y1 := has_cell KT 1 rfl; have y2 := has_cell KT 2 rfl; have f0 := has_free KT 0; have f1 := has_free KT 1; have f2 := has_free KT 2; have O2 := or_of hown1; try have O3 := OR.grown_ (by first | exact O3 | exact O3.alloc_ _) hgx (fun b e => (hb1 b e).2) (by decide)))
    | ((refine step_app rfl _ _ 25 rfl (w.heap.size + 2) 47 j0 (.agg #[.int .i64 0, .int .i64 0, .int .i64 0, .bool false]) 4 32 Try.underlying25 hj0 hy0 hy1 hy2 rfl (by decide) _ 0 [] rfl ?_ x.AB x.L.length x.cB (boxV x.L) rfl ?_ ?_ ?_ ?_ ?_); (first | exact (owns_at w0 (w.heap.size + 2) 47 4 _ rfl hw2).drew | exact ((owns_at w0 (w.heap.size + 2) 47 4 _ rfl hw2).alloc _).drew | exact (owns_at (w0.alloc _) (w.heap.size + 2) 47 4 _ (by simp) hw3).drew | exact (owns_at _ (w.heap.size + 2) 47 4 _ rfl hz9) | exact ((owns_at w0 (w.heap.size + 2) 47 4 _ rfl hw2).alloc _).drew.kept hgx (.inr (fun e => by have e' := Option.some.inj (show some _ = some _ from e); exact absurd e' (by simp))) | exact (owns_at (w0.alloc _) (w.heap.size + 2) 47 4 _ (by simp) hw3).drew.kept hgx (.inr (fun e => by have e' := Option.some.inj (show some _ = some _ from e); exact absurd e' (by simp)))); (exact xl_src (B := B) (V0.out.b.below (Below.mono (And.right (by assumption)) hB1))); (unfold maxLen; omega); omega; (first | exact hz9 | (simp; omega)); (intro A3 n3 w2 hown2 hgx hb2; have hSx := keepG w.heap.size (w.heap.size + 1) (Nat.lt_add_one _) hw0 (by assumption) hgx (fun b e => by have := (hb2 b e).1; omega); have hz9 := hSx.2.size; have hz9 := Nat.le_trans hw2 hz9; have KT : Has w2 (w.heap.size + 1) 27 #[.int .i64 0, .slice none 0 0, .slice none 0 0] := has_grown (by first | exact has_alloc K1.out _ | exact has_alloc (has_alloc K1.out _) _ | exact KT | exact has_alloc KT _) hgx (fun e => by have := (hb2 _ e.symm).1; omega); have y0 := has_cell KT 0 rfl; have y1 := has_cell KT 1 rfl; have y2 := has_cell KT 2 rfl; have f0 := has_free KT 0; have f1 := has_free KT 1; have f2 := has_free KT 2; have O3 := or_of hown2; try have O2 := OR.grown_ (by first | exact O2 | exact O2.alloc_ _) hgx (fun b e => (hb2 b e).2) (by decide))))
  all_goals
    have hold := has_set (has_set (has_set KT 0 (.int .i64 x.z)) 1 (.slice A2 x.F.length n2)) 2 (.slice A3 x.L.length n3)
    simp only [List.setIfInBounds_toArray, List.set_cons_zero, List.set_cons_succ] at hold
    have g0 := has_cell hold 0 rfl
    have g1 := has_cell hold 1 rfl
    have g2 := has_cell hold 2 rfl
    rw [List.nil_append] at O2 O3
    have fin := copy_fin b0 hSx.2 O2 O3 hz9 (Value.int .i64 x.z) (Value.slice A2 x.F.length n2) (Value.slice A3 x.L.length n3)
    have FIN := Lib.hid fin
    clear fin hSx KT hold O2 O3 y0 y1 y2 f0 f1 f2 hgx S0
    go_wp2_with fail
    refine bodyPost_ret (v := .agg #[.int .i64 x.z, .slice A2 x.F.length n2, .slice A3 x.L.length n3]) (by simp [results, Try.results32, go_sem, g0, g1, g2]) rfl ⟨A2, A3, n2, n3, rfl, FIN.out⟩
end Go.Proofs.Ythmoonjceokijaa
