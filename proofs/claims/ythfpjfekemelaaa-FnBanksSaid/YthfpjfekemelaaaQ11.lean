/- Chapter 2: l02Fill of the model: a gap is filled (gen_gaph.py). -/
import Derived.Test.YthfpjfekemelaaaQ10
import Derived.Test.YthfpjfekemelaaaQ06
import Derived.Deep.DeepCutAuto
import Derived.Deep.CutRange
import Derived.Deep.CutBlock
namespace Go.Proofs.Ythfpjfekemelaaa
open Go.RowKit
set_option linter.unusedVariables false

theorem size2G (W : World) (o p : Obj) : ((W.alloc o).alloc p).heap.size = W.heap.size + 2 := by simp
theorem boxV_snocG (L : List Bx) (x : Bx) : boxV (L ++ [x]) = boxV L ++ boxC x := by simp [boxV]
/-- the answer is a column of the call's own -/
def ColAns0 (z : Int) (F : List Int) (L : List Bx) (w : World) (e : Ending) (w' : World) : Prop := ∃ A2 A3 c2 c3, e = .returned (.agg #[.int .i64 z, .slice A2 F.length c2, .slice A3 L.length c3]) ∧ OR w' w.heap.size 3 A2 (intV F) ∧ OR w' w.heap.size 65 A3 (boxV L) ∧ Below w.heap.size w w'
/-- a column in work: its box, its rows -/
structure FS (w0 wr : World) (gC : Nat) (z : Int) (A2 : Option Addr) (F : List Int) (c2 : Nat) (A' : Option Addr) (c' : Nat) (D : List Bx) : Prop where
  bel : Below w0.heap.size w0 wr
  col : Has wr gC 57 #[.int .i64 z, .slice A2 F.length c2, .slice A' D.length c']
  row : wr.ownsRow w0.heap.size 65 4 (.slice A' D.length c') D.length (boxV D)
  fix : OR wr w0.heap.size 3 A2 (intV F)
section
variable {w0 wr w3 : World} {gC : Nat} {z : Int} {A2 A' A3 : Option Addr} {F : List Int} {c2 c' c3 : Nat} {D : List Bx}
theorem FS.alloc (h : FS w0 wr gC z A2 F c2 A' c' D) (ob : Obj) : FS w0 (wr.alloc ob) gC z A2 F c2 A' c' D := ⟨h.bel.alloc h.bel.size _, has_alloc h.col _, h.row.alloc _, h.fix.alloc_ _⟩
theorem FS.mid (h : FS w0 wr gC z A2 F c2 A' c' D) (hgrow : wr.grownBy w3 (Value.slice A' D.length c').ownBlock) (hrow : ∀ b, (Value.slice A' D.length c').ownBlock = some b → w0.heap.size ≤ b ∧ ∃ cur, Has wr b 65 cur) :
    Has w3 gC 57 #[.int .i64 z, .slice A2 F.length c2, .slice A' D.length c'] :=
  has_grown h.col hgrow (fun e => by
    obtain ⟨_, cur, hc⟩ := hrow gC e.symm
    have := hc.symm.trans h.col
    injection this with this; injection this with _ this _
    exact absurd this (by decide))
theorem FS.app (h : FS w0 wr gC z A2 F c2 A' c' D) (hgC : w0.heap.size ≤ gC) {b : Bx} (hown : w3.ownsRow w0.heap.size 65 4 (.slice A3 (D.length + 1) c3) (D.length + 1) (boxV D ++ boxC b)) (hgrow : wr.grownBy w3 (Value.slice A' D.length c').ownBlock) (hrow : ∀ b, (Value.slice A' D.length c').ownBlock = some b → w0.heap.size ≤ b ∧ ∃ cur, Has wr b 65 cur) :
    FS w0 (w3.setCell ⟨gC, 2, none⟩ (.slice A3 (D.length + 1) c3)) gC z A2 F c2 A3 c3 (D ++ [b]) := by
  have hm := h.mid hgrow hrow
  have hl : (D ++ [b]).length = D.length + 1 := by simp
  refine ⟨?_, ?_, ?_, ?_⟩
  · exact (h.bel.grown hgrow h.bel.size (fun b hb => (hrow b hb).1)).setCell (p := ⟨gC, 2, none⟩) hgC _
  · have := has_set hm 2 (.slice A3 (D.length + 1) c3)
    rw [hl]; simpa using this
  · rw [hl, boxV_snocG]
    exact hown.kept (only_set (only_refl w3 gC) 2 _) (.inr (fun e => by
      obtain ⟨_, cur, hc⟩ := own_has hown _ e
      have := hc.symm.trans hm
      injection this with this; injection this with _ this _
      exact absurd this (by decide)))
  · exact (h.fix.grown_ hgrow (fun b hb => (hrow b hb).2) (by decide)).set_other hm (by decide) 2 _
end
theorem src_bx {w : World} {g : Nat} {x : Bx} {t : TypeId} (h : Has w g t #[.int .i64 x.low, .int .i64 x.size, .int .i64 x.par, .bool x.jam]) : Src w (some ⟨g, 0, none⟩) 1 4 (boxC x) := by
  refine ⟨rfl, fun u hu => ?_, (fun e => by cases e), fun ad e j u hu => ?_⟩
  · simp [boxC] at hu
    rcases hu with rfl | rfl | rfl | rfl <;> rfl
  · injection e with e; subst e
    rw [addrK, Nat.zero_add, cell_of_row w g j _ t (0, 0) h]
    simpa [boxC] using hu
theorem ans_finr0 {w w2 : World} {A2 A3 : Option Addr} {F L : List Value} {e1 e2 : TypeId} (r base : Nat) (hb : Below w.heap.size w w2) (hr : w.heap.size ≤ r) (hbase : r < base) (h2 : OR w2 base e1 A2 F) (h3 : OR w2 base e2 A3 L) (u v x : Value) :
    OR (((w2.setCell ⟨r, 0, none⟩ u).setCell ⟨r, 1, none⟩ v).setCell ⟨r, 2, none⟩ x) w.heap.size e1 A2 F ∧ OR (((w2.setCell ⟨r, 0, none⟩ u).setCell ⟨r, 1, none⟩ v).setCell ⟨r, 2, none⟩ x) w.heap.size e2 A3 L ∧ Below w.heap.size w (((w2.setCell ⟨r, 0, none⟩ u).setCell ⟨r, 1, none⟩ v).setCell ⟨r, 2, none⟩ x) :=
  ⟨(((h2.setlow (by show r < _; omega) _).setlow (by show r < _; omega) _).setlow (by show r < _; omega) _).more (by omega),
   (((h3.setlow (by show r < _; omega) _).setlow (by show r < _; omega) _).setlow (by show r < _; omega) _).more (by omega),
   ((hb.setCell hr _).setCell hr _).setCell hr _⟩
theorem fillL_succ {g : Gp} {p size : Int} {L : List Bx} {k : Nat} {b : Bx} (h : L[k]? = some b) : fillL g p size (L.take (k + 1)) = fillL g p size (L.take k) ++ fillB g p size b := by
  rw [List.take_add_one, h]; simp [fillL]

set_option maxRecDepth 100000 in
set_option maxHeartbeats 4000000 in
theorem fillS_any (w : World) (B : Nat) (x : Cl) (g0 g1 g2 p size : Int) (lf : x.F.length ≤ 1048576) (lb : x.L.length ≤ 1048576) (hB : B ≤ w.heap.size) (hV : CV w B x) (h10 : 0 ≤ g1) (h11 : g1 ≤ 100) (h20 : 1 ≤ g2) (h21 : g2 ≤ 100) (h30 : 0 ≤ size) (h31 : size ≤ 100) :
    Calls Try.prog 35 #[.agg #[.int .i64 x.z, .slice x.AF x.F.length x.cF, .slice x.AB x.L.length x.cB], .agg #[.int .i64 g0, .int .i64 g1, .int .i64 g2], .int .i64 p, .int .i64 size] w (ColAns0 x.z x.F (fillL ⟨g0, g1, g2⟩ p size x.L) w) := by
  have HV := Lib.hid hV; clear hV
  obtain ⟨i0, hi0, hz0, hz1, hz2⟩ := info_parts intInfo
  obtain ⟨j0, hj0, hy0, hy1, hy2⟩ := info_parts boxInfo
  go_enter Try.func35, Try.ntmps35
  go_upto_region 1 with (fail)
  generalize hW0 : (((w.alloc (.cells #[.int .i64 x.z, .slice x.AF x.F.length x.cF, .slice x.AB x.L.length x.cB] 57)).alloc (.cells #[.int .i64 g0, .int .i64 g1, .int .i64 g2] 28)).alloc (.cells #[.int .i64 0, .slice none 0 0, .slice none 0 0] 57)) = w0
  have b0 : Below w.heap.size w w0 := by rw [← hW0]; exact bthen (bthen (balloc _ _) (balloc _ _)) (balloc _ _)
  have hs0 : w.heap.size + 3 ≤ w0.heap.size := by rw [← hW0]; simp
  have k0 : Has w0 w.heap.size 57 #[.int .i64 x.z, .slice x.AF x.F.length x.cF, .slice x.AB x.L.length x.cB] := by rw [← hW0]; exact has_alloc (has_alloc (has_new _ _ _) _) _
  have k1 : Has w0 (w.heap.size + 1) 28 #[.int .i64 g0, .int .i64 g1, .int .i64 g2] := by rw [← hW0]; have := has_alloc (has_new (w.alloc (.cells #[.int .i64 x.z, .slice x.AF x.F.length x.cF, .slice x.AB x.L.length x.cB] 57)) 28 #[.int .i64 g0, .int .i64 g1, .int .i64 g2]) (.cells #[.int .i64 0, .slice none 0 0, .slice none 0 0] 57); simpa using this
  have k2 : Has w0 (w.heap.size + 2) 57 #[.int .i64 0, .slice none 0 0, .slice none 0 0] := by rw [← hW0]; have := has_new ((w.alloc (.cells #[.int .i64 x.z, .slice x.AF x.F.length x.cF, .slice x.AB x.L.length x.cB] 57)).alloc (.cells #[.int .i64 g0, .int .i64 g1, .int .i64 g2] 28)) 57 #[.int .i64 0, .slice none 0 0, .slice none 0 0]; simpa using this
  clear hW0
  have K0 := Lib.hid k0; have K1 := Lib.hid k1; have K2 := Lib.hid k2; clear k1 k2
  have V0 := Lib.hid (HV.out.later hB b0); have BB := Lib.hid b0; clear b0
  have hB0 : B ≤ w0.heap.size := by omega
  go_cut [9] from 12 to 18 (fun pv W => ∃ (gC : Nat) (A2 : Option Addr) (c2 : Nat), pv = .pointer (some ⟨gC, 0, none⟩) ∧ w0.heap.size ≤ gC ∧ FS w0 W gC x.z A2 x.F c2 none 0 [])
  case first =>
    have e0 := has_cell k0 0 rfl; have e1 := has_cell k0 1 rfl
    clear k0
    have S0 : (fun W : World => (W.cell? ⟨w.heap.size, 0, none⟩ = some (.int .i64 x.z) ∧ W.cell? ⟨w.heap.size, 1, none⟩ = some (.slice x.AF x.F.length x.cF)) ∧ Below w0.heap.size w0 W) w0.drew := ⟨⟨e0, e1⟩, (Below.refl _ _).drew⟩
    clear e0 e1
    refine wp_region_held_drew (S := (fun W : World => (W.cell? ⟨w.heap.size, 0, none⟩ = some (.int .i64 x.z) ∧ W.cell? ⟨w.heap.size, 1, none⟩ = some (.slice x.AF x.F.length x.cF)) ∧ Below w0.heap.size w0 W)) (by kernel_rfl) S0 (fun _ => ?_)
    refine any_take (i := 0) (some 12) (.pointer (some ⟨w.heap.size, 0, none⟩)) rfl rfl (by kernel_rfl) (by kernel_rfl) (by kernel_rfl) (fun _ _ _ h => h) rfl (fun W hSw => ?_) (S0) ?_
    · (try dsimp only at hSw); go_simp <;> with_reducible rfl
    try simp only [Act.put, List.setIfInBounds_toArray, List.set_cons_zero, List.set_cons_succ]
    refine any_take (i := 1) (some 13) (.int .i64 x.z) rfl rfl (by kernel_rfl) (by kernel_rfl) (by kernel_rfl) (fun _ _ _ h => h) rfl (fun W hSw => ?_) (S0) ?_
    · (try dsimp only at hSw); go_simp <;> with_reducible rfl
    try simp only [Act.put, List.setIfInBounds_toArray, List.set_cons_zero, List.set_cons_succ]
    refine any_take (i := 3) (some 15) (.pointer (some ⟨w.heap.size, 1, none⟩)) rfl rfl (by kernel_rfl) (by kernel_rfl) (by kernel_rfl) (fun _ _ _ h => h) rfl (fun W hSw => ?_) (S0) ?_
    · (try dsimp only at hSw); go_simp <;> with_reducible rfl
    try simp only [Act.put, List.setIfInBounds_toArray, List.set_cons_zero, List.set_cons_succ]
    refine any_take (i := 4) (some 16) (.slice x.AF x.F.length x.cF) rfl rfl (by kernel_rfl) (by kernel_rfl) (by kernel_rfl) (fun _ _ _ h => h) rfl (fun W hSw => ?_) (S0) ?_
    · (try dsimp only at hSw); go_simp <;> with_reducible rfl
    try simp only [Act.put, List.setIfInBounds_toArray, List.set_cons_zero, List.set_cons_succ]
    refine wpAnyH_ready (rs := [2, 7]) (by kernel_rfl) (by simp) ?_
    refine AllReadyH.cons rfl (fun K hK => ?_) (AllReadyH.cons rfl (fun K hK => ?_) AllReadyH.nil)
    · skip
      go_simp
      try go_wp2_with fail
      generalize hX9 : (w0.alloc (.cells #[] 3)).drew = v1
      have hb8 : Below w0.drew.heap.size w0.drew v1 := by rw [← hX9]; exact balloc _ _
      have own1 : v1.ownsRow w0.heap.size 3 1 (.slice (some ⟨w0.heap.size, 0, none⟩) 0 0) 0 [] := by rw [← hX9]; exact owns_new w0 _ _ _ (by omega)
      clear hX9
      have hb9v1 : Below w0.heap.size w0 v1 := S0.2.trans (hb8.mono (by have := S0.2.size; omega))
      have Sv1 : (fun W : World => (W.cell? ⟨w.heap.size, 0, none⟩ = some (.int .i64 x.z) ∧ W.cell? ⟨w.heap.size, 1, none⟩ = some (.slice x.AF x.F.length x.cF)) ∧ Below w0.heap.size w0 W) v1 := ⟨⟨(hb8.cell (p := ⟨w.heap.size, 0, none⟩) (by have := S0.2.size; show w.heap.size < _; omega)).trans S0.1.1, (hb8.cell (p := ⟨w.heap.size, 1, none⟩) (by have := S0.2.size; show w.heap.size < _; omega)).trans S0.1.2⟩, hb9v1⟩
      have hzv1 := hb9v1.size
      clear hb8
      refine hK.out _ _ Sv1 (fun _ => ?_)
      clear hK K
      try simp only [Act.put, List.setIfInBounds_toArray, List.set_cons_zero, List.set_cons_succ]
      refine wpAnyH_ready (rs := [5, 7]) (by kernel_rfl) (by simp) ?_
      refine AllReadyH.cons rfl (fun K hK => ?_) (AllReadyH.cons rfl (fun K hK => ?_) AllReadyH.nil)
      · skip
        refine step_app rfl _ _ 43 rfl w0.heap.size 3 i0 (.int .i64 0) 1 8 Try.underlying43 hi0 hz0 hz1 hz2 rfl (by decide) _ 0 [] rfl own1 x.AF x.F.length x.cF (intV x.F) rfl (il_src (V0.out.f.below (Sv1.2.mono hB0))) (by unfold maxLen; omega) (by omega) (by omega) ?_
        intro A2 c2 v2 hown hgrow hrow
        rw [Nat.zero_add] at hown ⊢
        have or2 : OR v2 w0.heap.size 3 A2 (intV x.F) := by have := or_of hown; simpa using this
        have hb8 : Below w0.heap.size v1 v2 := (Below.refl _ _).grown hgrow (by omega) (fun b hb => (hrow b hb).1)
        have hb9v2 : Below w0.heap.size w0 v2 := Sv1.2.trans hb8
        have Sv2 : (fun W : World => (W.cell? ⟨w.heap.size, 0, none⟩ = some (.int .i64 x.z) ∧ W.cell? ⟨w.heap.size, 1, none⟩ = some (.slice x.AF x.F.length x.cF)) ∧ Below w0.heap.size w0 W) v2 := ⟨⟨(hb8.cell (p := ⟨w.heap.size, 0, none⟩) (by show w.heap.size < _; omega)).trans Sv1.1.1, (hb8.cell (p := ⟨w.heap.size, 1, none⟩) (by show w.heap.size < _; omega)).trans Sv1.1.2⟩, hb9v2⟩
        have hzv2 := hb9v2.size
        clear hb8 hown hgrow hrow
        refine hK.out _ _ Sv2 (fun _ => ?_)
        clear hK K
        try simp only [Act.put, List.setIfInBounds_toArray, List.set_cons_zero, List.set_cons_succ]
        refine any_take (i := 6) (some 18) (.agg #[.int .i64 x.z, .slice A2 x.F.length c2, .slice none 0 0]) rfl rfl (by kernel_rfl) (by kernel_rfl) (by kernel_rfl) (fun _ _ _ h => h) rfl (fun W hSw => ?_) (Sv2) ?_
        · (try dsimp only at hSw); go_simp <;> with_reducible rfl
        try simp only [Act.put, List.setIfInBounds_toArray, List.set_cons_zero, List.set_cons_succ]
        refine wpAnyH_ready (rs := [7]) (by kernel_rfl) (by simp) ?_
        refine AllReadyH.cons rfl (fun K hK => ?_) AllReadyH.nil
        go_simp
        try go_wp2_with fail
        generalize hX9 : (v2.alloc (.cells #[.int .i64 0, .slice none 0 0, .slice none 0 0] 57)) = v3
        have hb8 : Below v2.heap.size v2 v3 := by rw [← hX9]; exact balloc _ _
        have kc3 : Has v3 v2.heap.size 57 #[.int .i64 0, .slice none 0 0, .slice none 0 0] := by rw [← hX9]; exact has_new _ _ _
        have hgC : w0.heap.size ≤ v2.heap.size := by omega
        have or3 := OR.below or2 hb8
        clear hX9
        have hb9v3 : Below w0.heap.size w0 v3 := Sv2.2.trans (hb8.mono (by have := Sv2.2.size; omega))
        have Sv3 : (fun W : World => (W.cell? ⟨w.heap.size, 0, none⟩ = some (.int .i64 x.z) ∧ W.cell? ⟨w.heap.size, 1, none⟩ = some (.slice x.AF x.F.length x.cF)) ∧ Below w0.heap.size w0 W) v3 := ⟨⟨(hb8.cell (p := ⟨w.heap.size, 0, none⟩) (by have := Sv2.2.size; show w.heap.size < _; omega)).trans Sv2.1.1, (hb8.cell (p := ⟨w.heap.size, 1, none⟩) (by have := Sv2.2.size; show w.heap.size < _; omega)).trans Sv2.1.2⟩, hb9v3⟩
        have hzv3 := hb9v3.size
        have hlv3 := has_lt kc3
        clear hb8
        refine hK.out _ _ Sv3 (fun _ => ?_)
        clear hK K
        try simp only [Act.put, List.setIfInBounds_toArray, List.set_cons_zero, List.set_cons_succ]
        refine wpAnyH_ready (rs := [8]) (by kernel_rfl) (by simp) ?_
        refine AllReadyH.cons rfl (fun K hK => ?_) AllReadyH.nil
        have y0 := has_cell kc3 0 rfl; have y1 := has_cell kc3 1 rfl; have y2 := has_cell kc3 2 rfl; have f0 := has_free kc3 0; have f1 := has_free kc3 1; have f2 := has_free kc3 2
        go_simp
        have X1 := set3 (u := .int .i64 x.z) (v := .slice A2 x.F.length c2) (x := .slice none 0 0) kc3
        have hb7 : Below w0.heap.size v3 (((v3.setCell ⟨v2.heap.size, 0, none⟩ (.int .i64 x.z)).setCell ⟨v2.heap.size, 1, none⟩ (.slice A2 x.F.length c2)).setCell ⟨v2.heap.size, 2, none⟩ (.slice none 0 0)) := (((Below.refl _ _).setCell (p := ⟨v2.heap.size, 0, none⟩) hgC _).setCell (p := ⟨v2.heap.size, 1, none⟩) hgC _).setCell (p := ⟨v2.heap.size, 2, none⟩) hgC _
        have hor := ((or3.set_other kc3 (by decide) 0 (.int .i64 x.z)).set_other (has_set kc3 0 _) (by decide) 1 (.slice A2 x.F.length c2)).set_other (has_set (has_set kc3 0 _) 1 _) (by decide) 2 (.slice none 0 0)
        have S9 : (fun W : World => (W.cell? ⟨w.heap.size, 0, none⟩ = some (.int .i64 x.z) ∧ W.cell? ⟨w.heap.size, 1, none⟩ = some (.slice x.AF x.F.length x.cF)) ∧ Below w0.heap.size w0 W) (((v3.setCell ⟨v2.heap.size, 0, none⟩ (.int .i64 x.z)).setCell ⟨v2.heap.size, 1, none⟩ (.slice A2 x.F.length c2)).setCell ⟨v2.heap.size, 2, none⟩ (.slice none 0 0)) := ⟨⟨(hb7.cell (p := ⟨w.heap.size, 0, none⟩) (by show w.heap.size < _; omega)).trans Sv3.1.1, (hb7.cell (p := ⟨w.heap.size, 1, none⟩) (by show w.heap.size < _; omega)).trans Sv3.1.2⟩, Sv3.2.trans hb7⟩
        refine hK.out _ _ S9 (fun _ => ?_)
        clear hK K y0 y1 y2 f0 f1 f2
        try simp only [Act.put, List.setIfInBounds_toArray, List.set_cons_zero, List.set_cons_succ]
        refine wpAnyH_done (by kernel_rfl) ?_ _
        go_wp2
        go_meet
        exact ⟨v2.heap.size, A2, c2, rfl, hgC, S9.2, X1, World.ownsRow_nil _ _ _ _, hor⟩
      · skip
        go_simp
        try go_wp2_with fail
        generalize hX9 : (v1.alloc (.cells #[.int .i64 0, .slice none 0 0, .slice none 0 0] 57)) = v5
        have hb8 : Below v1.heap.size v1 v5 := by rw [← hX9]; exact balloc _ _
        have kc5 : Has v5 v1.heap.size 57 #[.int .i64 0, .slice none 0 0, .slice none 0 0] := by rw [← hX9]; exact has_new _ _ _
        have hgC : w0.heap.size ≤ v1.heap.size := by omega
        have own5 := own_callG own1 hb8
        clear hX9
        have hb9v5 : Below w0.heap.size w0 v5 := Sv1.2.trans (hb8.mono (by have := Sv1.2.size; omega))
        have Sv5 : (fun W : World => (W.cell? ⟨w.heap.size, 0, none⟩ = some (.int .i64 x.z) ∧ W.cell? ⟨w.heap.size, 1, none⟩ = some (.slice x.AF x.F.length x.cF)) ∧ Below w0.heap.size w0 W) v5 := ⟨⟨(hb8.cell (p := ⟨w.heap.size, 0, none⟩) (by have := Sv1.2.size; show w.heap.size < _; omega)).trans Sv1.1.1, (hb8.cell (p := ⟨w.heap.size, 1, none⟩) (by have := Sv1.2.size; show w.heap.size < _; omega)).trans Sv1.1.2⟩, hb9v5⟩
        have hzv5 := hb9v5.size
        have hlv5 := has_lt kc5
        clear hb8
        refine hK.out _ _ Sv5 (fun _ => ?_)
        clear hK K
        try simp only [Act.put, List.setIfInBounds_toArray, List.set_cons_zero, List.set_cons_succ]
        refine wpAnyH_ready (rs := [5]) (by kernel_rfl) (by simp) ?_
        refine AllReadyH.cons rfl (fun K hK => ?_) AllReadyH.nil
        refine step_app rfl _ _ 43 rfl w0.heap.size 3 i0 (.int .i64 0) 1 8 Try.underlying43 hi0 hz0 hz1 hz2 rfl (by decide) _ 0 [] rfl own5 x.AF x.F.length x.cF (intV x.F) rfl (il_src (V0.out.f.below (Sv5.2.mono hB0))) (by unfold maxLen; omega) (by omega) (by omega) ?_
        intro A2 c2 v6 hown hgrow hrow
        rw [Nat.zero_add] at hown ⊢
        have or6 : OR v6 w0.heap.size 3 A2 (intV x.F) := by have := or_of hown; simpa using this
        have hb8 : Below w0.heap.size v5 v6 := (Below.refl _ _).grown hgrow (by omega) (fun b hb => (hrow b hb).1)
        have kc6 := has_grown kc5 hgrow (fun e => by obtain ⟨_, cur, hc⟩ := hrow _ e.symm; have := hc.symm.trans kc5; injection this with this; injection this with _ this _; exact absurd this (by decide))
        have hb9v6 : Below w0.heap.size w0 v6 := Sv5.2.trans hb8
        have Sv6 : (fun W : World => (W.cell? ⟨w.heap.size, 0, none⟩ = some (.int .i64 x.z) ∧ W.cell? ⟨w.heap.size, 1, none⟩ = some (.slice x.AF x.F.length x.cF)) ∧ Below w0.heap.size w0 W) v6 := ⟨⟨(hb8.cell (p := ⟨w.heap.size, 0, none⟩) (by show w.heap.size < _; omega)).trans Sv5.1.1, (hb8.cell (p := ⟨w.heap.size, 1, none⟩) (by show w.heap.size < _; omega)).trans Sv5.1.2⟩, hb9v6⟩
        have hzv6 := hb9v6.size
        have hlv6 := has_lt kc6
        clear hb8 hown hgrow hrow
        refine hK.out _ _ Sv6 (fun _ => ?_)
        clear hK K
        try simp only [Act.put, List.setIfInBounds_toArray, List.set_cons_zero, List.set_cons_succ]
        refine any_take (i := 6) (some 18) (.agg #[.int .i64 x.z, .slice A2 x.F.length c2, .slice none 0 0]) rfl rfl (by kernel_rfl) (by kernel_rfl) (by kernel_rfl) (fun _ _ _ h => h) rfl (fun W hSw => ?_) (Sv6) ?_
        · (try dsimp only at hSw); go_simp <;> with_reducible rfl
        try simp only [Act.put, List.setIfInBounds_toArray, List.set_cons_zero, List.set_cons_succ]
        refine wpAnyH_ready (rs := [8]) (by kernel_rfl) (by simp) ?_
        refine AllReadyH.cons rfl (fun K hK => ?_) AllReadyH.nil
        have y0 := has_cell kc6 0 rfl; have y1 := has_cell kc6 1 rfl; have y2 := has_cell kc6 2 rfl; have f0 := has_free kc6 0; have f1 := has_free kc6 1; have f2 := has_free kc6 2
        go_simp
        have X1 := set3 (u := .int .i64 x.z) (v := .slice A2 x.F.length c2) (x := .slice none 0 0) kc6
        have hb7 : Below w0.heap.size v6 (((v6.setCell ⟨v1.heap.size, 0, none⟩ (.int .i64 x.z)).setCell ⟨v1.heap.size, 1, none⟩ (.slice A2 x.F.length c2)).setCell ⟨v1.heap.size, 2, none⟩ (.slice none 0 0)) := (((Below.refl _ _).setCell (p := ⟨v1.heap.size, 0, none⟩) hgC _).setCell (p := ⟨v1.heap.size, 1, none⟩) hgC _).setCell (p := ⟨v1.heap.size, 2, none⟩) hgC _
        have hor := ((or6.set_other kc6 (by decide) 0 (.int .i64 x.z)).set_other (has_set kc6 0 _) (by decide) 1 (.slice A2 x.F.length c2)).set_other (has_set (has_set kc6 0 _) 1 _) (by decide) 2 (.slice none 0 0)
        have S9 : (fun W : World => (W.cell? ⟨w.heap.size, 0, none⟩ = some (.int .i64 x.z) ∧ W.cell? ⟨w.heap.size, 1, none⟩ = some (.slice x.AF x.F.length x.cF)) ∧ Below w0.heap.size w0 W) (((v6.setCell ⟨v1.heap.size, 0, none⟩ (.int .i64 x.z)).setCell ⟨v1.heap.size, 1, none⟩ (.slice A2 x.F.length c2)).setCell ⟨v1.heap.size, 2, none⟩ (.slice none 0 0)) := ⟨⟨(hb7.cell (p := ⟨w.heap.size, 0, none⟩) (by show w.heap.size < _; omega)).trans Sv6.1.1, (hb7.cell (p := ⟨w.heap.size, 1, none⟩) (by show w.heap.size < _; omega)).trans Sv6.1.2⟩, Sv6.2.trans hb7⟩
        refine hK.out _ _ S9 (fun _ => ?_)
        clear hK K y0 y1 y2 f0 f1 f2
        try simp only [Act.put, List.setIfInBounds_toArray, List.set_cons_zero, List.set_cons_succ]
        refine wpAnyH_done (by kernel_rfl) ?_ _
        go_wp2
        go_meet
        exact ⟨v1.heap.size, A2, c2, rfl, hgC, S9.2, X1, World.ownsRow_nil _ _ _ _, hor⟩
    · skip
      go_simp
      try go_wp2_with fail
      generalize hX9 : (w0.alloc (.cells #[.int .i64 0, .slice none 0 0, .slice none 0 0] 57)).drew = v8
      have hb8 : Below w0.drew.heap.size w0.drew v8 := by rw [← hX9]; exact balloc _ _
      have kc8 : Has v8 w0.heap.size 57 #[.int .i64 0, .slice none 0 0, .slice none 0 0] := by rw [← hX9]; exact has_new _ _ _
      have hgC : w0.heap.size ≤ w0.heap.size := by omega
      clear hX9
      have hb9v8 : Below w0.heap.size w0 v8 := S0.2.trans (hb8.mono (by have := S0.2.size; omega))
      have Sv8 : (fun W : World => (W.cell? ⟨w.heap.size, 0, none⟩ = some (.int .i64 x.z) ∧ W.cell? ⟨w.heap.size, 1, none⟩ = some (.slice x.AF x.F.length x.cF)) ∧ Below w0.heap.size w0 W) v8 := ⟨⟨(hb8.cell (p := ⟨w.heap.size, 0, none⟩) (by have := S0.2.size; show w.heap.size < _; omega)).trans S0.1.1, (hb8.cell (p := ⟨w.heap.size, 1, none⟩) (by have := S0.2.size; show w.heap.size < _; omega)).trans S0.1.2⟩, hb9v8⟩
      have hzv8 := hb9v8.size
      have hlv8 := has_lt kc8
      clear hb8
      refine hK.out _ _ Sv8 (fun _ => ?_)
      clear hK K
      try simp only [Act.put, List.setIfInBounds_toArray, List.set_cons_zero, List.set_cons_succ]
      refine wpAnyH_ready (rs := [2]) (by kernel_rfl) (by simp) ?_
      refine AllReadyH.cons rfl (fun K hK => ?_) AllReadyH.nil
      go_simp
      try go_wp2_with fail
      generalize hX9 : (v8.alloc (.cells #[] 3)) = v9
      have hb8 : Below v8.heap.size v8 v9 := by rw [← hX9]; exact balloc _ _
      have own9 : v9.ownsRow w0.heap.size 3 1 (.slice (some ⟨v8.heap.size, 0, none⟩) 0 0) 0 [] := by rw [← hX9]; exact owns_new v8 _ _ _ (by omega)
      have kc9 := has_call kc8 hb8
      clear hX9
      have hb9v9 : Below w0.heap.size w0 v9 := Sv8.2.trans (hb8.mono (by have := Sv8.2.size; omega))
      have Sv9 : (fun W : World => (W.cell? ⟨w.heap.size, 0, none⟩ = some (.int .i64 x.z) ∧ W.cell? ⟨w.heap.size, 1, none⟩ = some (.slice x.AF x.F.length x.cF)) ∧ Below w0.heap.size w0 W) v9 := ⟨⟨(hb8.cell (p := ⟨w.heap.size, 0, none⟩) (by have := Sv8.2.size; show w.heap.size < _; omega)).trans Sv8.1.1, (hb8.cell (p := ⟨w.heap.size, 1, none⟩) (by have := Sv8.2.size; show w.heap.size < _; omega)).trans Sv8.1.2⟩, hb9v9⟩
      have hzv9 := hb9v9.size
      have hlv9 := has_lt kc9
      clear hb8
      refine hK.out _ _ Sv9 (fun _ => ?_)
      clear hK K
      try simp only [Act.put, List.setIfInBounds_toArray, List.set_cons_zero, List.set_cons_succ]
      refine wpAnyH_ready (rs := [5]) (by kernel_rfl) (by simp) ?_
      refine AllReadyH.cons rfl (fun K hK => ?_) AllReadyH.nil
      refine step_app rfl _ _ 43 rfl w0.heap.size 3 i0 (.int .i64 0) 1 8 Try.underlying43 hi0 hz0 hz1 hz2 rfl (by decide) _ 0 [] rfl own9 x.AF x.F.length x.cF (intV x.F) rfl (il_src (V0.out.f.below (Sv9.2.mono hB0))) (by unfold maxLen; omega) (by omega) (by omega) ?_
      intro A2 c2 v10 hown hgrow hrow
      rw [Nat.zero_add] at hown ⊢
      have or10 : OR v10 w0.heap.size 3 A2 (intV x.F) := by have := or_of hown; simpa using this
      have hb8 : Below w0.heap.size v9 v10 := (Below.refl _ _).grown hgrow (by omega) (fun b hb => (hrow b hb).1)
      have kc10 := has_grown kc9 hgrow (fun e => by obtain ⟨_, cur, hc⟩ := hrow _ e.symm; have := hc.symm.trans kc9; injection this with this; injection this with _ this _; exact absurd this (by decide))
      have hb9v10 : Below w0.heap.size w0 v10 := Sv9.2.trans hb8
      have Sv10 : (fun W : World => (W.cell? ⟨w.heap.size, 0, none⟩ = some (.int .i64 x.z) ∧ W.cell? ⟨w.heap.size, 1, none⟩ = some (.slice x.AF x.F.length x.cF)) ∧ Below w0.heap.size w0 W) v10 := ⟨⟨(hb8.cell (p := ⟨w.heap.size, 0, none⟩) (by show w.heap.size < _; omega)).trans Sv9.1.1, (hb8.cell (p := ⟨w.heap.size, 1, none⟩) (by show w.heap.size < _; omega)).trans Sv9.1.2⟩, hb9v10⟩
      have hzv10 := hb9v10.size
      have hlv10 := has_lt kc10
      clear hb8 hown hgrow hrow
      refine hK.out _ _ Sv10 (fun _ => ?_)
      clear hK K
      try simp only [Act.put, List.setIfInBounds_toArray, List.set_cons_zero, List.set_cons_succ]
      refine any_take (i := 6) (some 18) (.agg #[.int .i64 x.z, .slice A2 x.F.length c2, .slice none 0 0]) rfl rfl (by kernel_rfl) (by kernel_rfl) (by kernel_rfl) (fun _ _ _ h => h) rfl (fun W hSw => ?_) (Sv10) ?_
      · (try dsimp only at hSw); go_simp <;> with_reducible rfl
      try simp only [Act.put, List.setIfInBounds_toArray, List.set_cons_zero, List.set_cons_succ]
      refine wpAnyH_ready (rs := [8]) (by kernel_rfl) (by simp) ?_
      refine AllReadyH.cons rfl (fun K hK => ?_) AllReadyH.nil
      have y0 := has_cell kc10 0 rfl; have y1 := has_cell kc10 1 rfl; have y2 := has_cell kc10 2 rfl; have f0 := has_free kc10 0; have f1 := has_free kc10 1; have f2 := has_free kc10 2
      go_simp
      have X1 := set3 (u := .int .i64 x.z) (v := .slice A2 x.F.length c2) (x := .slice none 0 0) kc10
      have hb7 : Below w0.heap.size v10 (((v10.setCell ⟨w0.heap.size, 0, none⟩ (.int .i64 x.z)).setCell ⟨w0.heap.size, 1, none⟩ (.slice A2 x.F.length c2)).setCell ⟨w0.heap.size, 2, none⟩ (.slice none 0 0)) := (((Below.refl _ _).setCell (p := ⟨w0.heap.size, 0, none⟩) hgC _).setCell (p := ⟨w0.heap.size, 1, none⟩) hgC _).setCell (p := ⟨w0.heap.size, 2, none⟩) hgC _
      have hor := ((or10.set_other kc10 (by decide) 0 (.int .i64 x.z)).set_other (has_set kc10 0 _) (by decide) 1 (.slice A2 x.F.length c2)).set_other (has_set (has_set kc10 0 _) 1 _) (by decide) 2 (.slice none 0 0)
      have S9 : (fun W : World => (W.cell? ⟨w.heap.size, 0, none⟩ = some (.int .i64 x.z) ∧ W.cell? ⟨w.heap.size, 1, none⟩ = some (.slice x.AF x.F.length x.cF)) ∧ Below w0.heap.size w0 W) (((v10.setCell ⟨w0.heap.size, 0, none⟩ (.int .i64 x.z)).setCell ⟨w0.heap.size, 1, none⟩ (.slice A2 x.F.length c2)).setCell ⟨w0.heap.size, 2, none⟩ (.slice none 0 0)) := ⟨⟨(hb7.cell (p := ⟨w.heap.size, 0, none⟩) (by show w.heap.size < _; omega)).trans Sv10.1.1, (hb7.cell (p := ⟨w.heap.size, 1, none⟩) (by show w.heap.size < _; omega)).trans Sv10.1.2⟩, Sv10.2.trans hb7⟩
      refine hK.out _ _ S9 (fun _ => ?_)
      clear hK K y0 y1 y2 f0 f1 f2
      try simp only [Act.put, List.setIfInBounds_toArray, List.set_cons_zero, List.set_cons_succ]
      refine wpAnyH_done (by kernel_rfl) ?_ _
      go_wp2
      go_meet
      exact ⟨w0.heap.size, A2, c2, rfl, hgC, S9.2, X1, World.ownsRow_nil _ _ _ _, hor⟩
  case rest =>
    obtain ⟨gC, A2, c2, rfl, hgC, hfs⟩ := hcut
    have HFS := Lib.hid hfs; clear hfs
    clear k0
    go_wp2_with fail
    go_loopw [10] (fun i wr => ∃ (k : Nat) (A' : Option Addr) (c' : Nat) (D : List Bx), k ≤ x.L.length ∧ i = .int .i64 k ∧ D = fillL ⟨g0, g1, g2⟩ p size (x.L.take k) ∧ FS w0 wr gC x.z A2 x.F c2 A' c' D) (fun i _ => x.L.length - (intOf i).toNat)
    case atStart => exact ⟨0, none, 0, [], Nat.zero_le _, rfl, by simp [fillL], HFS.out⟩
    case round =>
      clear HFS
      obtain ⟨k, A', c', D, hk, rfl, hD, hfs⟩ := hrel
      have hDl : D.length ≤ 3145728 := by rw [hD]; have := fillL_len ⟨g0, g1, g2⟩ p size (x.L.take k); simp at this; omega
      have HD := Lib.hid hD; have HFS := Lib.hid hfs; clear hD hfs
      have hszr := HFS.out.bel.size
      have hgCl := has_lt HFS.out.col
      have kA := has_below K0.out HFS.out.bel (by omega); have kG := has_below K1.out HFS.out.bel (by omega)
      have e0 := has_cell kA 0 rfl; have e1 := has_cell kA 1 rfl; have e2 := has_cell kA 2 rfl
      have q0 := has_cell kG 0 rfl; have q1 := has_cell kG 1 rfl; have q2 := has_cell kG 2 rfl; have o2 := has_cell HFS.out.col 2 rfl
      have hlA := has_lt kA; have hlG := has_lt kG
      clear kA kG
      by_cases hlt : k < x.L.length
      · skip
        obtain ⟨b, off, ⟨x0, x1, x2, x3⟩, hAB, hbB, hx, hc0, hc1, hc2, hc3⟩ := (V0.out.b.below (HFS.out.bel.mono hB0)).at_ hlt
        dsimp only at hc0 hc1 hc2 hc3
        rw [hAB] at e2
        have hfb := fillL_succ (g := ⟨g0, g1, g2⟩) (p := p) (size := size) hx
        have HFB := Lib.hid hfb; have HX := Lib.hid hx; have HAB := Lib.hid hAB; clear hfb hx hAB
        have hbw : b < wr.heap.size := by omega
        have HB0 := Lib.hid (has_new wr 65 #[.int .i64 x0, .int .i64 x1, .int .i64 x2, .bool x3])
        by_cases c1 : x0 = g1
        · skip
          have t1 : decide (x0 = g1) = true := by simpa using c1
          have t2 : (x0 == g1) = true := by simpa using c1
          have HC1 := Lib.hid c1; clear c1
          have HP1 := Lib.hid (((HFS.out.alloc (.cells #[.int .i64 x0, .int .i64 x1, .int .i64 x2, .bool x3] 65)).alloc (.cells #[.int .i64 g1, .int .i64 size, .int .i64 p, .bool false] 65)))
          have HN1 := Lib.hid (has_new (wr.alloc (.cells #[.int .i64 x0, .int .i64 x1, .int .i64 x2, .bool x3] 65)) 65 #[.int .i64 g1, .int .i64 size, .int .i64 p, .bool false])
          go_wp2_with (at_builtin; go_must (refine list_appB rfl _ _ 55 rfl w0.heap.size 65 j0 (.agg #[.int .i64 0, .int .i64 0, .int .i64 0, .bool false]) 4 32 Try.underlying55 hj0 hy0 hy1 hy2 rfl (by decide) _ _ _ rfl HP1.out.row (some ⟨wr.heap.size + 1, 0, none⟩) 1 1 (boxC ⟨g1, size, p, false⟩) rfl (by have := src_bx (x := ⟨g1, size, p, false⟩) HN1.out; simpa using this) (by unfold maxLen; omega) (by omega) (by simp; omega) ?_))
          intro A3 c3 u1 hown hgrow hrow hob
          have hmid := HP1.out.mid hgrow hrow
          have HF1 := Lib.hid (HP1.out.app hgC (b := ⟨g1, size, p, false⟩) hown hgrow hrow)
          have kb := has_grown (has_alloc HB0.out (.cells #[.int .i64 g1, .int .i64 size, .int .i64 p, .bool false] 65)) hgrow (fun e => by have := (HFS.out.row.lt _ e.symm).2; omega)
          have kb2 := has_far kb (p := ⟨gC, 2, none⟩) (by show wr.heap.size ≠ gC; omega) (.slice A3 (D.length + 1) c3)
          have y2 := has_cell hmid 2 rfl; have yf := has_free hmid 2; have hgl := has_lt hmid
          have HOB := Lib.hid (show some wr.heap.size ≠ (Value.slice A3 (D.length + 1) c3).ownBlock from fun e => by rcases hob with h | h; exact absurd (h.symm.trans e.symm |> fun q => (HFS.out.row.lt _ q).2) (Nat.lt_irrefl _); rw [h] at e; injection e with e; omega)
          have HMI := Lib.hid hmid; clear hmid kb hown hgrow hrow hob e0 e1 e2 q0 q1 q2 o2 hc0 hc1 hc2 hc3
          have HKB := Lib.hid kb2; clear kb2
          go_upto_region 8 with (fail)
          generalize hX : u1.setCell ⟨gC, 2, none⟩ (.slice A3 (D.length + 1) c3) = z1 at *
          clear hX y2 yf hgl
          obtain ⟨D1, hD1⟩ : ∃ D1, D ++ [⟨g1, size, p, false⟩] = D1 := ⟨_, rfl⟩
          have HF1b := HF1.out; rw [hD1] at HF1b; clear HF1; have HF1 := Lib.hid HF1b; clear HF1b
          have hDl1 : D1.length ≤ 3145730 := by rw [← hD1]; simp; omega
          have HD1 := Lib.hid hD1; clear hD1
          have hsz1 := HF1.out.bel.size; have hgl1 := has_lt HF1.out.col
          have kA := has_below K0.out HF1.out.bel (by omega); have kG := has_below K1.out HF1.out.bel (by omega)
          have e0 := has_cell kA 0 rfl; have e1 := has_cell kA 1 rfl; have e2 := has_cell kA 2 rfl
          have q0 := has_cell kG 0 rfl; have q1 := has_cell kG 1 rfl; have q2 := has_cell kG 2 rfl
          have o2 := has_cell HF1.out.col 2 rfl
          have d0 := has_cell HKB.out 0 rfl; have d1 := has_cell HKB.out 1 rfl; have d2 := has_cell HKB.out 2 rfl; have d3 := has_cell HKB.out 3 rfl
          clear kA kG
          rw [HAB.out] at e2
          have KB1 := HKB; clear HKB
          have t3 : decide (x0 < g1) = false := by have := HC1.out; simp; omega
          have t4 : decide (g1 + g2 ≤ x0) = false := by have := HC1.out; simp; omega
          by_cases c2s : size < g2
          · skip
            have t5 : decide (size < g2) = true := by simpa using c2s
            have HP2 := Lib.hid (((HF1.out).alloc (.cells #[.int .i64 (g1 + size), .int .i64 (g2 - size), .int .i64 0, .bool false] 65)))
            have HN2 := Lib.hid (has_new z1 65 #[.int .i64 (g1 + size), .int .i64 (g2 - size), .int .i64 0, .bool false])
            go_wp2_with (at_builtin; go_must (refine list_appB rfl _ _ 55 rfl w0.heap.size 65 j0 (.agg #[.int .i64 0, .int .i64 0, .int .i64 0, .bool false]) 4 32 Try.underlying55 hj0 hy0 hy1 hy2 rfl (by decide) _ _ _ rfl HP2.out.row (some ⟨z1.heap.size, 0, none⟩) 1 1 (boxC ⟨g1 + size, g2 - size, 0, false⟩) rfl (by have := src_bx (x := ⟨g1 + size, g2 - size, 0, false⟩) HN2.out; simpa using this) (by unfold maxLen; omega) (by omega) (by simp; omega) ?_))
            intro A4 c4 u2 hown hgrow hrow hob
            have hmid := HP2.out.mid hgrow hrow
            have HF2 := Lib.hid (HP2.out.app hgC (b := ⟨g1 + size, g2 - size, 0, false⟩) hown hgrow hrow)
            have kb := has_grown (has_alloc KB1.out (.cells #[.int .i64 (g1 + size), .int .i64 (g2 - size), .int .i64 0, .bool false] 65)) hgrow (fun e => by revert e; cases A3 <;> exact fun e => HOB.out e)
            have kb2 := has_far kb (p := ⟨gC, 2, none⟩) (by show wr.heap.size ≠ gC; omega) (.slice A4 (D1.length + 1) c4)
            have y2 := has_cell hmid 2 rfl; have yf := has_free hmid 2; have hgl := has_lt hmid
            have HMI := Lib.hid hmid; clear hmid kb hown hgrow hrow hob e0 e1 e2 q0 q1 q2 o2 d0 d1 d2 d3
            have HKB := Lib.hid kb2; clear kb2
            skip
            go_upto_region 10 with (fail)
            generalize hX : u2.setCell ⟨gC, 2, none⟩ (.slice A4 (D1.length + 1) c4) = z2 at *
            clear hX y2 yf hgl
            have hszz := HF2.out.bel.size; have hglz := has_lt HF2.out.col
            have kA := has_below K0.out HF2.out.bel (by omega); have kG := has_below K1.out HF2.out.bel (by omega)
            have e0 := has_cell kA 0 rfl; have e1 := has_cell kA 1 rfl; have e2 := has_cell kA 2 rfl
            have q0 := has_cell kG 0 rfl; have q1 := has_cell kG 1 rfl; have q2 := has_cell kG 2 rfl
            have o2 := has_cell HF2.out.col 2 rfl
            have d0 := has_cell HKB.out 0 rfl; have d1 := has_cell HKB.out 1 rfl; have d2 := has_cell HKB.out 2 rfl; have d3 := has_cell HKB.out 3 rfl
            clear kA kG
            rw [HAB.out] at e2
            go_wp2
            go_roundw
            case rel => exact ⟨k + 1, A4, c4, D1 ++ [⟨g1 + size, g2 - size, 0, false⟩], by omega, by go_num, by rw [HFB.out, ← HD.out]; rw [← HD1.out]; simp [fillB, HC1.out, c2s]; omega, HF2.out⟩
            case measure => simp [intOf]; omega
          · skip
            have t5 : decide (size < g2) = false := by simpa using c2s
            go_wp2
            go_roundw
            case rel => exact ⟨k + 1, A3, c3, D1, by omega, by go_num, by rw [HFB.out, ← HD.out]; rw [← HD1.out]; simp [fillB, HC1.out, c2s]; omega, HF1.out⟩
            case measure => simp [intOf]; omega
        · skip
          have t1 : decide (x0 = g1) = false := by simpa using c1
          have t2 : (x0 == g1) = false := by simpa using c1
          by_cases c3 : x0 < g1 ∨ g1 + g2 ≤ x0
          · skip
            have hfl : fillB ⟨g0, g1, g2⟩ p size ⟨x0, x1, x2, x3⟩ = [⟨x0, x1, x2, x3⟩] := by unfold fillB; rw [if_neg c1, if_pos c3]; rfl
            have HFL := Lib.hid hfl; have HC1 := Lib.hid c1; clear hfl c1
            have htw : decide (x0 < g1) = true ∨ (decide (x0 < g1) = false ∧ decide (g1 + g2 ≤ x0) = true) := by rcases c3 with c3 | c3; exact .inl (by simpa using c3); by_cases c4 : x0 < g1; exact .inl (by simpa using c4); exact .inr ⟨by simpa using c4, by simpa using c3⟩
            clear c3
            rcases htw with t3 | ⟨t3, t4⟩
            · skip
              have HP3 := Lib.hid (((HFS.out.alloc (.cells #[.int .i64 x0, .int .i64 x1, .int .i64 x2, .bool x3] 65)).alloc (.cells #[.int .i64 x0, .int .i64 x1, .int .i64 x2, .bool x3] 65)))
              have HN3 := Lib.hid (has_new (wr.alloc (.cells #[.int .i64 x0, .int .i64 x1, .int .i64 x2, .bool x3] 65)) 65 #[.int .i64 x0, .int .i64 x1, .int .i64 x2, .bool x3])
              go_wp2_with (at_builtin; go_must (refine list_appB rfl _ _ 55 rfl w0.heap.size 65 j0 (.agg #[.int .i64 0, .int .i64 0, .int .i64 0, .bool false]) 4 32 Try.underlying55 hj0 hy0 hy1 hy2 rfl (by decide) _ _ _ rfl HP3.out.row (some ⟨wr.heap.size + 1, 0, none⟩) 1 1 (boxC ⟨x0, x1, x2, x3⟩) rfl (by have := src_bx (x := ⟨x0, x1, x2, x3⟩) HN3.out; simpa using this) (by unfold maxLen; omega) (by omega) (by simp; omega) ?_))
              intro A5 c5 u3 hown hgrow hrow hob
              have hmid := HP3.out.mid hgrow hrow
              have HF3 := Lib.hid (HP3.out.app hgC (b := ⟨x0, x1, x2, x3⟩) hown hgrow hrow)
              have kb := has_grown (has_alloc HB0.out (.cells #[.int .i64 x0, .int .i64 x1, .int .i64 x2, .bool x3] 65)) hgrow (fun e => by have := (HFS.out.row.lt _ e.symm).2; omega)
              have kb2 := has_far kb (p := ⟨gC, 2, none⟩) (by show wr.heap.size ≠ gC; omega) (.slice A5 (D.length + 1) c5)
              have y2 := has_cell hmid 2 rfl; have yf := has_free hmid 2; have hgl := has_lt hmid
              have HOB := Lib.hid (show some wr.heap.size ≠ (Value.slice A5 (D.length + 1) c5).ownBlock from fun e => by rcases hob with h | h; exact absurd (h.symm.trans e.symm |> fun q => (HFS.out.row.lt _ q).2) (Nat.lt_irrefl _); rw [h] at e; injection e with e; omega)
              have HMI := Lib.hid hmid; clear hmid kb hown hgrow hrow hob e0 e1 e2 q0 q1 q2 o2 hc0 hc1 hc2 hc3
              have HKB := Lib.hid kb2; clear kb2
              go_wp2
              go_roundw
              case rel => exact ⟨k + 1, A5, c5, D ++ [⟨x0, x1, x2, x3⟩], by omega, by go_num, by rw [HFB.out, ← HD.out]; rw [HFL.out], HF3.out⟩
              case measure => simp [intOf]; omega
            · skip
              have HP4 := Lib.hid (((HFS.out.alloc (.cells #[.int .i64 x0, .int .i64 x1, .int .i64 x2, .bool x3] 65)).alloc (.cells #[.int .i64 x0, .int .i64 x1, .int .i64 x2, .bool x3] 65)))
              have HN4 := Lib.hid (has_new (wr.alloc (.cells #[.int .i64 x0, .int .i64 x1, .int .i64 x2, .bool x3] 65)) 65 #[.int .i64 x0, .int .i64 x1, .int .i64 x2, .bool x3])
              go_wp2_with (at_builtin; go_must (refine list_appB rfl _ _ 55 rfl w0.heap.size 65 j0 (.agg #[.int .i64 0, .int .i64 0, .int .i64 0, .bool false]) 4 32 Try.underlying55 hj0 hy0 hy1 hy2 rfl (by decide) _ _ _ rfl HP4.out.row (some ⟨wr.heap.size + 1, 0, none⟩) 1 1 (boxC ⟨x0, x1, x2, x3⟩) rfl (by have := src_bx (x := ⟨x0, x1, x2, x3⟩) HN4.out; simpa using this) (by unfold maxLen; omega) (by omega) (by simp; omega) ?_))
              intro A6 c6 u4 hown hgrow hrow hob
              have hmid := HP4.out.mid hgrow hrow
              have HF4 := Lib.hid (HP4.out.app hgC (b := ⟨x0, x1, x2, x3⟩) hown hgrow hrow)
              have kb := has_grown (has_alloc HB0.out (.cells #[.int .i64 x0, .int .i64 x1, .int .i64 x2, .bool x3] 65)) hgrow (fun e => by have := (HFS.out.row.lt _ e.symm).2; omega)
              have kb2 := has_far kb (p := ⟨gC, 2, none⟩) (by show wr.heap.size ≠ gC; omega) (.slice A6 (D.length + 1) c6)
              have y2 := has_cell hmid 2 rfl; have yf := has_free hmid 2; have hgl := has_lt hmid
              have HOB := Lib.hid (show some wr.heap.size ≠ (Value.slice A6 (D.length + 1) c6).ownBlock from fun e => by rcases hob with h | h; exact absurd (h.symm.trans e.symm |> fun q => (HFS.out.row.lt _ q).2) (Nat.lt_irrefl _); rw [h] at e; injection e with e; omega)
              have HMI := Lib.hid hmid; clear hmid kb hown hgrow hrow hob e0 e1 e2 q0 q1 q2 o2 hc0 hc1 hc2 hc3
              have HKB := Lib.hid kb2; clear kb2
              go_wp2
              go_roundw
              case rel => exact ⟨k + 1, A6, c6, D ++ [⟨x0, x1, x2, x3⟩], by omega, by go_num, by rw [HFB.out, ← HD.out]; rw [HFL.out], HF4.out⟩
              case measure => simp [intOf]; omega
          · skip
            have hfl : fillB ⟨g0, g1, g2⟩ p size ⟨x0, x1, x2, x3⟩ = [] := by unfold fillB; rw [if_neg c1, if_neg c3]; rfl
            have HFL := Lib.hid hfl; clear hfl
            have t3 : decide (x0 < g1) = false := by simp; omega
            have t4 : decide (g1 + g2 ≤ x0) = false := by simp; omega
            clear c1 c3
            go_wp2
            go_roundw
            case rel => exact ⟨k + 1, A', c', D, by omega, by go_num, by rw [HFB.out, ← HD.out]; rw [HFL.out]; simp, HFS.out.alloc _⟩
            case measure => simp [intOf]; omega
      · skip
        have hkl : k = x.L.length := by omega
        have kR := has_below K2.out HFS.out.bel (by omega)
        clear o2
        have o0 := has_cell HFS.out.col 0 rfl; have o1 := has_cell HFS.out.col 1 rfl; have o2 := has_cell HFS.out.col 2 rfl
        have y0 := has_cell kR 0 rfl; have y1 := has_cell kR 1 rfl; have y2 := has_cell kR 2 rfl; have f0 := has_free kR 0; have f1 := has_free kR 1; have f2 := has_free kR 2
        have hlR := has_lt kR
        have X1 := Lib.hid (set3 (u := .int .i64 x.z) (v := .slice A2 x.F.length c2) (x := .slice A' D.length c') kR)
        have hDD : D = fillL ⟨g0, g1, g2⟩ p size x.L := by rw [HD.out, hkl, List.take_length]
        have HDD := Lib.hid hDD; clear hDD kR
        have hbel : Below w.heap.size w wr := BB.out.trans (HFS.out.bel.mono (by omega))
        have FIN := Lib.hid (ans_finr0 (w.heap.size + 2) w0.heap.size hbel (by omega) (by omega) HFS.out.fix (or_of HFS.out.row) (.int .i64 x.z) (.slice A2 x.F.length c2) (.slice A' D.length c'))
        clear hbel
        go_wp2_with fail
        have g0' := has_cell X1.out 0 rfl
        have g1' := has_cell X1.out 1 rfl
        have g2' := has_cell X1.out 2 rfl
        rw [← HDD.out]
        exact bodyPost_ret (v := .agg #[.int .i64 x.z, .slice A2 x.F.length c2, .slice A' D.length c']) (by simp [results, Try.results35, go_sem, g0', g1', g2']) rfl ⟨A2, A', c2, c', rfl, FIN.out⟩
end Go.Proofs.Ythfpjfekemelaaa
