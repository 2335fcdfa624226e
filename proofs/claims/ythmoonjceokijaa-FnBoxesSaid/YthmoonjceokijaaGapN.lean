/- Chapter 2: Cleared of the model (gen_gapn.py). -/
import Derived.Test.YthmoonjceokijaaGapJ
namespace Go.Proofs.Ythmoonjceokijaa
open Go.RowKit
set_option linter.unusedVariables false

theorem cell_farN {w : World} {g q : Nat} (h : q ≠ g) (o i j k : Nat) (u v x : Value) : (((w.setCell ⟨g, i, none⟩ u).setCell ⟨g, j, none⟩ v).setCell ⟨g, k, none⟩ x).cell? ⟨q, o, none⟩ = w.cell? ⟨q, o, none⟩ := by
  rw [World.cell?_setCell_other _ _ _ _ (fun e => by injection e; omega), World.cell?_setCell_other _ _ _ _ (fun e => by injection e; omega), World.cell?_setCell_other _ _ _ _ (fun e => by injection e; omega)]
def fillAll (L : List Bx) (G : List Gp) : List Bx := G.foldl (fun out g => fillL g 0 g.size out) L
theorem fillAll_succ {L : List Bx} {G : List Gp} {k : Nat} {g : Gp} (h : G[k]? = some g) : fillAll L (G.take (k + 1)) = fillL g 0 g.size (fillAll L (G.take k)) := by
  unfold fillAll; rw [List.take_add_one, h]; simp
theorem fillL_len1 {g : Gp} {p : Int} (hg : 1 ≤ g.size) (L : List Bx) : (fillL g p g.size L).length ≤ L.length := by
  induction L with
  | nil => simp [fillL]
  | cons x r ih =>
    unfold fillL at ih ⊢
    rw [List.flatMap_cons, List.length_append]
    have : (fillB g p g.size x).length ≤ 1 := by
      unfold fillB
      by_cases h : x.low = g.low
      · rw [if_pos h, if_neg (by omega), if_neg (by omega)]; simp
      · rw [if_neg h]; split <;> simp
    rw [List.length_cons]; omega
theorem fillAll_len {G : List Gp} (hg : ∀ g ∈ G, 1 ≤ g.size) (L : List Bx) : ∀ k, k ≤ G.length → (fillAll L (G.take k)).length ≤ L.length
  | 0, _ => by simp [fillAll]
  | k + 1, hk => by
    have h := List.getElem?_eq_getElem (l := G) (i := k) (by omega)
    rw [fillAll_succ h]
    exact Nat.le_trans (fillL_len1 (hg _ (List.getElem_mem _)) _) (fillAll_len hg L k (by omega))
theorem gapsO_bd {z : Int} {F : List Int} {L : List Bx} : ∀ g ∈ gapsO z F L, 0 ≤ g.low ∧ g.low ≤ 24 ∧ 1 ≤ g.size ∧ g.size ≤ 24 := fun g hg => by
  by_cases h : ColOk z F L
  · rw [gapsO_ok h] at hg
    obtain ⟨hcs, hc24, hcl⟩ := col_sum h
    obtain ⟨Q, y, r, e1, e2, rfl, e4, a', e5⟩ := gap_at F 0 L.length L [] 0 (Nat.le_refl _) (con_all h.box) (fun b hb => by cases hb) g hg
    rw [List.nil_append] at e1
    have h1 := con_low (con_all h.box) y (by rw [e1]; simp)
    have h2 := hcs y (by rw [e1]; simp)
    have h3 := sumZ_app Q (y :: r)
    rw [← e1, sumZ_cons] at h3
    have h4 := sumZ_pos (L := Q) fun b hb => hcs b (by rw [e1]; exact List.mem_append_left _ hb)
    have h5 := runZ_take F r
    have h6 : 0 ≤ sumZ (r.take (runN F r)) := sumZ_pos fun b hb => hcs b (by rw [e1]; simp [List.mem_of_mem_take hb])
    have h7 : 0 ≤ sumZ (r.drop (runN F r)) := sumZ_pos fun b hb => hcs b (by rw [e1]; simp [List.mem_of_mem_drop hb])
    have h8 := sumZ_app (r.take (runN F r)) (r.drop (runN F r))
    rw [List.take_append_drop] at h8
    dsimp only
    omega
  · rw [gapsO_no h] at hg; cases hg
theorem fillAll_clr (z : Int) (F : List Int) (L : List Bx) : fillAll L (gapsO z F L) = clrO z F L := by
  by_cases h : ColOk z F L
  · rw [gapsO_ok h, clrO_ok h]
    have := fill_all F 0 L.length L [] 0 (Nat.le_refl _) (con_all h.box) (fun b hb => by cases hb)
    simpa [fillAll] using this
  · rw [gapsO_no h, clrO_no h]; rfl

set_option maxRecDepth 100000 in
set_option maxHeartbeats 4000000 in
theorem clrS_any (w : World) (B : Nat) (x : Cl) (lf : x.F.length ≤ 1048576) (lb : x.L.length ≤ 1048576) (hB : B ≤ w.heap.size) (hV : CV w B x) :
    Calls Try.prog 19 #[.agg #[.int .i64 x.z, .slice x.AF x.F.length x.cF, .slice x.AB x.L.length x.cB]] w (ColAnsN (clrR x.z x.F x.L) w) := by
  have HV := Lib.hid hV; clear hV
  have hcl := clrO_len x.z x.F x.L
  obtain ⟨G, hG⟩ : ∃ G, gapsO x.z x.F x.L = G := ⟨_, rfl⟩
  have hbd : ∀ g ∈ G, 0 ≤ g.low ∧ g.low ≤ 24 ∧ 1 ≤ g.size ∧ g.size ≤ 24 := by rw [← hG]; exact gapsO_bd
  have hGl : G.length ≤ 24 := by rw [← hG]; exact gapsO_len _ _ _
  have hfa : fillAll x.L G = clrO x.z x.F x.L := by rw [← hG]; exact fillAll_clr _ _ _
  have HG := Lib.hid hG; have HBD := Lib.hid hbd; have HFA := Lib.hid hfa; clear hG hbd hfa
  go_enter Try.func19, Try.ntmps19
  go_wp2_with fail
  generalize hW0 : ((w.alloc (.cells #[.int .i64 x.z, .slice x.AF x.F.length x.cF, .slice x.AB x.L.length x.cB] 27)).alloc (.cells #[.int .i64 0, .slice none 0 0, .slice none 0 0] 27)) = w0
  have b0 : Below w.heap.size w w0 := by rw [← hW0]; exact bthen (balloc _ _) (balloc _ _)
  have hs0 : w.heap.size + 2 ≤ w0.heap.size := by rw [← hW0]; simp
  have k0 : Has w0 w.heap.size 27 #[.int .i64 x.z, .slice x.AF x.F.length x.cF, .slice x.AB x.L.length x.cB] := by rw [← hW0]; exact has_alloc (has_new _ _ _) _
  have k1 : Has w0 (w.heap.size + 1) 27 #[.int .i64 0, .slice none 0 0, .slice none 0 0] := by rw [← hW0]; have := has_new (w.alloc (.cells #[.int .i64 x.z, .slice x.AF x.F.length x.cF, .slice x.AB x.L.length x.cB] 27)) 27 #[.int .i64 0, .slice none 0 0, .slice none 0 0]; simpa using this
  clear hW0
  have K0 := Lib.hid k0; have K1 := Lib.hid k1; clear k0 k1
  refine (copyS_any w0 B x lf lb (by omega) (HV.out.later hB b0)).mono ?_
  rintro e w1 ⟨A2, A3, n2, n3, rfl, hP, hQ, hb1⟩
  have hz1 := hb1.size
  have hb01 := bthen b0 hb1
  have K01 := Lib.hid (has_call K0.out hb1); have K11 := Lib.hid (has_call K1.out hb1); have HP := Lib.hid hP; have HQ := Lib.hid hQ; have C1 := Lib.hid hb01; clear b0 hb01 hb1 hP hQ
  have e0 := has_cell K01.out 0 rfl; have e1 := has_cell K01.out 1 rfl; have e2 := has_cell K01.out 2 rfl
  have hlA := has_lt K01.out
  go_wp2_with fail
  generalize hX : (w1.alloc (.cells #[.int .i64 x.z, .slice A2 x.F.length n2, .slice A3 x.L.length n3] 27)) = w2
  have b2 : Below w1.heap.size w1 w2 := by rw [← hX]; exact balloc _ _
  have ko : Has w2 w1.heap.size 27 #[.int .i64 x.z, .slice A2 x.F.length n2, .slice A3 x.L.length n3] := by rw [← hX]; exact has_new _ _ _
  clear hX e0 e1 e2
  have c2 := bthen C1.out b2
  have hz2 := b2.size
  have KO := Lib.hid ko; have HP2 := Lib.hid (HP.out.below b2); have HQ2 := Lib.hid (HQ.out.below b2); have B2 := Lib.hid b2; clear ko b2
  have hko := has_lt KO.out
  refine (gapsS_any w2 B x (by omega) (HV.out.later hB c2)).mono ?_
  rintro e w3 hans
  rw [HG.out] at hans
  obtain ⟨AG, nG, rfl, hor, hb3⟩ := hans
  have hz3 := hb3.size
  have KO3 := Lib.hid (has_call KO.out hb3); have HP3 := Lib.hid (HP2.out.below hb3); have HQ3 := Lib.hid (HQ2.out.below hb3); have HG3 := Lib.hid (hor.more (show w0.heap.size ≤ w2.heap.size by omega)); have B3 := Lib.hid (B2.out.trans (hb3.mono (by omega))); clear hor hb3 c2
  go_wp2_with fail
  go_loopw [5] (fun i wr => ∃ (k : Nat) (D : List Bx) (A5 A6 : Option Addr) (c5 c6 : Nat), k ≤ G.length ∧ i = .int .i64 k ∧ D = fillAll x.L (G.take k) ∧ Has wr w1.heap.size 27 #[.int .i64 x.z, .slice A5 x.F.length c5, .slice A6 D.length c6] ∧ OR wr w0.heap.size 3 A5 (intV x.F) ∧ OR wr w0.heap.size 47 A6 (boxV D) ∧ OR wr w0.heap.size 36 AG (gpV G) ∧ Below w1.heap.size w1 wr) (fun i _ => G.length - (intOf i).toNat)
  case atStart => exact ⟨0, x.L, A2, A3, n2, n3, Nat.zero_le _, rfl, by simp [fillAll], KO3.out, HP3.out, HQ3.out, HG3.out, B3.out⟩
  case round =>
    obtain ⟨k, D, A5, A6, c5, c6, hk, rfl, hD, hko5, hP5, hQ5, hG5, hb5⟩ := hrel
    have hDl : D.length ≤ x.L.length := by rw [hD]; exact fillAll_len (fun g hg => (HBD.out g hg).2.2.1) _ k hk
    have hzr := hb5.size
    have HD := Lib.hid hD; have HKO5 := Lib.hid hko5; have HP5 := Lib.hid hP5; have HQ5 := Lib.hid hQ5; have HG5 := Lib.hid hG5; have HB5 := Lib.hid hb5
    have o0 := has_cell hko5 0 rfl; have o1 := has_cell hko5 1 rfl; have o2 := has_cell hko5 2 rfl
    have hlo := has_lt hko5
    clear hD hko5 hP5 hQ5 hb5
    by_cases hlt : k < G.length
    · skip
      obtain ⟨b, off, ⟨g0, g1, g2⟩, rfl, hbB, hx, hc0, hc1, hc2⟩ := hG5.gp.at_ hlt
      dsimp only at hc0 hc1 hc2
      have hgb := HBD.out _ (List.mem_of_getElem? hx)
      dsimp only at hgb
      obtain ⟨hg1, hg2, hg3, hg4⟩ := hgb
      have hsu := fillAll_succ (L := x.L) hx
      have HSU := Lib.hid hsu; clear hsu hx hG5
      have hk0 : (0 : Int) ≤ (k : Int) := by omega
      have hk1 : (k : Int) < (G.length : Int) := by omega
      go_upto_region 6 with (fail)
      have S0 : (fun W : World => W.cell? ⟨b, off + k * 3, none⟩ = some (.int .i64 g0) ∧ W.cell? ⟨b, off + k * 3 + 1, none⟩ = some (.int .i64 g1) ∧ W.cell? ⟨b, off + k * 3 + 2, none⟩ = some (.int .i64 g2)) wr.drew := ⟨hc0, hc1, hc2⟩
      clear o0 o1 o2 hc0 hc1 hc2
      refine wp_region_held_drew (S := (fun W : World => W.cell? ⟨b, off + k * 3, none⟩ = some (.int .i64 g0) ∧ W.cell? ⟨b, off + k * 3 + 1, none⟩ = some (.int .i64 g1) ∧ W.cell? ⟨b, off + k * 3 + 2, none⟩ = some (.int .i64 g2))) (by kernel_rfl) S0 (fun _ => ?_)
      refine any_take (i := 1) (some 17) (.slice (some ⟨b, off, none⟩) G.length nG) rfl rfl (by kernel_rfl) (by kernel_rfl) (by kernel_rfl) (fun _ _ _ h => h) rfl (fun W hSw => ?_) (S0) ?_
      · (try dsimp only at hSw); go_simp <;> with_reducible rfl
      try simp only [Act.put, List.setIfInBounds_toArray, List.set_cons_zero, List.set_cons_succ]
      refine any_take (i := 2) (some 18) (.int .i64 (k : Int)) rfl rfl (by kernel_rfl) (by kernel_rfl) (by kernel_rfl) (fun _ _ _ h => h) rfl (fun W hSw => ?_) (S0) ?_
      · (try dsimp only at hSw); go_simp <;> with_reducible rfl
      try simp only [Act.put, List.setIfInBounds_toArray, List.set_cons_zero, List.set_cons_succ]
      refine any_take (i := 3) (some 19) (.pointer (some ⟨b, off + k * 3, none⟩)) rfl rfl (by kernel_rfl) (by kernel_rfl) (by kernel_rfl) (fun _ _ _ h => h) rfl (fun W hSw => ?_) (S0) ?_
      · (try dsimp only at hSw); go_simp <;> with_reducible rfl
      try simp only [Act.put, List.setIfInBounds_toArray, List.set_cons_zero, List.set_cons_succ]
      refine any_take (i := 4) (some 20) (.agg #[.int .i64 g0, .int .i64 g1, .int .i64 g2]) rfl rfl (by kernel_rfl) (by kernel_rfl) (by kernel_rfl) (fun _ _ _ h => h) rfl (fun W hSw => ?_) (S0) ?_
      · (try dsimp only at hSw); go_simp <;> with_reducible rfl
      try simp only [Act.put, List.setIfInBounds_toArray, List.set_cons_zero, List.set_cons_succ]
      refine any_take (i := 5) (some 21) (.slice (some ⟨b, off, none⟩) G.length nG) rfl rfl (by kernel_rfl) (by kernel_rfl) (by kernel_rfl) (fun _ _ _ h => h) rfl (fun W hSw => ?_) (S0) ?_
      · (try dsimp only at hSw); go_simp <;> with_reducible rfl
      try simp only [Act.put, List.setIfInBounds_toArray, List.set_cons_zero, List.set_cons_succ]
      refine any_take (i := 6) (some 22) (.int .i64 (k : Int)) rfl rfl (by kernel_rfl) (by kernel_rfl) (by kernel_rfl) (fun _ _ _ h => h) rfl (fun W hSw => ?_) (S0) ?_
      · (try dsimp only at hSw); go_simp <;> with_reducible rfl
      try simp only [Act.put, List.setIfInBounds_toArray, List.set_cons_zero, List.set_cons_succ]
      refine any_take (i := 7) (some 23) (.pointer (some ⟨b, off + k * 3, none⟩)) rfl rfl (by kernel_rfl) (by kernel_rfl) (by kernel_rfl) (fun _ _ _ h => h) rfl (fun W hSw => ?_) (S0) ?_
      · (try dsimp only at hSw); go_simp <;> with_reducible rfl
      try simp only [Act.put, List.setIfInBounds_toArray, List.set_cons_zero, List.set_cons_succ]
      refine any_take (i := 8) (some 24) (.pointer (some ⟨b, off + k * 3 + 2, none⟩)) rfl rfl (by kernel_rfl) (by kernel_rfl) (by kernel_rfl) (fun _ _ _ h => h) rfl (fun W hSw => ?_) (S0) ?_
      · (try dsimp only at hSw); go_simp <;> with_reducible rfl
      try simp only [Act.put, List.setIfInBounds_toArray, List.set_cons_zero, List.set_cons_succ]
      refine any_take (i := 9) (some 25) (.int .i64 g2) rfl rfl (by kernel_rfl) (by kernel_rfl) (by kernel_rfl) (fun _ _ _ h => h) rfl (fun W hSw => ?_) (S0) ?_
      · (try dsimp only at hSw); go_simp <;> with_reducible rfl
      try simp only [Act.put, List.setIfInBounds_toArray, List.set_cons_zero, List.set_cons_succ]
      refine wpAnyH_ready (rs := [0]) (by kernel_rfl) (by simp) ?_
      refine AllReadyH.cons rfl (fun K hK => ?_) AllReadyH.nil
      have o0 := has_cell (has_drew HKO5.out) 0 rfl; have o1 := has_cell (has_drew HKO5.out) 1 rfl; have o2 := has_cell (has_drew HKO5.out) 2 rfl
      go_simp
      refine hK.out _ _ S0 (fun _ => ?_)
      clear hK K o0 o1 o2
      try simp only [Act.put, List.setIfInBounds_toArray, List.set_cons_zero, List.set_cons_succ]
      refine wpAnyH_ready (rs := [10]) (by kernel_rfl) (by simp) ?_
      refine AllReadyH.cons rfl (fun K hK => ?_) AllReadyH.nil
      go_simp
      go_at_call 33
      refine (fillS_any wr.drew wr.drew.heap.size ⟨x.z, A5, x.F, c5, A6, D, c6⟩ g0 g1 g2 0 g2 lf (show D.length ≤ 1048576 by omega) (Nat.le_refl _) (show CV wr.drew wr.drew.heap.size ⟨x.z, A5, x.F, c5, A6, D, c6⟩ from ⟨(HP5.out.il).below (Below.refl _ _).drew, (HQ5.out.xl).below (Below.refl _ _).drew, by show x.F.length ≤ maxLen; unfold maxLen; omega, by show D.length ≤ maxLen; unfold maxLen; omega⟩) hg1 (by omega) hg3 (by omega) (by omega) (by omega)).mono ?_
      rintro e w5 ⟨A7, A8, c7, c8, rfl, hP7, hQ8, hb8⟩
      dsimp only at hP7 hQ8 ⊢
      have hb9 : Below wr.heap.size wr w5 := ((Below.refl wr.heap.size wr).drew).trans hb8
      have hbw : b < wr.heap.size := by omega
      have S5 : (fun W : World => W.cell? ⟨b, off + k * 3, none⟩ = some (.int .i64 g0) ∧ W.cell? ⟨b, off + k * 3 + 1, none⟩ = some (.int .i64 g1) ∧ W.cell? ⟨b, off + k * 3 + 2, none⟩ = some (.int .i64 g2)) w5 := ⟨(bold hb9 _ _ hbw).trans S0.1, (bold hb9 _ _ hbw).trans S0.2.1, (bold hb9 _ _ hbw).trans S0.2.2⟩
      obtain ⟨E, hE⟩ : ∃ E, fillL ⟨g0, g1, g2⟩ 0 g2 D = E := ⟨_, rfl⟩
      rw [hE] at hQ8 ⊢
      have HE := Lib.hid hE; clear hE
      go_wp2_with fail
      refine hK.out _ _ S5 (fun _ => ?_)
      clear hK K
      try simp only [Act.put, List.setIfInBounds_toArray, List.set_cons_zero, List.set_cons_succ]
      have hk5 := has_call HKO5.out hb9
      have y0 := has_cell hk5 0 rfl; have y1 := has_cell hk5 1 rfl; have y2 := has_cell hk5 2 rfl; have f0 := has_free hk5 0; have f1 := has_free hk5 1; have f2 := has_free hk5 2
      have hlk := has_lt hk5
      refine wpAnyH_ready (rs := [11]) (by kernel_rfl) (by simp) ?_
      refine AllReadyH.cons rfl (fun K hK => ?_) AllReadyH.nil
      go_simp
      have hz5 := hb9.size
      have hbq : b ≠ w1.heap.size := fun e => by
        rcases HG5.out with h | ⟨gq, cur, e1, _, hh, _⟩
        · have hn := congrArg List.length h; rw [gpV_len] at hn; simp at hn; omega
        · injection e1 with e1; injection e1 with e1 _; subst e1
          have := (e ▸ hh : Has wr w1.heap.size _ _).symm.trans HKO5.out
          injection this with this; injection this with _ this _
          exact absurd this (by decide)
      have hX3 := set3 (u := .int .i64 x.z) (v := .slice A7 x.F.length c7) (x := .slice A8 E.length c8) hk5
      have n1 := has_set hk5 0 (.int .i64 x.z); have n2' := has_set n1 1 (.slice A7 x.F.length c7)
      have or7 := ((hP7.set_other hk5 (by decide) 0 (.int .i64 x.z)).set_other n1 (by decide) 1 (.slice A7 x.F.length c7)).set_other n2' (by decide) 2 (.slice A8 E.length c8)
      have or8 := ((hQ8.set_other hk5 (by decide) 0 (.int .i64 x.z)).set_other n1 (by decide) 1 (.slice A7 x.F.length c7)).set_other n2' (by decide) 2 (.slice A8 E.length c8)
      have orG := (((HG5.out.below hb9).set_other hk5 (by decide) 0 (.int .i64 x.z)).set_other n1 (by decide) 1 (.slice A7 x.F.length c7)).set_other n2' (by decide) 2 (.slice A8 E.length c8)
      have hbF := (((HB5.out.trans (hb9.mono (by omega))).setCell (p := ⟨w1.heap.size, 0, none⟩) (Nat.le_refl _) (.int .i64 x.z)).setCell (p := ⟨w1.heap.size, 1, none⟩) (Nat.le_refl _) (.slice A7 x.F.length c7)).setCell (p := ⟨w1.heap.size, 2, none⟩) (Nat.le_refl _) (.slice A8 E.length c8)
      have FX := Lib.hid hX3; have FP := Lib.hid (or7.more (show w0.heap.size ≤ _ by simp; omega)); have FQ := Lib.hid (or8.more (show w0.heap.size ≤ _ by simp; omega)); have FG := Lib.hid orG; have FB := Lib.hid hbF
      clear hX3 or7 or8 orG hbF n1 n2' hP7 hQ8
      refine hK.out _ _ ⟨(cell_farN hbq _ _ _ _ _ _ _).trans S5.1, (cell_farN hbq _ _ _ _ _ _ _).trans S5.2.1, (cell_farN hbq _ _ _ _ _ _ _).trans S5.2.2⟩ (fun _ => ?_)
      clear hK K y0 y1 y2 f0 f1 f2 hk5
      try simp only [Act.put, List.setIfInBounds_toArray, List.set_cons_zero, List.set_cons_succ]
      refine wpAnyH_done (by kernel_rfl) ?_ _
      go_wp2
      go_roundw
      case rel => exact ⟨k + 1, E, A7, A8, c7, c8, by omega, by go_num, by rw [HSU.out, ← HD.out, HE.out], FX.out, FP.out, FQ.out, FG.out, FB.out⟩
      case measure => simp [intOf]; omega
    · skip
      have hkl : k = G.length := by omega
      have hDc : D = clrO x.z x.F x.L := by rw [HD.out, hkl, List.take_length]; exact HFA.out
      have HDC := Lib.hid hDc; clear hDc hG5
      have kR := has_below K11.out HB5.out (by have := has_lt K11.out; omega)
      have y0 := has_cell kR 0 rfl; have y1 := has_cell kR 1 rfl; have y2 := has_cell kR 2 rfl; have f0 := has_free kR 0; have f1 := has_free kR 1; have f2 := has_free kR 2
      have hlR := has_lt kR
      have X1 := Lib.hid (set3 (u := .int .i64 x.z) (v := .slice A5 x.F.length c5) (x := .slice A6 D.length c6) kR)
      have hbel : Below w.heap.size w wr := C1.out.trans (HB5.out.mono (by omega))
      have FIN := Lib.hid (ans_finr0 (w.heap.size + 1) w0.heap.size hbel (by omega) (by omega) HP5.out HQ5.out (.int .i64 x.z) (.slice A5 x.F.length c5) (.slice A6 D.length c6))
      clear hbel kR
      go_wp2_with fail
      have g0' := has_cell X1.out 0 rfl
      have g1' := has_cell X1.out 1 rfl
      have g2' := has_cell X1.out 2 rfl
      exact bodyPost_ret (v := .agg #[.int .i64 x.z, .slice A5 x.F.length c5, .slice A6 D.length c6]) (by simp [results, Try.results19, go_sem, g0', g1', g2']) rfl ⟨x.z, x.F, D, A5, A6, c5, c6, rfl, ⟨rfl, rfl, HDC.out⟩, lf, by omega, FIN.out⟩
end Go.Proofs.Ythmoonjceokijaa
