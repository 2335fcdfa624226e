/- Chapter 2: PutIn of both sides (gen_gapo.py). -/
import Derived.Test.YthfpjfekemelaaaQ12
import Derived.Test.YthfpjfekemelaaaQ08
namespace Go.Proofs.Ythfpjfekemelaaa
open Go.RowKit
set_option linter.unusedVariables false

theorem leastG_le (size : Int) : ∀ (r : List Gp) (k : Nat) (b : Option (Nat × Int)), (∀ y, b = some y → size ≤ y.2) → ∀ y, leastG size r k b = some y → size ≤ y.2
  | [], k, b, hb, y, hy => hb y hy
  | g :: r, k, b, hb, y, hy => by
    refine leastG_le size r (k + 1) _ ?_ y hy
    intro z hz
    split at hz
    · rename_i h; injection hz with hz; subst hz; exact h.1
    · exact hb z hz
/-- what is known of the gap that a parcel gets -/
theorem fit_facts {G : List Gp} {size : Int} {g : Gp} (h : fitV G size = (g, true)) : 1 ≤ size ∧ size ≤ g.size ∧ g ∈ G := by
  unfold fitV at h
  by_cases hs : 1 ≤ size
  · rw [if_pos hs] at h
    cases e : leastG size G 0 none with
    | none => rw [e] at h; injection h with _ h; cases h
    | some y =>
      rw [e] at h
      obtain ⟨g', hg', hv⟩ := leastG_at size G G 0 none (by simp) (fun y hy => by cases hy) y e
      have hle := leastG_le size G 0 none (fun y hy => by cases hy) y e
      injection h with h _
      rw [hg'] at h
      have h : g' = g := h
      subst h
      exact ⟨hs, by rw [hv]; exact hle, List.mem_of_getElem? hg'⟩
  · rw [if_neg hs] at h; injection h with _ h; cases h
theorem gapsO_mem {z : Int} {F : List Int} {L : List Bx} {g : Gp} (hg : g ∈ gapsO z F L) : ColOk z F L ∧ ∃ (Q : List Bx) (y : Bx) (r : List Bx), L = Q ++ y :: r ∧ opn y = true ∧ g = ⟨0, y.low, y.size + runZ F r⟩ ∧ (∀ b ∈ Q, b.low < y.low) ∧ ∃ a', Con a' (y :: r) := by
  by_cases h : ColOk z F L
  · rw [gapsO_ok h] at hg
    obtain ⟨Q, y, r, e1, e2, e3, e4, e5⟩ := gap_at F 0 L.length L [] 0 (Nat.le_refl _) (con_all h.box) (fun b hb => by cases hb) g hg
    exact ⟨h, Q, y, r, by simpa using e1, e2, e3, e4, e5⟩
  · rw [gapsO_no h] at hg; cases hg
theorem fIdx_P0G {p : Int} (h : 0 < p) (L : List Bx) : fIdx (hasP p) L 0 = fIdx (hasP0 p) L 0 := fIdx_congr _ _ fun y _ => by simp [hasP, hasP0, h]
def PutC (z : Int) (F : List Int) (L : List Bx) (p size : Int) : Prop := (fitV (gapsO z F L) size).2 = true ∧ (1 ≤ p ∧ p ≤ 999) ∧ fIdx (hasP p) L 0 < 0
def putR (z : Int) (F : List Int) (L : List Bx) (p size : Int) (z' : Int) (F' : List Int) (L' : List Bx) (i : Int) (b : Bool) : Prop :=
  z' = z ∧ F' = F ∧ ((PutC z F L p size ∧ L' = fillL (fitV (gapsO z F L) size).1 p size L ∧ i = (fitV (gapsO z F L) size).1.low ∧ b = true) ∨ (¬ PutC z F L p size ∧ L' = L ∧ i = -1 ∧ b = false))
theorem put_det {z : Int} {F : List Int} {L : List Bx} {p size z1 z2 : Int} {F1 F2 : List Int} {L1 L2 : List Bx} {i1 i2 : Int} {b1 b2 : Bool} (h1 : putR z F L p size z1 F1 L1 i1 b1) (h2 : putR z F L p size z2 F2 L2 i2 b2) : z1 = z2 ∧ F1 = F2 ∧ L1 = L2 ∧ i1 = i2 ∧ b1 = b2 := by
  obtain ⟨rfl, rfl, h1⟩ := h1
  obtain ⟨rfl, rfl, h2⟩ := h2
  rcases h1 with ⟨c, rfl, rfl, rfl⟩ | ⟨c, rfl, rfl, rfl⟩
  · rcases h2 with ⟨_, rfl, rfl, rfl⟩ | ⟨c', _⟩
    · exact ⟨rfl, rfl, rfl, rfl, rfl⟩
    · exact absurd c c'
  · rcases h2 with ⟨c', _⟩ | ⟨_, rfl, rfl, rfl⟩
    · exact absurd c' c
    · exact ⟨rfl, rfl, rfl, rfl, rfl⟩
/-- the answer is a column of the call's own, a number and a flag -/
def ColAnsIB (R : Int → List Int → List Bx → Int → Bool → Prop) (w : World) (e : Ending) (w' : World) : Prop :=
  ∃ z' F' L' i b A2 A3 n2 n3, e = .returned (.tuple #[.agg #[.int .i64 z', .slice A2 F'.length n2, .slice A3 L'.length n3], .int .i64 i, .bool b]) ∧ R z' F' L' i b ∧ F'.length ≤ 1048576 ∧ L'.length ≤ 1048576 ∧ OR w' w.heap.size 3 A2 (intV F') ∧ OR w' w.heap.size 65 A3 (boxV L') ∧ Below w.heap.size w w'
theorem parI_any (w : World) (p : Int) : Calls Try.prog 28 #[.int .i64 p] w fun e w' => e = .returned (.bool (decide (1 ≤ p) && decide (p ≤ 999))) ∧ w' = w := by
  by_cases h1 : 1 ≤ p
  · by_cases h2 : p ≤ 999
    · go_enter Try.func28, Try.ntmps28
      go_wp2
      go_ret
      exact ⟨ret_bool (by simp [h1, h2]), rfl⟩
    · go_enter Try.func28, Try.ntmps28
      go_wp2
      go_ret
      exact ⟨ret_bool (by simp [h1, h2]), rfl⟩
  · go_enter Try.func28, Try.ntmps28
    go_wp2
    go_ret
    exact ⟨ret_bool (by rw [decide_eq_false (show ¬ 1 ≤ p by omega)]; rfl), rfl⟩

set_option maxRecDepth 100000 in
set_option maxHeartbeats 4000000 in
theorem putS_any (w : World) (B : Nat) (x : Cl) (p size : Int) (lf : x.F.length ≤ 1048576) (lb : x.L.length ≤ 1048576) (hB : B ≤ w.heap.size) (hV : CV w B x) :
    Calls Try.prog 84 #[.agg #[.int .i64 x.z, .slice x.AF x.F.length x.cF, .slice x.AB x.L.length x.cB], .int .i64 p, .int .i64 size] w (ColAnsIB (putR x.z x.F x.L p size) w) := by
  have HV := Lib.hid hV; clear hV
  have hlbm : x.L.length ≤ maxLen := by unfold maxLen; omega
  obtain ⟨⟨⟨ga, gb, gc⟩, gf⟩, hfit⟩ : ∃ v, fitV (gapsO x.z x.F x.L) size = v := ⟨_, rfl⟩
  have HFIT := Lib.hid hfit; clear hfit
  go_enter Try.func84, Try.ntmps84
  go_wp2_with fail
  generalize hW0 : ((w.alloc (.cells #[.int .i64 x.z, .slice x.AF x.F.length x.cF, .slice x.AB x.L.length x.cB] 57)).alloc (.cells #[.int .i64 0, .slice none 0 0, .slice none 0 0] 57)) = w0
  have b0 : Below w.heap.size w w0 := by rw [← hW0]; exact bthen (balloc _ _) (balloc _ _)
  have hs0 : w.heap.size + 2 ≤ w0.heap.size := by rw [← hW0]; simp
  have k0 : Has w0 w.heap.size 57 #[.int .i64 x.z, .slice x.AF x.F.length x.cF, .slice x.AB x.L.length x.cB] := by rw [← hW0]; exact has_alloc (has_new _ _ _) _
  have k1 : Has w0 (w.heap.size + 1) 57 #[.int .i64 0, .slice none 0 0, .slice none 0 0] := by rw [← hW0]; have := has_new (w.alloc (.cells #[.int .i64 x.z, .slice x.AF x.F.length x.cF, .slice x.AB x.L.length x.cB] 57)) 57 #[.int .i64 0, .slice none 0 0, .slice none 0 0]; simpa using this
  clear hW0
  have K0 := Lib.hid k0; have K1 := Lib.hid k1; clear k0 k1
  refine (fitS_any w0 B x size (by omega) (HV.out.later hB b0)).mono ?_
  rintro e w1 hans
  rw [HFIT.out] at hans
  obtain ⟨rfl, hb1⟩ := hans
  dsimp only
  have hz1 := hb1.size
  have c1 := bthen b0 hb1
  have K01 := Lib.hid (has_call K0.out hb1); have K11 := Lib.hid (has_call K1.out hb1); have C1 := Lib.hid c1; clear b0 hb1 c1
  have hlA := has_lt K01.out
  go_upto_region 2 with (fail)
  generalize hX : w1.alloc (.cells #[.int .i64 ga, .int .i64 gb, .int .i64 gc] 28) = w2
  have b2 : Below w1.heap.size w1 w2 := by rw [← hX]; exact balloc _ _
  have kg : Has w2 w1.heap.size 28 #[.int .i64 ga, .int .i64 gb, .int .i64 gc] := by rw [← hX]; exact has_new _ _ _
  clear hX
  have hz2 := b2.size
  have KG := Lib.hid kg; have C2 := Lib.hid (bthen C1.out b2); have K02 := Lib.hid (has_call K01.out b2); have K12 := Lib.hid (has_call K11.out b2); clear kg b2 K01 K11
  have hlG := has_lt KG.out
  cases gf
  · skip
    have e0 := has_cell K02.out 0 rfl; have e1 := has_cell K02.out 1 rfl; have e2 := has_cell K02.out 2 rfl; have hlA2 := has_lt K02.out
    go_wp2_with fail
    refine (copyS_any w2 B x lf lb (by omega) (HV.out.later hB C2.out)).mono ?_
    rintro e w8 ⟨A2, A3, n2, n3, rfl, hP, hQ, hb8⟩
    have kR := has_call K12.out hb8
    have y0' := has_cell kR 0 rfl; have y1' := has_cell kR 1 rfl; have y2' := has_cell kR 2 rfl; have f0 := has_free kR 0; have f1 := has_free kR 1; have f2 := has_free kR 2
    have hlR := has_lt kR
    have X1 := Lib.hid (set3 (u := .int .i64 x.z) (v := .slice A2 x.F.length n2) (x := .slice A3 x.L.length n3) kR)
    have hbel := bthen C2.out hb8
    have FIN := Lib.hid (ans_finr0 (w.heap.size + 1) (w.heap.size + 2) hbel (by omega) (by omega) (hP.more (by omega)) (hQ.more (by omega)) (.int .i64 x.z) (.slice A2 x.F.length n2) (.slice A3 x.L.length n3))
    clear kR hP hQ hbel e0 e1 e2 hb8
    go_wp2_with fail
    have g0' := has_cell X1.out 0 rfl; have g1' := has_cell X1.out 1 rfl; have g2' := has_cell X1.out 2 rfl
    exact bodyPost_ret (v := .tuple #[.agg #[.int .i64 x.z, .slice A2 x.F.length n2, .slice A3 x.L.length n3], .int .i64 (-1), .bool false]) (by simp [results, Try.results84, go_sem, g0', g1', g2']) rfl ⟨x.z, x.F, x.L, -1, false, A2, A3, n2, n3, rfl, ⟨rfl, rfl, .inr ⟨(fun c => by have := c.1; rw [HFIT.out] at this; cases this), rfl, rfl, rfl⟩⟩, lf, lb, FIN.out⟩
  · skip
    obtain ⟨hs1, hs2, hgm⟩ := fit_facts HFIT.out
    dsimp only at hs2
    obtain ⟨hok, Q, y, r, hL, ho, hge, hQl, a', hcon⟩ := gapsO_mem hgm
    have hgb := gapsO_bd _ hgm
    dsimp only at hgb
    have hfl : fillL ⟨ga, gb, gc⟩ p size x.L = Q ++ newB ⟨ga, gb, gc⟩ p size ++ r.drop (runN x.F r) := by
      rw [hge]; conv => lhs; rw [hL]
      exact fill_gap (c := 0) hQl hcon
    have hcl := (col_sum hok).2.2
    have HOK := Lib.hid hok; have HL := Lib.hid hL; have HO := Lib.hid ho; have HGE := Lib.hid hge; have HQL := Lib.hid hQl; have HFL := Lib.hid hfl; have HCON := Lib.hid hcon
    clear hok hL ho hge hQl hfl hgm hcon
    obtain ⟨hb1', hb2', hb3', hb4'⟩ := hgb
    obtain ⟨pb, hpb⟩ : ∃ pb, inB p 1 999 = pb := ⟨_, rfl⟩
    have HPB := Lib.hid hpb; clear hpb
    cases pb
    · skip
      have e0 := has_cell K02.out 0 rfl; have e1 := has_cell K02.out 1 rfl; have e2 := has_cell K02.out 2 rfl; have hlA2 := has_lt K02.out
      go_upto_region 3 with (go_at_call 34; refine (in_any _ p 1 999).mono ?_; rintro e w' ⟨rfl, hw⟩; rw [hw, HPB.out]; clear hw)
      clear e0 e1 e2 hlA2
      have e0 := has_cell K02.out 0 rfl; have e1 := has_cell K02.out 1 rfl; have e2 := has_cell K02.out 2 rfl; have hlA2 := has_lt K02.out
      go_wp2_with fail
      refine (copyS_any w2 B x lf lb (by omega) (HV.out.later hB C2.out)).mono ?_
      rintro e w8 ⟨A2, A3, n2, n3, rfl, hP, hQ, hb8⟩
      have kR := has_call K12.out hb8
      have y0' := has_cell kR 0 rfl; have y1' := has_cell kR 1 rfl; have y2' := has_cell kR 2 rfl; have f0 := has_free kR 0; have f1 := has_free kR 1; have f2 := has_free kR 2
      have hlR := has_lt kR
      have X1 := Lib.hid (set3 (u := .int .i64 x.z) (v := .slice A2 x.F.length n2) (x := .slice A3 x.L.length n3) kR)
      have hbel := bthen C2.out hb8
      have FIN := Lib.hid (ans_finr0 (w.heap.size + 1) (w.heap.size + 2) hbel (by omega) (by omega) (hP.more (by omega)) (hQ.more (by omega)) (.int .i64 x.z) (.slice A2 x.F.length n2) (.slice A3 x.L.length n3))
      clear kR hP hQ hbel e0 e1 e2 hb8
      go_wp2_with fail
      have g0' := has_cell X1.out 0 rfl; have g1' := has_cell X1.out 1 rfl; have g2' := has_cell X1.out 2 rfl
      exact bodyPost_ret (v := .tuple #[.agg #[.int .i64 x.z, .slice A2 x.F.length n2, .slice A3 x.L.length n3], .int .i64 (-1), .bool false]) (by simp [results, Try.results84, go_sem, g0', g1', g2']) rfl ⟨x.z, x.F, x.L, -1, false, A2, A3, n2, n3, rfl, ⟨rfl, rfl, .inr ⟨(fun c => by have h1 := c.2.1; have h2 := HPB.out; simp [inB] at h2; omega), rfl, rfl, rfl⟩⟩, lf, lb, FIN.out⟩
    · skip
      have hp1 : 1 ≤ p ∧ p ≤ 999 := by have h2 := HPB.out; simp [inB] at h2; exact h2
      obtain ⟨hp1, hp2⟩ := hp1
      have e0 := has_cell K02.out 0 rfl; have e1 := has_cell K02.out 1 rfl; have e2 := has_cell K02.out 2 rfl; have hlA2 := has_lt K02.out
      go_wp2_with (go_at_call 34; refine (in_any _ p 1 999).mono ?_; rintro e w' ⟨rfl, hw⟩; rw [hw, HPB.out]; clear hw)
      refine (boxS_any w2 B x.AF x.AB x.cF x.cB x.z p x.F.length x.L hlbm (by omega) (HV.out.later hB C2.out).b).mono ?_
      rintro e w3 ⟨rfl, hb3⟩
      rw [← fIdx_P0G (p := p) (by omega)]
      obtain ⟨fi, hfi⟩ : ∃ fi, fIdx (hasP p) x.L 0 = fi := ⟨_, rfl⟩
      rw [hfi]
      have HFI := Lib.hid hfi; clear hfi e0 e1 e2 hlA2
      have hz3 := hb3.size
      have KG3 := Lib.hid (has_call KG.out hb3); have C3 := Lib.hid (bthen C2.out hb3); have K03 := Lib.hid (has_call K02.out hb3); have K13 := Lib.hid (has_call K12.out hb3); clear hb3
      by_cases hfi0 : 0 ≤ fi
      · skip
        have t1 : decide (0 ≤ fi) = true := by simpa using hfi0
        have e0 := has_cell K03.out 0 rfl; have e1 := has_cell K03.out 1 rfl; have e2 := has_cell K03.out 2 rfl; have hlA2 := has_lt K03.out
        go_wp2_with fail
        refine (copyS_any w3 B x lf lb (by omega) (HV.out.later hB C3.out)).mono ?_
        rintro e w8 ⟨A2, A3, n2, n3, rfl, hP, hQ, hb8⟩
        have kR := has_call K13.out hb8
        have y0' := has_cell kR 0 rfl; have y1' := has_cell kR 1 rfl; have y2' := has_cell kR 2 rfl; have f0 := has_free kR 0; have f1 := has_free kR 1; have f2 := has_free kR 2
        have hlR := has_lt kR
        have X1 := Lib.hid (set3 (u := .int .i64 x.z) (v := .slice A2 x.F.length n2) (x := .slice A3 x.L.length n3) kR)
        have hbel := bthen C3.out hb8
        have FIN := Lib.hid (ans_finr0 (w.heap.size + 1) (w.heap.size + 2) hbel (by omega) (by omega) (hP.more (by omega)) (hQ.more (by omega)) (.int .i64 x.z) (.slice A2 x.F.length n2) (.slice A3 x.L.length n3))
        clear kR hP hQ hbel e0 e1 e2 hb8
        go_wp2_with fail
        have g0' := has_cell X1.out 0 rfl; have g1' := has_cell X1.out 1 rfl; have g2' := has_cell X1.out 2 rfl
        exact bodyPost_ret (v := .tuple #[.agg #[.int .i64 x.z, .slice A2 x.F.length n2, .slice A3 x.L.length n3], .int .i64 (-1), .bool false]) (by simp [results, Try.results84, go_sem, g0', g1', g2']) rfl ⟨x.z, x.F, x.L, -1, false, A2, A3, n2, n3, rfl, ⟨rfl, rfl, .inr ⟨(fun c => by have := c.2.2; rw [HFI.out] at this; omega), rfl, rfl, rfl⟩⟩, lf, lb, FIN.out⟩
      · skip
        have t1 : decide (0 ≤ fi) = false := by simpa using hfi0
        go_upto_region 4 with (fail)
        have S0 : (fun W : World => (W.cell? ⟨w.heap.size, 0, none⟩ = some (.int .i64 x.z) ∧ W.cell? ⟨w.heap.size, 1, none⟩ = some (.slice x.AF x.F.length x.cF) ∧ W.cell? ⟨w.heap.size, 2, none⟩ = some (.slice x.AB x.L.length x.cB) ∧ W.cell? ⟨w1.heap.size, 0, none⟩ = some (.int .i64 ga) ∧ W.cell? ⟨w1.heap.size, 1, none⟩ = some (.int .i64 gb) ∧ W.cell? ⟨w1.heap.size, 2, none⟩ = some (.int .i64 gc))) w3.drew := ⟨has_cell K03.out 0 rfl, has_cell K03.out 1 rfl, has_cell K03.out 2 rfl, has_cell KG3.out 0 rfl, has_cell KG3.out 1 rfl, has_cell KG3.out 2 rfl⟩
        refine wp_region_held_drew (S := (fun W : World => (W.cell? ⟨w.heap.size, 0, none⟩ = some (.int .i64 x.z) ∧ W.cell? ⟨w.heap.size, 1, none⟩ = some (.slice x.AF x.F.length x.cF) ∧ W.cell? ⟨w.heap.size, 2, none⟩ = some (.slice x.AB x.L.length x.cB) ∧ W.cell? ⟨w1.heap.size, 0, none⟩ = some (.int .i64 ga) ∧ W.cell? ⟨w1.heap.size, 1, none⟩ = some (.int .i64 gb) ∧ W.cell? ⟨w1.heap.size, 2, none⟩ = some (.int .i64 gc)))) (by kernel_rfl) S0 (fun _ => ?_)
        refine any_take (i := 0) (some 32) (.agg #[.int .i64 x.z, .slice x.AF x.F.length x.cF, .slice x.AB x.L.length x.cB]) rfl rfl (by kernel_rfl) (by kernel_rfl) (by kernel_rfl) (fun _ _ _ h => h) rfl (fun W hSw => ?_) (S0) ?_
        · (try dsimp only at hSw); go_simp <;> with_reducible rfl
        try simp only [Act.put, List.setIfInBounds_toArray, List.set_cons_zero, List.set_cons_succ]
        refine any_take (i := 1) (some 33) (.agg #[.int .i64 ga, .int .i64 gb, .int .i64 gc]) rfl rfl (by kernel_rfl) (by kernel_rfl) (by kernel_rfl) (fun _ _ _ h => h) rfl (fun W hSw => ?_) (S0) ?_
        · (try dsimp only at hSw); go_simp <;> with_reducible rfl
        try simp only [Act.put, List.setIfInBounds_toArray, List.set_cons_zero, List.set_cons_succ]
        refine any_take (i := 2) (some 34) (.int .i64 p) rfl rfl (by kernel_rfl) (by kernel_rfl) (by kernel_rfl) (fun _ _ _ h => h) rfl (fun W hSw => ?_) (S0) ?_
        · (try dsimp only at hSw); go_simp <;> with_reducible rfl
        try simp only [Act.put, List.setIfInBounds_toArray, List.set_cons_zero, List.set_cons_succ]
        refine any_take (i := 3) (some 35) (.int .i64 size) rfl rfl (by kernel_rfl) (by kernel_rfl) (by kernel_rfl) (fun _ _ _ h => h) rfl (fun W hSw => ?_) (S0) ?_
        · (try dsimp only at hSw); go_simp <;> with_reducible rfl
        try simp only [Act.put, List.setIfInBounds_toArray, List.set_cons_zero, List.set_cons_succ]
        refine any_take (i := 5) (some 37) (.pointer (some ⟨w1.heap.size, 1, none⟩)) rfl rfl (by kernel_rfl) (by kernel_rfl) (by kernel_rfl) (fun _ _ _ h => h) rfl (fun W hSw => ?_) (S0) ?_
        · (try dsimp only at hSw); go_simp <;> with_reducible rfl
        try simp only [Act.put, List.setIfInBounds_toArray, List.set_cons_zero, List.set_cons_succ]
        refine any_take (i := 6) (some 38) (.int .i64 gb) rfl rfl (by kernel_rfl) (by kernel_rfl) (by kernel_rfl) (fun _ _ _ h => h) rfl (fun W hSw => ?_) (S0) ?_
        · (try dsimp only at hSw); go_simp <;> with_reducible rfl
        try simp only [Act.put, List.setIfInBounds_toArray, List.set_cons_zero, List.set_cons_succ]
        refine wpAnyH_ready (rs := [4]) (by kernel_rfl) (by simp) ?_
        refine AllReadyH.cons rfl (fun K hK => ?_) AllReadyH.nil
        go_simp
        go_at_call 35
        refine (fillS_any w3.drew B x ga gb gc p size lf lb (show B ≤ w3.drew.heap.size by simp; omega) (show CV w3.drew B x from ⟨(HV.out.later hB C3.out).f.below (Below.refl _ _).drew, (HV.out.later hB C3.out).b.below (Below.refl _ _).drew, HV.out.lf, HV.out.lb⟩) hb1' (by omega) hb3' (by omega) (by omega) (by omega)).mono ?_
        rintro e w5 ⟨A7, A8, c7, c8, rfl, hP7, hQ8, hb8⟩
        have hfll := fillL_len ⟨ga, gb, gc⟩ p size x.L
        obtain ⟨E, hE⟩ : ∃ E, fillL ⟨ga, gb, gc⟩ p size x.L = E := ⟨_, rfl⟩
        rw [hE] at hQ8 hfll ⊢
        have HE := Lib.hid hE; clear hE
        have hb9 : Below w3.heap.size w3 w5 := ((Below.refl w3.heap.size w3).drew).trans hb8
        have hlA3 := has_lt K03.out; have hlG3 := has_lt KG3.out
        have S5 : (fun W : World => (W.cell? ⟨w.heap.size, 0, none⟩ = some (.int .i64 x.z) ∧ W.cell? ⟨w.heap.size, 1, none⟩ = some (.slice x.AF x.F.length x.cF) ∧ W.cell? ⟨w.heap.size, 2, none⟩ = some (.slice x.AB x.L.length x.cB) ∧ W.cell? ⟨w1.heap.size, 0, none⟩ = some (.int .i64 ga) ∧ W.cell? ⟨w1.heap.size, 1, none⟩ = some (.int .i64 gb) ∧ W.cell? ⟨w1.heap.size, 2, none⟩ = some (.int .i64 gc))) w5 := ⟨(bold hb9 _ _ hlA3).trans S0.1, (bold hb9 _ _ hlA3).trans S0.2.1, (bold hb9 _ _ hlA3).trans S0.2.2.1, (bold hb9 _ _ hlG3).trans S0.2.2.2.1, (bold hb9 _ _ hlG3).trans S0.2.2.2.2.1, (bold hb9 _ _ hlG3).trans S0.2.2.2.2.2⟩
        go_wp2_with fail
        refine hK.out _ _ S5 (fun _ => ?_)
        clear hK K
        try simp only [Act.put, List.setIfInBounds_toArray, List.set_cons_zero, List.set_cons_succ]
        have kR := has_call K13.out hb9
        have y0' := has_cell kR 0 rfl; have y1' := has_cell kR 1 rfl; have y2' := has_cell kR 2 rfl; have f0 := has_free kR 0; have f1 := has_free kR 1; have f2 := has_free kR 2
        have hlR := has_lt kR
        have hz5 := hb9.size
        have X1 := Lib.hid (set3 (u := .int .i64 x.z) (v := .slice A7 x.F.length c7) (x := .slice A8 E.length c8) kR)
        have hbel := bthen C3.out hb9
        have FIN := Lib.hid (ans_finr0 (w.heap.size + 1) (w.heap.size + 2) hbel (by omega) (by omega) (hP7.more (show w.heap.size + 2 ≤ _ by simp; omega)) (hQ8.more (show w.heap.size + 2 ≤ _ by simp; omega)) (.int .i64 x.z) (.slice A7 x.F.length c7) (.slice A8 E.length c8))
        refine wpAnyH_ready (rs := [7]) (by kernel_rfl) (by simp) ?_
        refine AllReadyH.cons rfl (fun K hK => ?_) AllReadyH.nil
        go_simp
        have hn1 : w.heap.size ≠ w.heap.size + 1 := by omega
        have hn2 : w1.heap.size ≠ w.heap.size + 1 := by omega
        have S6 : (fun W : World => (W.cell? ⟨w.heap.size, 0, none⟩ = some (.int .i64 x.z) ∧ W.cell? ⟨w.heap.size, 1, none⟩ = some (.slice x.AF x.F.length x.cF) ∧ W.cell? ⟨w.heap.size, 2, none⟩ = some (.slice x.AB x.L.length x.cB) ∧ W.cell? ⟨w1.heap.size, 0, none⟩ = some (.int .i64 ga) ∧ W.cell? ⟨w1.heap.size, 1, none⟩ = some (.int .i64 gb) ∧ W.cell? ⟨w1.heap.size, 2, none⟩ = some (.int .i64 gc))) (((w5.setCell ⟨w.heap.size + 1, 0, none⟩ (.int .i64 x.z)).setCell ⟨w.heap.size + 1, 1, none⟩ (.slice A7 x.F.length c7)).setCell ⟨w.heap.size + 1, 2, none⟩ (.slice A8 E.length c8)) := ⟨(cell_farN hn1 _ _ _ _ _ _ _).trans S5.1, (cell_farN hn1 _ _ _ _ _ _ _).trans S5.2.1, (cell_farN hn1 _ _ _ _ _ _ _).trans S5.2.2.1, (cell_farN hn2 _ _ _ _ _ _ _).trans S5.2.2.2.1, (cell_farN hn2 _ _ _ _ _ _ _).trans S5.2.2.2.2.1, (cell_farN hn2 _ _ _ _ _ _ _).trans S5.2.2.2.2.2⟩
        refine hK.out _ _ S6 (fun _ => ?_)
        clear hK K y0' y1' y2' f0 f1 f2 kR
        try simp only [Act.put, List.setIfInBounds_toArray, List.set_cons_zero, List.set_cons_succ]
        refine any_take (i := 8) (some 7) (.int .i64 gb) rfl rfl (by kernel_rfl) (by kernel_rfl) (by kernel_rfl) (fun _ _ _ h => h) rfl (fun W hSw => ?_) (S6) ?_
        · (try dsimp only at hSw); go_simp <;> with_reducible rfl
        try simp only [Act.put, List.setIfInBounds_toArray, List.set_cons_zero, List.set_cons_succ]
        refine any_take (i := 9) (some 8) (.bool true) rfl rfl (by kernel_rfl) (by kernel_rfl) (by kernel_rfl) (fun _ _ _ h => h) rfl (fun W hSw => ?_) (S6) ?_
        · (try dsimp only at hSw); go_simp <;> with_reducible rfl
        try simp only [Act.put, List.setIfInBounds_toArray, List.set_cons_zero, List.set_cons_succ]
        refine wpAnyH_done (by kernel_rfl) ?_ _
        go_wp2
        have g0' := has_cell X1.out 0 rfl; have g1' := has_cell X1.out 1 rfl; have g2' := has_cell X1.out 2 rfl
        exact bodyPost_ret (v := .tuple #[.agg #[.int .i64 x.z, .slice A7 x.F.length c7, .slice A8 E.length c8], .int .i64 gb, .bool true]) (by simp [results, Try.results84, go_sem, g0', g1', g2']) rfl ⟨x.z, x.F, E, gb, true, A7, A8, c7, c8, rfl, ⟨rfl, rfl, .inl ⟨⟨by rw [HFIT.out], ⟨hp1, hp2⟩, by rw [HFI.out]; omega⟩, by rw [HFIT.out, HE.out], by rw [HFIT.out], rfl⟩⟩, lf, by omega, FIN.out⟩
end Go.Proofs.Ythfpjfekemelaaa
namespace Go.Proofs.Ythfpjfekemelaaa
open Go.RowKit
set_option linter.unusedVariables false

def cov (u : Int) (x : Bx) : Bool := inB u x.low (x.low + x.size - 1)
def blw (u : Int) (x : Bx) : Bool := decide (u < x.low + x.size)
theorem cov_eq {L : List Bx} (hb : BoxesTo L L.length) (u : Int) : ∀ (d k : Nat), k + d = L.length → lowAt L k ≤ u → fIdx (blw u) (L.drop k) k = fIdx (cov u) (L.drop k) k
  | 0, k, hk, _ => by rw [List.drop_of_length_le (by omega)]; rfl
  | d + 1, k, hk, hu => by
    have hx : L[k]? = some L[k] := List.getElem?_eq_getElem (by omega)
    have hbk := hb k _ (by omega) hx
    have hs := lowAt_succ hx
    rw [fIdx_drop _ _ _ _ hx, fIdx_drop _ _ _ _ hx]
    unfold BoxAt at hbk
    by_cases h : u < L[k].low + L[k].size
    · have h1 : blw u L[k] = true := by simp [blw, h]
      have h2 : cov u L[k] = true := by simp [cov, inB]; omega
      rw [if_pos h1, if_pos h2]
    · have h1 : ¬ blw u L[k] = true := by simp [blw]; omega
      have h2 : ¬ cov u L[k] = true := by simp [cov, inB]; omega
      rw [if_neg h1, if_neg h2]
      exact cov_eq hb u d (k + 1) (by omega) (by omega)
theorem cov_some {L : List Bx} (hb : BoxesTo L L.length) (u : Int) (hu : u < lowAt L L.length) : ∀ (d k : Nat), k + d = L.length → lowAt L k ≤ u → 0 ≤ fIdx (cov u) (L.drop k) k
  | 0, k, hk, h => by have : k = L.length := by omega
                      subst this; omega
  | d + 1, k, hk, h => by
    have hx : L[k]? = some L[k] := List.getElem?_eq_getElem (by omega)
    have hbk := hb k _ (by omega) hx
    have hs := lowAt_succ hx
    rw [fIdx_drop _ _ _ _ hx]
    unfold BoxAt at hbk
    by_cases h' : u < L[k].low + L[k].size
    · rw [if_pos (by simp [cov, inB]; omega)]; omega
    · rw [if_neg (by simp [cov, inB]; omega)]
      exact cov_some hb u hu d (k + 1) (by omega) (by omega)
theorem cov_none {L : List Bx} (hb : BoxesTo L L.length) (u : Int) (hu : u < 0 ∨ lowAt L L.length ≤ u) : fIdx (cov u) L 0 = -1 := by
  rcases fIdx_cases (cov u) L 0 with ⟨h, _⟩ | ⟨j, x, _, hx, hc⟩
  · exact h
  · have hl : j < L.length := (List.getElem?_eq_some_iff.1 hx).1
    have hbj := hb j x hl hx
    have hsz := size_le hb rfl hx
    have hs := lowAt_succ hx
    unfold BoxAt at hbj
    simp [cov, inB] at hc
    omega
def jamR (z : Int) (F : List Int) (L : List Bx) (u : Int) (q : Bool) (z' : Int) (F' : List Int) (L' : List Bx) (b : Bool) : Prop :=
  z' = z ∧ F' = F ∧ ((∃ (j : Nat) (x : Bx), (ColOk z F L ∧ fIdx (cov u) L 0 = (j : Int) ∧ L[j]? = some x) ∧ b = true ∧ L' = L.set j ⟨x.low, x.size, x.par, q⟩) ∨
    ((∀ (j : Nat) (x : Bx), ¬ (ColOk z F L ∧ fIdx (cov u) L 0 = (j : Int) ∧ L[j]? = some x)) ∧ b = false ∧ L' = L))
theorem jam_det {z : Int} {F : List Int} {L : List Bx} {u : Int} {q : Bool} {z1 z2 : Int} {F1 F2 : List Int} {L1 L2 : List Bx} {b1 b2 : Bool} (h1 : jamR z F L u q z1 F1 L1 b1) (h2 : jamR z F L u q z2 F2 L2 b2) : z1 = z2 ∧ F1 = F2 ∧ L1 = L2 ∧ b1 = b2 := by
  obtain ⟨rfl, rfl, h1⟩ := h1
  obtain ⟨rfl, rfl, h2⟩ := h2
  rcases h1 with ⟨j, x, hx, rfl, rfl⟩ | ⟨hn, rfl, rfl⟩
  · rcases h2 with ⟨j', x', hx', rfl, rfl⟩ | ⟨hn', rfl, rfl⟩
    · have : j = j' := by have := hx.2.1.symm.trans hx'.2.1; omega
      subst this
      have : x = x' := by have := hx.2.2.symm.trans hx'.2.2; injection this
      subst this
      exact ⟨rfl, rfl, rfl, rfl⟩
    · exact absurd hx (hn' j x)
  · rcases h2 with ⟨j', x', hx', rfl, rfl⟩ | ⟨hn', rfl, rfl⟩
    · exact absurd hx' (hn j' x')
    · exact ⟨rfl, rfl, rfl, rfl⟩
theorem jam_no {z : Int} {F : List Int} {L : List Bx} {u : Int} {q : Bool} (h : ∀ (j : Nat) (x : Bx), ¬ (ColOk z F L ∧ fIdx (cov u) L 0 = (j : Int) ∧ L[j]? = some x)) : jamR z F L u q z F L false := ⟨rfl, rfl, .inr ⟨h, rfl, rfl⟩⟩
theorem jam_yes {z : Int} {F : List Int} {L : List Bx} {u : Int} {q : Bool} {j : Nat} {x : Bx} (h0 : ColOk z F L) (h1 : fIdx (cov u) L 0 = (j : Int)) (h2 : L[j]? = some x) : jamR z F L u q z F (L.set j ⟨x.low, x.size, x.par, q⟩) true := ⟨rfl, rfl, .inl ⟨j, x, ⟨h0, h1, h2⟩, rfl, rfl⟩⟩

theorem box_bd {z : Int} {F : List Int} {L : List Bx} (h : ColOk z F L) : ∀ x ∈ L, 0 ≤ x.low ∧ x.low ≤ 24 ∧ 1 ≤ x.size ∧ x.size ≤ 24 := fun x hx => by
  obtain ⟨j, hj⟩ := List.getElem?_of_mem hx
  have hl : j < L.length := (List.getElem?_eq_some_iff.1 hj).1
  have h1 := h.box j x hl hj
  have h2 := size_le h.box h.top hj
  have h3 := h.fix.hi
  have h4 := lowAt_succ hj
  unfold BoxAt at h1
  omega
end Go.Proofs.Ythfpjfekemelaaa
