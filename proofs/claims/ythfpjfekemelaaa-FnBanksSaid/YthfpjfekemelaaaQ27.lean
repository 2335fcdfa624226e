/- Chapter 2: BankPut of both sides (gen_bkput.py). -/
import Derived.Test.YthfpjfekemelaaaQ24
import Derived.Test.YthfpjfekemelaaaQ26
import Derived.Test.YthfpjfekemelaaaQ13
namespace Go.Proofs.Ythfpjfekemelaaa
open Go.RowKit
set_option linter.unusedVariables false

theorem bgL_mem : ∀ (l : List Cl) (i : Int) (g : Gp), g ∈ bgL l i → ∃ (k : Nat) (x : Cl), l[k]? = some x ∧ g ∈ gapsL x.F (i + k) x.L
  | [], _, _, hg => by simp [bgL] at hg
  | x :: r, i, g, hg => by
    simp only [bgL, List.mem_append] at hg
    rcases hg with hg | hg
    · exact ⟨0, x, rfl, by simpa using hg⟩
    · obtain ⟨k, y, h1, h2⟩ := bgL_mem r (i + 1) g hg
      exact ⟨k + 1, y, by simpa using h1, by rw [show i + ((k + 1 : Nat) : Int) = i + 1 + k by push_cast; omega]; exact h2⟩
theorem bgO_mem {l : List Cl} {g : Gp} (hg : g ∈ bgO l) : BankP l ∧ ∃ (k : Nat) (x : Cl) (Q : List Bx) (y : Bx) (r : List Bx), l[k]? = some x ∧ ColOk x.z x.F x.L ∧ x.L = Q ++ y :: r ∧ opn y = true ∧ g = ⟨(k : Int), y.low, y.size + runZ x.F r⟩ ∧ (∀ b ∈ Q, b.low < y.low) ∧ ∃ a', Con a' (y :: r) := by
  by_cases h : BankP l
  · rw [bgO_ok h] at hg
    obtain ⟨k, x, hx, hg⟩ := bgL_mem l 0 g hg
    rw [Int.zero_add] at hg
    have hok := h.2.1 x (List.mem_of_getElem? hx)
    obtain ⟨Q, y, r, e1, e2, e3, e4, e5⟩ := gap_at x.F k x.L.length x.L [] 0 (Nat.le_refl _) (con_all hok.box) (fun b hb => by cases hb) g hg
    exact ⟨h, k, x, Q, y, r, hx, hok, by simpa using e1, e2, e3, e4, e5⟩
  · rw [bgO_no h] at hg; cases hg
def PutB (l : List Cl) (p size : Int) : Prop := (fitV (bgO l) size).2 = true ∧ (1 ≤ p ∧ p ≤ 999) ∧ gIdx (hasC p) l 0 < 0
def bkPt (l : List Cl) (p size : Int) (C : List Cont) (g : Gp) (b : Bool) : Prop :=
  (PutB l p size ∧ (∃ (k : Nat) (x : Cl), l[k]? = some x ∧ (fitV (bgO l) size).1.col = (k : Int) ∧ C = (l.map cont).set k (x.z, x.F, fillL (fitV (bgO l) size).1 p size x.L)) ∧ g = ⟨(fitV (bgO l) size).1.col, (fitV (bgO l) size).1.low, size⟩ ∧ b = true) ∨
  (¬ PutB l p size ∧ C = l.map cont ∧ g = ⟨0, 0, 0⟩ ∧ b = false)
theorem bkPt_det {l : List Cl} {p size : Int} {C C' : List Cont} {g g' : Gp} {b b' : Bool} (h : bkPt l p size C g b) (h' : bkPt l p size C' g' b') : C = C' ∧ g = g' ∧ b = b' := by
  rcases h with ⟨c, ⟨k, x, hx, hk, rfl⟩, rfl, rfl⟩ | ⟨c, rfl, rfl, rfl⟩
  · rcases h' with ⟨_, ⟨k', x', hx', hk', rfl⟩, rfl, rfl⟩ | ⟨c', _⟩
    · have hkk : k = k' := by omega
      subst hkk
      rw [hx] at hx'; injection hx' with hx'; subst hx'
      exact ⟨rfl, rfl, rfl⟩
    · exact absurd c c'
  · rcases h' with ⟨c', _⟩ | ⟨_, rfl, rfl, rfl⟩
    · exact absurd c' c
    · exact ⟨rfl, rfl, rfl⟩
theorem gIdxC_cont (p : Int) : ∀ (l l' : List Cl) (k : Nat), l'.map cont = l.map cont → gIdx (hasC p) l' k = gIdx (hasC p) l k
  | [], l', k, h => by have : l' = [] := by simpa using h
                       subst this; rfl
  | x :: r, [], k, h => by simp at h
  | x :: r, x' :: r', k, h => by
    simp only [List.map_cons, List.cons.injEq] at h
    obtain ⟨h1, h2⟩ := h
    unfold cont at h1
    injection h1 with h1 h3; injection h3 with h3 h4
    have e : hasC p x' = hasC p x := by unfold hasC; rw [h4]
    unfold gIdx
    rw [e, gIdxC_cont p r r' (k + 1) h2]
theorem bkPt_cont {l l' : List Cl} {p size : Int} {C : List Cont} {g : Gp} {b : Bool} (h : l'.map cont = l.map cont) (hb : bkPt l' p size C g b) : bkPt l p size C g b := by
  unfold bkPt PutB at hb ⊢
  rw [bgO_cont h, gIdxC_cont p l l' 0 h] at hb
  rcases hb with ⟨c, ⟨k, x, hx, hk, rfl⟩, h2⟩ | ⟨c, rfl, h2⟩
  · left
    have hkk := congrArg (fun y => y[k]?) h
    simp only [List.getElem?_map, hx, Option.map_some] at hkk
    cases hx' : l[k]? with
    | none => rw [hx'] at hkk; simp at hkk
    | some y =>
      rw [hx'] at hkk
      simp only [Option.map_some, Option.some.injEq] at hkk
      unfold cont at hkk
      injection hkk with e1 hkk; injection hkk with e2 e3
      exact ⟨c, ⟨k, y, hx', hk, by rw [h, e1, e2, e3]⟩, h2⟩
  · exact .inr ⟨c, h, h2⟩
/-- the answer is a bank of the call's own, a gap and a flag -/
def BankAnsG (R : List Cont → Gp → Bool → Prop) (w : World) (e : Ending) (w' : World) : Prop := ∃ A' c' l' g b, e = .returned (.tuple #[.slice A' l'.length c', .agg #[.int .i64 g.col, .int .i64 g.low, .int .i64 g.size], .bool b]) ∧ R (l'.map cont) g b ∧ SmallK l' ∧ BankAt w' w.heap.size w'.heap.size A' l' ∧ Below w.heap.size w w'
theorem bank_store3 {w : World} {lo hi g : Nat} {A : Option Addr} {l : List Cl} {cur : Array Value} {t : TypeId} (h : BankAt w lo hi A l) (hh : Has w g t cur) (h1 : 57 ≠ t) (h2 : 3 ≠ t) (h3 : 65 ≠ t) (u v x : Value) : BankAt (((w.setCell ⟨g, 0, none⟩ u).setCell ⟨g, 1, none⟩ v).setCell ⟨g, 2, none⟩ x) lo hi A l := by
  obtain ⟨ho, f, hf⟩ := h
  have n0 := has_set hh 0 u; have n1 := has_set n0 1 v
  exact ⟨((ho.set_other hh h1 0 u).set_other n0 h1 1 v).set_other n1 h1 2 x, f, ((hf.other hh h2 h3 0 u).other n0 h2 h3 1 v).other n1 h2 h3 2 x⟩

set_option maxRecDepth 100000 in
set_option maxHeartbeats 4000000 in
theorem bptI_any (w : World) (B : Nat) (A : Option Addr) (n c : Nat) (p size : Int) (l : List Cl) (hn : n = l.length) (hl : l.length ≤ 1048576) (hsm : SmallK l) (hB : B ≤ w.heap.size) (hS : KL w B A l) (hV : ∀ x ∈ l, CV w B x) :
    Calls Try.prog 7 #[.slice A n c, .int .i64 p, .int .i64 size] w (BankAnsG (bkPt l p size) w) := by
  subst hn
  have hlm : l.length ≤ maxLen := by unfold maxLen; omega
  have HS := Lib.hid hS; have HV := Lib.hid hV; have HSM := Lib.hid hsm; clear hS hV hsm
  obtain ⟨⟨⟨ga, gb, gc⟩, gf⟩, hfit⟩ : ∃ v, fitV (bgO l) size = v := ⟨_, rfl⟩
  have HFIT := Lib.hid hfit; clear hfit
  go_enter Try.func7, Try.ntmps7
  go_wp2_with fail
  generalize hW0 : w.alloc (.cells #[.int .i64 0, .int .i64 0, .int .i64 0] 28) = w0
  have b0 : Below w.heap.size w w0 := by rw [← hW0]; exact balloc _ _
  have k0 : Has w0 w.heap.size 28 #[.int .i64 0, .int .i64 0, .int .i64 0] := by rw [← hW0]; exact has_new _ _ _
  clear hW0
  have K0 := Lib.hid k0; clear k0
  have hz0 := b0.size
  have hlr0 := has_lt K0.out
  refine (cpyI_any w0 B A l.length c l rfl hl HSM.out (by omega) (HS.out.later hB b0) (fun x hx => (HV.out x hx).later hB b0)).mono ?_
  rintro e w1 ⟨A1, c1, l1, rfl, hct1, hba1, hb1⟩
  have hz1 := hb1.size
  have hsm1 := small_cont hct1 HSM.out
  have hl1 : l1.length ≤ l.length ∧ l.length ≤ l1.length := by have := len_cont hct1; omega
  obtain ⟨hl1a, hl1b⟩ := hl1
  have C1 := Lib.hid (bthen b0 hb1); have K1 := Lib.hid (has_call K0.out hb1); have HCT1 := Lib.hid hct1; have HBA1 := Lib.hid hba1; have HSM1 := Lib.hid hsm1; clear hct1 hba1 hsm1 hb1 b0
  go_wp2_with fail
  refine (bfitI_any w1 B A l.length c size l rfl hlm (by omega) (HS.out.later hB C1.out) (fun x hx => (HV.out x hx).later hB C1.out)).mono ?_
  rintro e w2 hans
  rw [HFIT.out] at hans
  obtain ⟨rfl, hb2⟩ := hans
  dsimp only
  have hz2 := hb2.size
  have C2 := Lib.hid (bthen C1.out hb2); have K2 := Lib.hid (has_call K1.out hb2); have HBA2 := Lib.hid (HBA1.out.call hb2); clear hb2
  go_upto_region 3 with (fail)
  generalize hX : w2.alloc (.cells #[.int .i64 ga, .int .i64 gb, .int .i64 gc] 28) = w3
  have b3 : Below w2.heap.size w2 w3 := by rw [← hX]; exact balloc _ _
  have kg : Has w3 w2.heap.size 28 #[.int .i64 ga, .int .i64 gb, .int .i64 gc] := by rw [← hX]; exact has_new _ _ _
  clear hX
  have hz3 := b3.size
  have KG := Lib.hid kg; have C3 := Lib.hid (bthen C2.out b3); have K3 := Lib.hid (has_call K2.out b3); have HBA3 := Lib.hid (HBA2.out.call b3); clear kg b3
  have hlG := has_lt KG.out; have hlR := has_lt K3.out
  cases gf
  · skip
    have y0 := has_cell K3.out 0 rfl; have y1 := has_cell K3.out 1 rfl; have y2 := has_cell K3.out 2 rfl; have f0 := has_free K3.out 0; have f1 := has_free K3.out 1; have f2 := has_free K3.out 2
    have X1 := Lib.hid (set3 (u := .int .i64 0) (v := .int .i64 0) (x := .int .i64 0) K3.out)
    have X2 := Lib.hid (bank_store3 HBA3.out K3.out (by decide) (by decide) (by decide) (.int .i64 0) (.int .i64 0) (.int .i64 0))
    have hbel : Below w.heap.size w (((w3.setCell ⟨w.heap.size, 0, none⟩ (.int .i64 0)).setCell ⟨w.heap.size, 1, none⟩ (.int .i64 0)).setCell ⟨w.heap.size, 2, none⟩ (.int .i64 0)) := ((C3.out.setCell (p := ⟨w.heap.size, 0, none⟩) (Nat.le_refl _) _).setCell (p := ⟨w.heap.size, 1, none⟩) (Nat.le_refl _) _).setCell (p := ⟨w.heap.size, 2, none⟩) (Nat.le_refl _) _
    have HBEL := Lib.hid hbel; clear hbel
    go_wp2
    have g0' := has_cell X1.out 0 rfl; have g1' := has_cell X1.out 1 rfl; have g2' := has_cell X1.out 2 rfl
    exact bodyPost_ret (v := .tuple #[.slice A1 l1.length c1, .agg #[.int .i64 0, .int .i64 0, .int .i64 0], .bool false]) (by simp [results, Try.results7, go_sem, g0', g1', g2']) rfl ⟨A1, c1, l1, ⟨0, 0, 0⟩, false, rfl, .inr ⟨(fun c => by have := c.1; rw [HFIT.out] at this; cases this), HCT1.out, rfl, rfl⟩, HSM1.out, X2.out.wider (by omega) (by simp only [size_set]; omega), HBEL.out⟩
  · skip
    obtain ⟨pb, hpb⟩ : ∃ pb, (decide (1 ≤ p) && decide (p ≤ 999)) = pb := ⟨_, rfl⟩
    have HPB := Lib.hid hpb; clear hpb
    cases pb
    · skip
      go_upto_region 4 with (go_at_call 28; refine (parI_any _ p).mono ?_; rintro e w' ⟨rfl, hw⟩; rw [hw, HPB.out]; clear hw)
      have y0 := has_cell K3.out 0 rfl; have y1 := has_cell K3.out 1 rfl; have y2 := has_cell K3.out 2 rfl; have f0 := has_free K3.out 0; have f1 := has_free K3.out 1; have f2 := has_free K3.out 2
      have X1 := Lib.hid (set3 (u := .int .i64 0) (v := .int .i64 0) (x := .int .i64 0) K3.out)
      have X2 := Lib.hid (bank_store3 HBA3.out K3.out (by decide) (by decide) (by decide) (.int .i64 0) (.int .i64 0) (.int .i64 0))
      have hbel : Below w.heap.size w (((w3.setCell ⟨w.heap.size, 0, none⟩ (.int .i64 0)).setCell ⟨w.heap.size, 1, none⟩ (.int .i64 0)).setCell ⟨w.heap.size, 2, none⟩ (.int .i64 0)) := ((C3.out.setCell (p := ⟨w.heap.size, 0, none⟩) (Nat.le_refl _) _).setCell (p := ⟨w.heap.size, 1, none⟩) (Nat.le_refl _) _).setCell (p := ⟨w.heap.size, 2, none⟩) (Nat.le_refl _) _
      have HBEL := Lib.hid hbel; clear hbel
      go_wp2
      have g0' := has_cell X1.out 0 rfl; have g1' := has_cell X1.out 1 rfl; have g2' := has_cell X1.out 2 rfl
      exact bodyPost_ret (v := .tuple #[.slice A1 l1.length c1, .agg #[.int .i64 0, .int .i64 0, .int .i64 0], .bool false]) (by simp [results, Try.results7, go_sem, g0', g1', g2']) rfl ⟨A1, c1, l1, ⟨0, 0, 0⟩, false, rfl, .inr ⟨(fun c => by have h1 := c.2.1; have h2 := HPB.out; simp at h2; omega), HCT1.out, rfl, rfl⟩, HSM1.out, X2.out.wider (by omega) (by simp only [size_set]; omega), HBEL.out⟩
    · skip
      have hp1 : 1 ≤ p ∧ p ≤ 999 := by have h2 := HPB.out; simp at h2; exact h2
      obtain ⟨hp1, hp2⟩ := hp1
      obtain ⟨hs1, hs2, hgm⟩ := fit_facts HFIT.out
      dsimp only at hs2
      obtain ⟨hbp, k, x, Q, y, r, hx, hok, hL, ho, hge, hQl, a', hcon⟩ := bgO_mem hgm
      have hgb := bgO_bd _ hgm
      dsimp only at hgb
      have hgk : ga = (k : Int) := by injection hge
      subst hgk
      have hfl : fillL ⟨(k : Int), gb, gc⟩ p size x.L = Q ++ newB ⟨(k : Int), gb, gc⟩ p size ++ r.drop (runN x.F r) := by
        rw [hge]; conv => lhs; rw [hL]
        exact fill_gap (c := (k : Int)) hQl hcon
      have hkl : k < l.length := (List.getElem?_eq_some_iff.1 hx).1
      have hcl := (col_sum hok).2.2
      have hsx := HSM.out x (List.mem_of_getElem? hx)
      have HOK := Lib.hid hok; have HL := Lib.hid hL; have HO := Lib.hid ho; have HGE := Lib.hid hge; have HQL := Lib.hid hQl; have HFL := Lib.hid hfl; have HX := Lib.hid hx; have HBP := Lib.hid hbp; have HSX := Lib.hid hsx
      clear hok hL ho hge hQl hfl hgm hcon hx hbp hsx
      obtain ⟨hb1', hb2', hb3', hb4'⟩ := hgb
      go_wp2_with (go_at_call 28; refine (parI_any _ p).mono ?_; rintro e w' ⟨rfl, hw⟩; rw [hw, HPB.out]; clear hw)
      refine (colW_any w3 B A l.length c p l rfl hlm (by omega) (HS.out.later hB C3.out) (fun x hx => (HV.out x hx).later hB C3.out)).mono ?_
      rintro e w4 ⟨rfl, hb4⟩
      have hz4 := hb4.size
      have C4 := Lib.hid (bthen C3.out hb4); have K4 := Lib.hid (has_call K3.out hb4); have KG4 := Lib.hid (has_call KG.out hb4); have HBA4 := Lib.hid (HBA3.out.call hb4); clear hb4
      have hlG4 := has_lt KG4.out; have hlR4 := has_lt K4.out
      obtain ⟨gi, hgi⟩ : ∃ gi, gIdx (hasC p) l 0 = gi := ⟨_, rfl⟩
      rw [hgi]
      have HGI := Lib.hid hgi; clear hgi
      by_cases hfi0 : 0 ≤ gi
      · skip
        have t1 : decide (0 ≤ gi) = true := by simpa using hfi0
        go_upto_region 4 with (fail)
        have y0 := has_cell K4.out 0 rfl; have y1 := has_cell K4.out 1 rfl; have y2 := has_cell K4.out 2 rfl; have f0 := has_free K4.out 0; have f1 := has_free K4.out 1; have f2 := has_free K4.out 2
        have X1 := Lib.hid (set3 (u := .int .i64 0) (v := .int .i64 0) (x := .int .i64 0) K4.out)
        have X2 := Lib.hid (bank_store3 HBA4.out K4.out (by decide) (by decide) (by decide) (.int .i64 0) (.int .i64 0) (.int .i64 0))
        have hbel : Below w.heap.size w (((w4.setCell ⟨w.heap.size, 0, none⟩ (.int .i64 0)).setCell ⟨w.heap.size, 1, none⟩ (.int .i64 0)).setCell ⟨w.heap.size, 2, none⟩ (.int .i64 0)) := ((C4.out.setCell (p := ⟨w.heap.size, 0, none⟩) (Nat.le_refl _) _).setCell (p := ⟨w.heap.size, 1, none⟩) (Nat.le_refl _) _).setCell (p := ⟨w.heap.size, 2, none⟩) (Nat.le_refl _) _
        have HBEL := Lib.hid hbel; clear hbel
        go_wp2
        have g0' := has_cell X1.out 0 rfl; have g1' := has_cell X1.out 1 rfl; have g2' := has_cell X1.out 2 rfl
        exact bodyPost_ret (v := .tuple #[.slice A1 l1.length c1, .agg #[.int .i64 0, .int .i64 0, .int .i64 0], .bool false]) (by simp [results, Try.results7, go_sem, g0', g1', g2']) rfl ⟨A1, c1, l1, ⟨0, 0, 0⟩, false, rfl, .inr ⟨(fun c => by have := c.2.2; rw [HGI.out] at this; omega), HCT1.out, rfl, rfl⟩, HSM1.out, X2.out.wider (by omega) (by simp only [size_set]; omega), HBEL.out⟩
      · skip
        have t1 : decide (0 ≤ gi) = false := by simpa using hfi0
        have HNG := Lib.hid (show gIdx (hasC p) l 0 < 0 by rw [HGI.out]; omega)
        go_upto_region 5 with (fail)
        obtain ⟨b, off, x', rfl, hbB, hx', hc0, hc1, hc2⟩ := (HS.out.later hB C4.out).at_ hkl
        obtain rfl : x = x' := by have := HX.out; rw [hx'] at this; injection this with this; exact this.symm
        have HVX := Lib.hid ((HV.out x (List.mem_of_getElem? hx')).later hB C4.out)
        clear hx'
        have hbw : b < w4.heap.size := by omega
        have hk0 : (0 : Int) ≤ (k : Int) := by omega
        have hk1 : (k : Int) < (l.length : Int) := by omega
        have hk11 : (k : Int) < (l1.length : Int) := by omega
        have hk1l : k < l1.length := by omega
        have S0 : (fun W : World => W.cell? ⟨w2.heap.size, 0, none⟩ = some (.int .i64 (k : Int)) ∧ W.cell? ⟨w2.heap.size, 1, none⟩ = some (.int .i64 gb) ∧ W.cell? ⟨w2.heap.size, 2, none⟩ = some (.int .i64 gc) ∧ W.cell? ⟨b, off + k * 3, none⟩ = some (.int .i64 x.z) ∧ W.cell? ⟨b, off + k * 3 + 1, none⟩ = some (.slice x.AF x.F.length x.cF) ∧ W.cell? ⟨b, off + k * 3 + 2, none⟩ = some (.slice x.AB x.L.length x.cB)) w4.drew := ⟨has_cell KG4.out 0 rfl, has_cell KG4.out 1 rfl, has_cell KG4.out 2 rfl, hc0, hc1, hc2⟩
        clear hc0 hc1 hc2
        refine wp_region_held_drew (S := (fun W : World => W.cell? ⟨w2.heap.size, 0, none⟩ = some (.int .i64 (k : Int)) ∧ W.cell? ⟨w2.heap.size, 1, none⟩ = some (.int .i64 gb) ∧ W.cell? ⟨w2.heap.size, 2, none⟩ = some (.int .i64 gc) ∧ W.cell? ⟨b, off + k * 3, none⟩ = some (.int .i64 x.z) ∧ W.cell? ⟨b, off + k * 3 + 1, none⟩ = some (.slice x.AF x.F.length x.cF) ∧ W.cell? ⟨b, off + k * 3 + 2, none⟩ = some (.slice x.AB x.L.length x.cB))) (by kernel_rfl) S0 (fun _ => ?_)
        refine any_take (i := 0) (some 35) (.slice A1 l1.length c1) rfl rfl (by kernel_rfl) (by kernel_rfl) (by kernel_rfl) (fun _ _ _ h => h) rfl (fun W hSw => ?_) (S0) ?_
        · (try dsimp only at hSw); go_simp <;> with_reducible rfl
        try simp only [Act.put, List.setIfInBounds_toArray, List.set_cons_zero, List.set_cons_succ]
        refine any_take (i := 1) (some 36) (.pointer (some ⟨w2.heap.size, 0, none⟩)) rfl rfl (by kernel_rfl) (by kernel_rfl) (by kernel_rfl) (fun _ _ _ h => h) rfl (fun W hSw => ?_) (S0) ?_
        · (try dsimp only at hSw); go_simp <;> with_reducible rfl
        try simp only [Act.put, List.setIfInBounds_toArray, List.set_cons_zero, List.set_cons_succ]
        refine any_take (i := 2) (some 37) (.int .i64 (k : Int)) rfl rfl (by kernel_rfl) (by kernel_rfl) (by kernel_rfl) (fun _ _ _ h => h) rfl (fun W hSw => ?_) (S0) ?_
        · (try dsimp only at hSw); go_simp <;> with_reducible rfl
        try simp only [Act.put, List.setIfInBounds_toArray, List.set_cons_zero, List.set_cons_succ]
        refine any_take (i := 3) (some 38) (.slice (some ⟨b, off, none⟩) l.length c) rfl rfl (by kernel_rfl) (by kernel_rfl) (by kernel_rfl) (fun _ _ _ h => h) rfl (fun W hSw => ?_) (S0) ?_
        · (try dsimp only at hSw); go_simp <;> with_reducible rfl
        try simp only [Act.put, List.setIfInBounds_toArray, List.set_cons_zero, List.set_cons_succ]
        refine any_take (i := 4) (some 39) (.pointer (some ⟨w2.heap.size, 0, none⟩)) rfl rfl (by kernel_rfl) (by kernel_rfl) (by kernel_rfl) (fun _ _ _ h => h) rfl (fun W hSw => ?_) (S0) ?_
        · (try dsimp only at hSw); go_simp <;> with_reducible rfl
        try simp only [Act.put, List.setIfInBounds_toArray, List.set_cons_zero, List.set_cons_succ]
        refine any_take (i := 5) (some 40) (.int .i64 (k : Int)) rfl rfl (by kernel_rfl) (by kernel_rfl) (by kernel_rfl) (fun _ _ _ h => h) rfl (fun W hSw => ?_) (S0) ?_
        · (try dsimp only at hSw); go_simp <;> with_reducible rfl
        try simp only [Act.put, List.setIfInBounds_toArray, List.set_cons_zero, List.set_cons_succ]
        refine any_take (i := 6) (some 41) (.pointer (some ⟨b, off + k * 3, none⟩)) rfl rfl (by kernel_rfl) (by kernel_rfl) (by kernel_rfl) (fun _ _ _ h => h) rfl (fun W hSw => ?_) (S0) ?_
        · (try dsimp only at hSw); go_simp <;> with_reducible rfl
        try simp only [Act.put, List.setIfInBounds_toArray, List.set_cons_zero, List.set_cons_succ]
        refine any_take (i := 7) (some 42) (.agg #[.int .i64 x.z, .slice x.AF x.F.length x.cF, .slice x.AB x.L.length x.cB]) rfl rfl (by kernel_rfl) (by kernel_rfl) (by kernel_rfl) (fun _ _ _ h => h) rfl (fun W hSw => ?_) (S0) ?_
        · (try dsimp only at hSw); go_simp <;> with_reducible rfl
        try simp only [Act.put, List.setIfInBounds_toArray, List.set_cons_zero, List.set_cons_succ]
        refine any_take (i := 8) (some 43) (.agg #[.int .i64 (k : Int), .int .i64 gb, .int .i64 gc]) rfl rfl (by kernel_rfl) (by kernel_rfl) (by kernel_rfl) (fun _ _ _ h => h) rfl (fun W hSw => ?_) (S0) ?_
        · (try dsimp only at hSw); go_simp <;> with_reducible rfl
        try simp only [Act.put, List.setIfInBounds_toArray, List.set_cons_zero, List.set_cons_succ]
        refine any_take (i := 9) (some 44) (.int .i64 p) rfl rfl (by kernel_rfl) (by kernel_rfl) (by kernel_rfl) (fun _ _ _ h => h) rfl (fun W hSw => ?_) (S0) ?_
        · (try dsimp only at hSw); go_simp <;> with_reducible rfl
        try simp only [Act.put, List.setIfInBounds_toArray, List.set_cons_zero, List.set_cons_succ]
        refine any_take (i := 10) (some 45) (.int .i64 size) rfl rfl (by kernel_rfl) (by kernel_rfl) (by kernel_rfl) (fun _ _ _ h => h) rfl (fun W hSw => ?_) (S0) ?_
        · (try dsimp only at hSw); go_simp <;> with_reducible rfl
        try simp only [Act.put, List.setIfInBounds_toArray, List.set_cons_zero, List.set_cons_succ]
        refine wpAnyH_ready (rs := [11]) (by kernel_rfl) (by simp) ?_
        refine AllReadyH.cons rfl (fun K hK => ?_) AllReadyH.nil
        go_simp
        go_at_call 30
        refine (filledI_any w4.drew B x (k : Int) gb gc p size Q y r HSX.out.1 (show B ≤ w4.drew.heap.size by simp; omega) (show CV w4.drew B x from ⟨HVX.out.f.below (Below.refl _ _).drew, HVX.out.b.below (Below.refl _ _).drew, HVX.out.lf, HVX.out.lb⟩) HOK.out HL.out HO.out (by have := HGE.out; injection this) (by have := HGE.out; injection this) HQL.out (by omega) hs2).mono ?_
        rintro e w5 ⟨A7, A8, c7, c8, rfl, hP7, hQ8, hb8⟩
        rw [← HFL.out] at hQ8 ⊢
        have hfll := fillL_len ⟨(k : Int), gb, gc⟩ p size x.L
        obtain ⟨E, hE⟩ : ∃ E, fillL ⟨(k : Int), gb, gc⟩ p size x.L = E := ⟨_, rfl⟩
        rw [hE] at hQ8 hfll ⊢
        have HE := Lib.hid hE; clear hE
        have hzd : w4.drew.heap.size = w4.heap.size := rfl
        have hb9 : Below w4.heap.size w4 w5 := ((Below.refl w4.heap.size w4).drew).trans hb8
        have hz5 := hb9.size
        have S5 : (fun W : World => W.cell? ⟨w2.heap.size, 0, none⟩ = some (.int .i64 (k : Int)) ∧ W.cell? ⟨w2.heap.size, 1, none⟩ = some (.int .i64 gb) ∧ W.cell? ⟨w2.heap.size, 2, none⟩ = some (.int .i64 gc) ∧ W.cell? ⟨b, off + k * 3, none⟩ = some (.int .i64 x.z) ∧ W.cell? ⟨b, off + k * 3 + 1, none⟩ = some (.slice x.AF x.F.length x.cF) ∧ W.cell? ⟨b, off + k * 3 + 2, none⟩ = some (.slice x.AB x.L.length x.cB)) w5 := ⟨(bold hb9 _ _ hlG4).trans S0.1, (bold hb9 _ _ hlG4).trans S0.2.1, (bold hb9 _ _ hlG4).trans S0.2.2.1, (bold hb9 _ _ hbw).trans S0.2.2.2.1, (bold hb9 _ _ hbw).trans S0.2.2.2.2.1, (bold hb9 _ _ hbw).trans S0.2.2.2.2.2⟩
        obtain ⟨g, cur, hA1, hg1, hg2, hH, hcs, hput⟩ := (HBA4.out.call hb9).put hk1l ⟨x.z, A7, x.F, c7, A8, E, c8⟩ (show w1.heap.size ≤ w4.heap.size by omega) hz5 (by omega) (OI.of_or hP7) (OI.of_or hQ8)
        dsimp only at hput
        have hzf : w5.heap.size ≤ (((w5.setCell ⟨g, k * 3, none⟩ (.int .i64 x.z)).setCell ⟨g, k * 3 + 1, none⟩ (.slice A7 x.F.length c7)).setCell ⟨g, k * 3 + 2, none⟩ (.slice A8 E.length c8)).heap.size := by simp only [size_set]; omega
        have HPUT := Lib.hid (hput.wider (show w.heap.size ≤ w0.heap.size by omega) hzf)
        have C5 := Lib.hid (((bthen C4.out hb9).setCell (p := ⟨g, k * 3, none⟩) (show w.heap.size ≤ g by omega) (.int .i64 x.z)).setCell (p := ⟨g, k * 3 + 1, none⟩) (show w.heap.size ≤ g by omega) (.slice A7 x.F.length c7) |>.setCell (p := ⟨g, k * 3 + 2, none⟩) (show w.heap.size ≤ g by omega) (.slice A8 E.length c8))
        have hgne1 : w.heap.size ≠ g := by omega
        have hgne2 : w2.heap.size ≠ g := by omega
        have hgne3 : b ≠ g := by omega
        have K6 := Lib.hid (has_far (has_far (has_far (has_call K4.out hb9) (p := ⟨g, k * 3, none⟩) hgne1 (.int .i64 x.z)) (p := ⟨g, k * 3 + 1, none⟩) hgne1 (.slice A7 x.F.length c7)) (p := ⟨g, k * 3 + 2, none⟩) hgne1 (.slice A8 E.length c8))
        have KG6 := Lib.hid (has_far (has_far (has_far (has_call KG4.out hb9) (p := ⟨g, k * 3, none⟩) hgne2 (.int .i64 x.z)) (p := ⟨g, k * 3 + 1, none⟩) hgne2 (.slice A7 x.F.length c7)) (p := ⟨g, k * 3 + 2, none⟩) hgne2 (.slice A8 E.length c8))
        have y0 := has_cell hH (k * 3) (Array.getElem?_eq_getElem (by omega)); have y1 := has_cell hH (k * 3 + 1) (Array.getElem?_eq_getElem (by omega)); have y2 := has_cell hH (k * 3 + 2) (Array.getElem?_eq_getElem (by omega))
        have f0 := has_free hH (k * 3); have f1 := has_free hH (k * 3 + 1); have f2 := has_free hH (k * 3 + 2)
        have hgl := has_lt hH
        clear hput hH hP7 hQ8 hzd
        generalize hu0 : cur[k * 3] = u0 at y0
        generalize hu1 : cur[k * 3 + 1] = u1 at y1
        generalize hu2 : cur[k * 3 + 2] = u2 at y2
        clear hu0 hu1 hu2
        subst hA1
        go_wp2_with fail
        refine hK.out _ _ S5 (fun _ => ?_)
        clear hK K
        try simp only [Act.put, List.setIfInBounds_toArray, List.set_cons_zero, List.set_cons_succ]
        refine any_take (i := 12) (some 47) (.pointer (some ⟨g, k * 3, none⟩)) rfl rfl (by kernel_rfl) (by kernel_rfl) (by kernel_rfl) (fun _ _ _ h => h) rfl (fun W hSw => ?_) (S5) ?_
        · (try dsimp only at hSw); go_simp <;> with_reducible rfl
        try simp only [Act.put, List.setIfInBounds_toArray, List.set_cons_zero, List.set_cons_succ]
        refine wpAnyH_ready (rs := [13]) (by kernel_rfl) (by simp) ?_
        refine AllReadyH.cons rfl (fun K hK => ?_) AllReadyH.nil
        go_simp
        have S6 : (fun W : World => W.cell? ⟨w2.heap.size, 0, none⟩ = some (.int .i64 (k : Int)) ∧ W.cell? ⟨w2.heap.size, 1, none⟩ = some (.int .i64 gb) ∧ W.cell? ⟨w2.heap.size, 2, none⟩ = some (.int .i64 gc) ∧ W.cell? ⟨b, off + k * 3, none⟩ = some (.int .i64 x.z) ∧ W.cell? ⟨b, off + k * 3 + 1, none⟩ = some (.slice x.AF x.F.length x.cF) ∧ W.cell? ⟨b, off + k * 3 + 2, none⟩ = some (.slice x.AB x.L.length x.cB)) (((w5.setCell ⟨g, k * 3, none⟩ (.int .i64 x.z)).setCell ⟨g, k * 3 + 1, none⟩ (.slice A7 x.F.length c7)).setCell ⟨g, k * 3 + 2, none⟩ (.slice A8 E.length c8)) := ⟨(cell_farN hgne2 _ _ _ _ _ _ _).trans S5.1, (cell_farN hgne2 _ _ _ _ _ _ _).trans S5.2.1, (cell_farN hgne2 _ _ _ _ _ _ _).trans S5.2.2.1, (cell_farN hgne3 _ _ _ _ _ _ _).trans S5.2.2.2.1, (cell_farN hgne3 _ _ _ _ _ _ _).trans S5.2.2.2.2.1, (cell_farN hgne3 _ _ _ _ _ _ _).trans S5.2.2.2.2.2⟩
        refine hK.out _ _ S6 (fun _ => ?_)
        clear hK K y0 y1 y2 f0 f1 f2
        try simp only [Act.put, List.setIfInBounds_toArray, List.set_cons_zero, List.set_cons_succ]
        refine wpAnyH_done (by kernel_rfl) ?_ _
        clear S0 S5 S6
        go_upto_region 6 with (fail)
        generalize hX : (((w5.setCell ⟨g, k * 3, none⟩ (.int .i64 x.z)).setCell ⟨g, k * 3 + 1, none⟩ (.slice A7 x.F.length c7)).setCell ⟨g, k * 3 + 2, none⟩ (.slice A8 E.length c8)) = w6 at *
        clear hX hb9
        have hk6 := K6.out; have hg6 := KG6.out
        have hlk6 := has_lt hk6; have hlg6 := has_lt hg6
        have S0 : (fun W : World => W.cell? ⟨w2.heap.size, 0, none⟩ = some (.int .i64 (k : Int)) ∧ W.cell? ⟨w2.heap.size, 1, none⟩ = some (.int .i64 gb)) w6.drew := ⟨has_cell hg6 0 rfl, has_cell hg6 1 rfl⟩
        refine wp_region_held_drew (S := (fun W : World => W.cell? ⟨w2.heap.size, 0, none⟩ = some (.int .i64 (k : Int)) ∧ W.cell? ⟨w2.heap.size, 1, none⟩ = some (.int .i64 gb))) (by kernel_rfl) S0 (fun _ => ?_)
        refine any_take (i := 0) (some 48) (.slice (some ⟨g, 0, none⟩) l1.length c1) rfl rfl (by kernel_rfl) (by kernel_rfl) (by kernel_rfl) (fun _ _ _ h => h) rfl (fun W hSw => ?_) (S0) ?_
        · (try dsimp only at hSw); go_simp <;> with_reducible rfl
        try simp only [Act.put, List.setIfInBounds_toArray, List.set_cons_zero, List.set_cons_succ]
        refine any_take (i := 1) (some 49) (.pointer (some ⟨w2.heap.size, 0, none⟩)) rfl rfl (by kernel_rfl) (by kernel_rfl) (by kernel_rfl) (fun _ _ _ h => h) rfl (fun W hSw => ?_) (S0) ?_
        · (try dsimp only at hSw); go_simp <;> with_reducible rfl
        try simp only [Act.put, List.setIfInBounds_toArray, List.set_cons_zero, List.set_cons_succ]
        refine any_take (i := 2) (some 50) (.int .i64 (k : Int)) rfl rfl (by kernel_rfl) (by kernel_rfl) (by kernel_rfl) (fun _ _ _ h => h) rfl (fun W hSw => ?_) (S0) ?_
        · (try dsimp only at hSw); go_simp <;> with_reducible rfl
        try simp only [Act.put, List.setIfInBounds_toArray, List.set_cons_zero, List.set_cons_succ]
        refine any_take (i := 3) (some 51) (.pointer (some ⟨w2.heap.size, 1, none⟩)) rfl rfl (by kernel_rfl) (by kernel_rfl) (by kernel_rfl) (fun _ _ _ h => h) rfl (fun W hSw => ?_) (S0) ?_
        · (try dsimp only at hSw); go_simp <;> with_reducible rfl
        try simp only [Act.put, List.setIfInBounds_toArray, List.set_cons_zero, List.set_cons_succ]
        refine any_take (i := 4) (some 52) (.int .i64 gb) rfl rfl (by kernel_rfl) (by kernel_rfl) (by kernel_rfl) (fun _ _ _ h => h) rfl (fun W hSw => ?_) (S0) ?_
        · (try dsimp only at hSw); go_simp <;> with_reducible rfl
        try simp only [Act.put, List.setIfInBounds_toArray, List.set_cons_zero, List.set_cons_succ]
        refine any_take (i := 5) (some 53) (.int .i64 size) rfl rfl (by kernel_rfl) (by kernel_rfl) (by kernel_rfl) (fun _ _ _ h => h) rfl (fun W hSw => ?_) (S0) ?_
        · (try dsimp only at hSw); go_simp <;> with_reducible rfl
        try simp only [Act.put, List.setIfInBounds_toArray, List.set_cons_zero, List.set_cons_succ]
        refine any_take (i := 6) (some 54) (.agg #[.int .i64 (k : Int), .int .i64 gb, .int .i64 size]) rfl rfl (by kernel_rfl) (by kernel_rfl) (by kernel_rfl) (fun _ _ _ h => h) rfl (fun W hSw => ?_) (S0) ?_
        · (try dsimp only at hSw); go_simp <;> with_reducible rfl
        try simp only [Act.put, List.setIfInBounds_toArray, List.set_cons_zero, List.set_cons_succ]
        refine any_take (i := 7) (some 6) (.slice (some ⟨g, 0, none⟩) l1.length c1) rfl rfl (by kernel_rfl) (by kernel_rfl) (by kernel_rfl) (fun _ _ _ h => h) rfl (fun W hSw => ?_) (S0) ?_
        · (try dsimp only at hSw); go_simp <;> with_reducible rfl
        try simp only [Act.put, List.setIfInBounds_toArray, List.set_cons_zero, List.set_cons_succ]
        refine wpAnyH_ready (rs := [8]) (by kernel_rfl) (by simp) ?_
        refine AllReadyH.cons rfl (fun K hK => ?_) AllReadyH.nil
        have y0 := has_cell hk6 0 rfl; have y1 := has_cell hk6 1 rfl; have y2 := has_cell hk6 2 rfl; have f0 := has_free hk6 0; have f1 := has_free hk6 1; have f2 := has_free hk6 2
        go_simp
        have hne7 : w2.heap.size ≠ w.heap.size := by omega
        have S7 : (fun W : World => W.cell? ⟨w2.heap.size, 0, none⟩ = some (.int .i64 (k : Int)) ∧ W.cell? ⟨w2.heap.size, 1, none⟩ = some (.int .i64 gb)) (((w6.setCell ⟨w.heap.size, 0, none⟩ (.int .i64 (k : Int))).setCell ⟨w.heap.size, 1, none⟩ (.int .i64 gb)).setCell ⟨w.heap.size, 2, none⟩ (.int .i64 size)).drew := ⟨(cell_farN hne7 _ _ _ _ _ _ _).trans S0.1, (cell_farN hne7 _ _ _ _ _ _ _).trans S0.2⟩
        have X1 := Lib.hid (has_drew (set3 (u := .int .i64 (k : Int)) (v := .int .i64 gb) (x := .int .i64 size) hk6))
        have hpd : BankAt (((w6.setCell ⟨w.heap.size, 0, none⟩ (.int .i64 (k : Int))).setCell ⟨w.heap.size, 1, none⟩ (.int .i64 gb)).setCell ⟨w.heap.size, 2, none⟩ (.int .i64 size)).drew w.heap.size w6.heap.size (some ⟨g, 0, none⟩) (l1.set k ⟨x.z, A7, x.F, c7, A8, E, c8⟩) := (bank_store3 HPUT.out hk6 (by decide) (by decide) (by decide) (.int .i64 (k : Int)) (.int .i64 gb) (.int .i64 size)).within (Within.of_below (lo := 0) (hi := 0) (Below.refl _ _).drew) (.inr (Nat.zero_le _))
        have X2 := Lib.hid hpd
        have X3 := Lib.hid (((((C5.out).setCell (p := ⟨w.heap.size, 0, none⟩) (Nat.le_refl _) (.int .i64 (k : Int))).setCell (p := ⟨w.heap.size, 1, none⟩) (Nat.le_refl _) (.int .i64 gb)).setCell (p := ⟨w.heap.size, 2, none⟩) (Nat.le_refl _) (.int .i64 size)).drew)
        refine hK.out _ _ S7 (fun _ => ?_)
        clear hK K y0 y1 y2 f0 f1 f2 hpd
        try simp only [Act.put, List.setIfInBounds_toArray, List.set_cons_zero, List.set_cons_succ]
        refine any_take (i := 9) (some 8) (.bool true) rfl rfl (by kernel_rfl) (by kernel_rfl) (by kernel_rfl) (fun _ _ _ h => h) rfl (fun W hSw => ?_) (S7) ?_
        · (try dsimp only at hSw); go_simp <;> with_reducible rfl
        try simp only [Act.put, List.setIfInBounds_toArray, List.set_cons_zero, List.set_cons_succ]
        refine wpAnyH_done (by kernel_rfl) ?_ _
        go_wp2
        have g0' := has_cell X1.out 0 rfl; have g1' := has_cell X1.out 1 rfl; have g2' := has_cell X1.out 2 rfl
        have hfin : bkPt l p size ((l1.set k ⟨x.z, A7, x.F, c7, A8, E, c8⟩).map cont) ⟨(k : Int), gb, size⟩ true := by
          left
          refine ⟨⟨by rw [HFIT.out], ⟨hp1, hp2⟩, HNG.out⟩, ⟨k, x, HX.out, by rw [HFIT.out], ?_⟩, by rw [HFIT.out], rfl⟩
          rw [List.map_set, HCT1.out, HFIT.out, HE.out]; rfl
        have hsmf : SmallK (l1.set k ⟨x.z, A7, x.F, c7, A8, E, c8⟩) := small_set HSM1.out k ⟨HSX.out.1, by dsimp only; omega⟩
        exact bodyPost_ret (v := .tuple #[.slice (some ⟨g, 0, none⟩) l1.length c1, .agg #[.int .i64 (k : Int), .int .i64 gb, .int .i64 size], .bool true]) (by simp [results, Try.results7, go_sem, g0', g1', g2']) rfl ⟨some ⟨g, 0, none⟩, c1, l1.set k ⟨x.z, A7, x.F, c7, A8, E, c8⟩, ⟨(k : Int), gb, size⟩, true, by simp, hfin, hsmf, X2.out.wider (Nat.le_refl _) (by show w6.heap.size ≤ (((w6.setCell _ _).setCell _ _).setCell _ _).heap.size; simp only [size_set]; exact Nat.le_refl _), X3.out⟩
set_option maxRecDepth 100000 in
set_option maxHeartbeats 4000000 in
theorem bptS_any (w : World) (B : Nat) (A : Option Addr) (n c : Nat) (p size : Int) (l : List Cl) (hn : n = l.length) (hl : l.length ≤ 1048576) (hsm : SmallK l) (hB : B ≤ w.heap.size) (hS : KL w B A l) (hV : ∀ x ∈ l, CV w B x) :
    Calls Try.prog 8 #[.slice A n c, .int .i64 p, .int .i64 size] w (BankAnsG (bkPt l p size) w) := by
  subst hn
  have hlm : l.length ≤ maxLen := by unfold maxLen; omega
  have HS := Lib.hid hS; have HV := Lib.hid hV; have HSM := Lib.hid hsm; clear hS hV hsm
  obtain ⟨⟨⟨ga, gb, gc⟩, gf⟩, hfit⟩ : ∃ v, fitV (bgO l) size = v := ⟨_, rfl⟩
  have HFIT := Lib.hid hfit; clear hfit
  go_enter Try.func8, Try.ntmps8
  go_wp2_with fail
  generalize hW0 : w.alloc (.cells #[.int .i64 0, .int .i64 0, .int .i64 0] 28) = w0
  have b0 : Below w.heap.size w w0 := by rw [← hW0]; exact balloc _ _
  have k0 : Has w0 w.heap.size 28 #[.int .i64 0, .int .i64 0, .int .i64 0] := by rw [← hW0]; exact has_new _ _ _
  clear hW0
  have K0 := Lib.hid k0; clear k0
  have hz0 := b0.size
  have hlr0 := has_lt K0.out
  refine (cpyS_any w0 B A l.length c l rfl hl HSM.out (by omega) (HS.out.later hB b0) (fun x hx => (HV.out x hx).later hB b0)).mono ?_
  rintro e w1 ⟨A1, c1, l1, rfl, hct1, hba1, hb1⟩
  have hz1 := hb1.size
  have hsm1 := small_cont hct1 HSM.out
  have hl1 : l1.length ≤ l.length ∧ l.length ≤ l1.length := by have := len_cont hct1; omega
  obtain ⟨hl1a, hl1b⟩ := hl1
  have C1 := Lib.hid (bthen b0 hb1); have K1 := Lib.hid (has_call K0.out hb1); have HCT1 := Lib.hid hct1; have HBA1 := Lib.hid hba1; have HSM1 := Lib.hid hsm1; clear hct1 hba1 hsm1 hb1 b0
  go_wp2_with fail
  refine (bfitS_any w1 B A l.length c size l rfl hlm (by omega) (HS.out.later hB C1.out) (fun x hx => (HV.out x hx).later hB C1.out)).mono ?_
  rintro e w2 hans
  rw [HFIT.out] at hans
  obtain ⟨rfl, hb2⟩ := hans
  dsimp only
  have hz2 := hb2.size
  have C2 := Lib.hid (bthen C1.out hb2); have K2 := Lib.hid (has_call K1.out hb2); have HBA2 := Lib.hid (HBA1.out.call hb2); clear hb2
  go_upto_region 3 with (fail)
  generalize hX : w2.alloc (.cells #[.int .i64 ga, .int .i64 gb, .int .i64 gc] 28) = w3
  have b3 : Below w2.heap.size w2 w3 := by rw [← hX]; exact balloc _ _
  have kg : Has w3 w2.heap.size 28 #[.int .i64 ga, .int .i64 gb, .int .i64 gc] := by rw [← hX]; exact has_new _ _ _
  clear hX
  have hz3 := b3.size
  have KG := Lib.hid kg; have C3 := Lib.hid (bthen C2.out b3); have K3 := Lib.hid (has_call K2.out b3); have HBA3 := Lib.hid (HBA2.out.call b3); clear kg b3
  have hlG := has_lt KG.out; have hlR := has_lt K3.out
  go_wp2_with fail
  refine (bofS_any w3 B A l.length c p l rfl hlm (by omega) (HS.out.later hB C3.out) (fun x hx => (HV.out x hx).later hB C3.out)).mono ?_
  rintro e w4 ⟨ba, bq, rfl, hbo, hb4⟩
  have hz4 := hb4.size
  have HBO := Lib.hid hbo; have C4 := Lib.hid (bthen C3.out hb4); have K4 := Lib.hid (has_call K3.out hb4); have KG4 := Lib.hid (has_call KG.out hb4); have HBA4 := Lib.hid (HBA3.out.call hb4); clear hbo hb4
  have hlG4 := has_lt KG4.out; have hlR4 := has_lt K4.out
  cases gf
  · skip
    have y0 := has_cell K4.out 0 rfl; have y1 := has_cell K4.out 1 rfl; have y2 := has_cell K4.out 2 rfl; have f0 := has_free K4.out 0; have f1 := has_free K4.out 1; have f2 := has_free K4.out 2
    have X1 := Lib.hid (set3 (u := .int .i64 0) (v := .int .i64 0) (x := .int .i64 0) K4.out)
    have X2 := Lib.hid (bank_store3 HBA4.out K4.out (by decide) (by decide) (by decide) (.int .i64 0) (.int .i64 0) (.int .i64 0))
    have hbel : Below w.heap.size w (((w4.setCell ⟨w.heap.size, 0, none⟩ (.int .i64 0)).setCell ⟨w.heap.size, 1, none⟩ (.int .i64 0)).setCell ⟨w.heap.size, 2, none⟩ (.int .i64 0)) := ((C4.out.setCell (p := ⟨w.heap.size, 0, none⟩) (Nat.le_refl _) _).setCell (p := ⟨w.heap.size, 1, none⟩) (Nat.le_refl _) _).setCell (p := ⟨w.heap.size, 2, none⟩) (Nat.le_refl _) _
    have HBEL := Lib.hid hbel; clear hbel
    go_wp2
    have g0' := has_cell X1.out 0 rfl; have g1' := has_cell X1.out 1 rfl; have g2' := has_cell X1.out 2 rfl
    exact bodyPost_ret (v := .tuple #[.slice A1 l1.length c1, .agg #[.int .i64 0, .int .i64 0, .int .i64 0], .bool false]) (by simp [results, Try.results8, go_sem, g0', g1', g2']) rfl ⟨A1, c1, l1, ⟨0, 0, 0⟩, false, rfl, .inr ⟨(fun c => by have := c.1; rw [HFIT.out] at this; cases this), HCT1.out, rfl, rfl⟩, HSM1.out, X2.out.wider (by omega) (by simp only [size_set]; omega), HBEL.out⟩
  · skip
    obtain ⟨pb, hpb⟩ : ∃ pb, inB p 1 999 = pb := ⟨_, rfl⟩
    have HPB := Lib.hid hpb; clear hpb
    cases pb
    · skip
      go_upto_region 5 with (go_at_call 34; refine (in_any _ p 1 999).mono ?_; rintro e w' ⟨rfl, hw⟩; rw [hw, HPB.out]; clear hw)
      have y0 := has_cell K4.out 0 rfl; have y1 := has_cell K4.out 1 rfl; have y2 := has_cell K4.out 2 rfl; have f0 := has_free K4.out 0; have f1 := has_free K4.out 1; have f2 := has_free K4.out 2
      have X1 := Lib.hid (set3 (u := .int .i64 0) (v := .int .i64 0) (x := .int .i64 0) K4.out)
      have X2 := Lib.hid (bank_store3 HBA4.out K4.out (by decide) (by decide) (by decide) (.int .i64 0) (.int .i64 0) (.int .i64 0))
      have hbel : Below w.heap.size w (((w4.setCell ⟨w.heap.size, 0, none⟩ (.int .i64 0)).setCell ⟨w.heap.size, 1, none⟩ (.int .i64 0)).setCell ⟨w.heap.size, 2, none⟩ (.int .i64 0)) := ((C4.out.setCell (p := ⟨w.heap.size, 0, none⟩) (Nat.le_refl _) _).setCell (p := ⟨w.heap.size, 1, none⟩) (Nat.le_refl _) _).setCell (p := ⟨w.heap.size, 2, none⟩) (Nat.le_refl _) _
      have HBEL := Lib.hid hbel; clear hbel
      go_wp2
      have g0' := has_cell X1.out 0 rfl; have g1' := has_cell X1.out 1 rfl; have g2' := has_cell X1.out 2 rfl
      exact bodyPost_ret (v := .tuple #[.slice A1 l1.length c1, .agg #[.int .i64 0, .int .i64 0, .int .i64 0], .bool false]) (by simp [results, Try.results8, go_sem, g0', g1', g2']) rfl ⟨A1, c1, l1, ⟨0, 0, 0⟩, false, rfl, .inr ⟨(fun c => by have h1 := c.2.1; have h2 := HPB.out; simp [inB] at h2; omega), HCT1.out, rfl, rfl⟩, HSM1.out, X2.out.wider (by omega) (by simp only [size_set]; omega), HBEL.out⟩
    · skip
      have hp1 : 1 ≤ p ∧ p ≤ 999 := by have h2 := HPB.out; simp [inB] at h2; exact h2
      obtain ⟨hp1, hp2⟩ := hp1
      obtain ⟨hs1, hs2, hgm⟩ := fit_facts HFIT.out
      dsimp only at hs2
      obtain ⟨hbp, k, x, Q, y, r, hx, hok, hL, ho, hge, hQl, a', hcon⟩ := bgO_mem hgm
      have hgb := bgO_bd _ hgm
      dsimp only at hgb
      have hgk : ga = (k : Int) := by injection hge
      subst hgk
      have hfl : fillL ⟨(k : Int), gb, gc⟩ p size x.L = Q ++ newB ⟨(k : Int), gb, gc⟩ p size ++ r.drop (runN x.F r) := by
        rw [hge]; conv => lhs; rw [hL]
        exact fill_gap (c := (k : Int)) hQl hcon
      have hkl : k < l.length := (List.getElem?_eq_some_iff.1 hx).1
      have hcl := (col_sum hok).2.2
      have hsx := HSM.out x (List.mem_of_getElem? hx)
      have HOK := Lib.hid hok; have HL := Lib.hid hL; have HO := Lib.hid ho; have HGE := Lib.hid hge; have HQL := Lib.hid hQl; have HFL := Lib.hid hfl; have HX := Lib.hid hx; have HBP := Lib.hid hbp; have HSX := Lib.hid hsx
      clear hok hL ho hge hQl hfl hgm hcon hx hbp hsx
      obtain ⟨hb1', hb2', hb3', hb4'⟩ := hgb
      have hgc : gIdx (hasC p) l 0 = gIdx (hasC0 p) l 0 := gIdx_congr _ _ fun x _ => by unfold hasC hasC0; rw [fIdx_P0 (by omega)]
      have HGC := Lib.hid hgc; clear hgc
      by_cases hfi0 : 0 ≤ ba
      · skip
        have t1 : decide (0 ≤ ba) = true := by simpa using hfi0
        go_upto_region 5 with (go_at_call 34; refine (in_any _ p 1 999).mono ?_; rintro e w' ⟨rfl, hw⟩; rw [hw, HPB.out]; clear hw)
        have y0 := has_cell K4.out 0 rfl; have y1 := has_cell K4.out 1 rfl; have y2 := has_cell K4.out 2 rfl; have f0 := has_free K4.out 0; have f1 := has_free K4.out 1; have f2 := has_free K4.out 2
        have X1 := Lib.hid (set3 (u := .int .i64 0) (v := .int .i64 0) (x := .int .i64 0) K4.out)
        have X2 := Lib.hid (bank_store3 HBA4.out K4.out (by decide) (by decide) (by decide) (.int .i64 0) (.int .i64 0) (.int .i64 0))
        have hbel : Below w.heap.size w (((w4.setCell ⟨w.heap.size, 0, none⟩ (.int .i64 0)).setCell ⟨w.heap.size, 1, none⟩ (.int .i64 0)).setCell ⟨w.heap.size, 2, none⟩ (.int .i64 0)) := ((C4.out.setCell (p := ⟨w.heap.size, 0, none⟩) (Nat.le_refl _) _).setCell (p := ⟨w.heap.size, 1, none⟩) (Nat.le_refl _) _).setCell (p := ⟨w.heap.size, 2, none⟩) (Nat.le_refl _) _
        have HBEL := Lib.hid hbel; clear hbel
        go_wp2
        have g0' := has_cell X1.out 0 rfl; have g1' := has_cell X1.out 1 rfl; have g2' := has_cell X1.out 2 rfl
        exact bodyPost_ret (v := .tuple #[.slice A1 l1.length c1, .agg #[.int .i64 0, .int .i64 0, .int .i64 0], .bool false]) (by simp [results, Try.results8, go_sem, g0', g1', g2']) rfl ⟨A1, c1, l1, ⟨0, 0, 0⟩, false, rfl, .inr ⟨(fun c => by have h1 := c.2.2; rw [HGC.out] at h1; rcases HBO.out with ⟨k2, x2, j2, y2, hat, e1, _⟩ | ⟨_, e1, _⟩; (rw [hat.col] at h1; omega); omega), HCT1.out, rfl, rfl⟩, HSM1.out, X2.out.wider (by omega) (by simp only [size_set]; omega), HBEL.out⟩
      · skip
        have t1 : decide (0 ≤ ba) = false := by simpa using hfi0
        have HNG := Lib.hid (show gIdx (hasC p) l 0 < 0 by
          rw [HGC.out]
          rcases HBO.out with ⟨k2, x2, j2, y2, hat, e1, _⟩ | ⟨hno, e1, _⟩
          · omega
          · rcases gIdx_cases (hasC0 p) l 0 with ⟨h, _⟩ | ⟨j3, x3, h3, hx3, hc3⟩
            · omega
            · exfalso
              unfold hasC0 at hc3
              obtain ⟨j4, y4, h4, hy4, _⟩ := fIdx_lt (p := hasP0 p) (l := x3.L) (by simpa using hc3)
              exact hno j3 x3 j4 y4 ⟨HBP.out, by simpa using h3, hx3, h4, hy4⟩)
        go_upto_region 6 with (go_at_call 34; refine (in_any _ p 1 999).mono ?_; rintro e w' ⟨rfl, hw⟩; rw [hw, HPB.out]; clear hw)
        obtain ⟨b, off, x', rfl, hbB, hx', hc0, hc1, hc2⟩ := (HS.out.later hB C4.out).at_ hkl
        obtain rfl : x = x' := by have := HX.out; rw [hx'] at this; injection this with this; exact this.symm
        have HVX := Lib.hid ((HV.out x (List.mem_of_getElem? hx')).later hB C4.out)
        clear hx'
        have hbw : b < w4.heap.size := by omega
        have hk0 : (0 : Int) ≤ (k : Int) := by omega
        have hk1 : (k : Int) < (l.length : Int) := by omega
        have hk11 : (k : Int) < (l1.length : Int) := by omega
        have hk1l : k < l1.length := by omega
        have S0 : (fun W : World => W.cell? ⟨w2.heap.size, 0, none⟩ = some (.int .i64 (k : Int)) ∧ W.cell? ⟨w2.heap.size, 1, none⟩ = some (.int .i64 gb) ∧ W.cell? ⟨w2.heap.size, 2, none⟩ = some (.int .i64 gc) ∧ W.cell? ⟨b, off + k * 3, none⟩ = some (.int .i64 x.z) ∧ W.cell? ⟨b, off + k * 3 + 1, none⟩ = some (.slice x.AF x.F.length x.cF) ∧ W.cell? ⟨b, off + k * 3 + 2, none⟩ = some (.slice x.AB x.L.length x.cB)) w4.drew := ⟨has_cell KG4.out 0 rfl, has_cell KG4.out 1 rfl, has_cell KG4.out 2 rfl, hc0, hc1, hc2⟩
        clear hc0 hc1 hc2
        refine wp_region_held_drew (S := (fun W : World => W.cell? ⟨w2.heap.size, 0, none⟩ = some (.int .i64 (k : Int)) ∧ W.cell? ⟨w2.heap.size, 1, none⟩ = some (.int .i64 gb) ∧ W.cell? ⟨w2.heap.size, 2, none⟩ = some (.int .i64 gc) ∧ W.cell? ⟨b, off + k * 3, none⟩ = some (.int .i64 x.z) ∧ W.cell? ⟨b, off + k * 3 + 1, none⟩ = some (.slice x.AF x.F.length x.cF) ∧ W.cell? ⟨b, off + k * 3 + 2, none⟩ = some (.slice x.AB x.L.length x.cB))) (by kernel_rfl) S0 (fun _ => ?_)
        refine any_take (i := 0) (some 41) (.slice A1 l1.length c1) rfl rfl (by kernel_rfl) (by kernel_rfl) (by kernel_rfl) (fun _ _ _ h => h) rfl (fun W hSw => ?_) (S0) ?_
        · (try dsimp only at hSw); go_simp <;> with_reducible rfl
        try simp only [Act.put, List.setIfInBounds_toArray, List.set_cons_zero, List.set_cons_succ]
        refine any_take (i := 1) (some 42) (.pointer (some ⟨w2.heap.size, 0, none⟩)) rfl rfl (by kernel_rfl) (by kernel_rfl) (by kernel_rfl) (fun _ _ _ h => h) rfl (fun W hSw => ?_) (S0) ?_
        · (try dsimp only at hSw); go_simp <;> with_reducible rfl
        try simp only [Act.put, List.setIfInBounds_toArray, List.set_cons_zero, List.set_cons_succ]
        refine any_take (i := 2) (some 43) (.int .i64 (k : Int)) rfl rfl (by kernel_rfl) (by kernel_rfl) (by kernel_rfl) (fun _ _ _ h => h) rfl (fun W hSw => ?_) (S0) ?_
        · (try dsimp only at hSw); go_simp <;> with_reducible rfl
        try simp only [Act.put, List.setIfInBounds_toArray, List.set_cons_zero, List.set_cons_succ]
        refine any_take (i := 3) (some 44) (.slice (some ⟨b, off, none⟩) l.length c) rfl rfl (by kernel_rfl) (by kernel_rfl) (by kernel_rfl) (fun _ _ _ h => h) rfl (fun W hSw => ?_) (S0) ?_
        · (try dsimp only at hSw); go_simp <;> with_reducible rfl
        try simp only [Act.put, List.setIfInBounds_toArray, List.set_cons_zero, List.set_cons_succ]
        refine any_take (i := 4) (some 45) (.pointer (some ⟨w2.heap.size, 0, none⟩)) rfl rfl (by kernel_rfl) (by kernel_rfl) (by kernel_rfl) (fun _ _ _ h => h) rfl (fun W hSw => ?_) (S0) ?_
        · (try dsimp only at hSw); go_simp <;> with_reducible rfl
        try simp only [Act.put, List.setIfInBounds_toArray, List.set_cons_zero, List.set_cons_succ]
        refine any_take (i := 5) (some 46) (.int .i64 (k : Int)) rfl rfl (by kernel_rfl) (by kernel_rfl) (by kernel_rfl) (fun _ _ _ h => h) rfl (fun W hSw => ?_) (S0) ?_
        · (try dsimp only at hSw); go_simp <;> with_reducible rfl
        try simp only [Act.put, List.setIfInBounds_toArray, List.set_cons_zero, List.set_cons_succ]
        refine any_take (i := 6) (some 47) (.pointer (some ⟨b, off + k * 3, none⟩)) rfl rfl (by kernel_rfl) (by kernel_rfl) (by kernel_rfl) (fun _ _ _ h => h) rfl (fun W hSw => ?_) (S0) ?_
        · (try dsimp only at hSw); go_simp <;> with_reducible rfl
        try simp only [Act.put, List.setIfInBounds_toArray, List.set_cons_zero, List.set_cons_succ]
        refine any_take (i := 7) (some 48) (.agg #[.int .i64 x.z, .slice x.AF x.F.length x.cF, .slice x.AB x.L.length x.cB]) rfl rfl (by kernel_rfl) (by kernel_rfl) (by kernel_rfl) (fun _ _ _ h => h) rfl (fun W hSw => ?_) (S0) ?_
        · (try dsimp only at hSw); go_simp <;> with_reducible rfl
        try simp only [Act.put, List.setIfInBounds_toArray, List.set_cons_zero, List.set_cons_succ]
        refine any_take (i := 8) (some 49) (.agg #[.int .i64 (k : Int), .int .i64 gb, .int .i64 gc]) rfl rfl (by kernel_rfl) (by kernel_rfl) (by kernel_rfl) (fun _ _ _ h => h) rfl (fun W hSw => ?_) (S0) ?_
        · (try dsimp only at hSw); go_simp <;> with_reducible rfl
        try simp only [Act.put, List.setIfInBounds_toArray, List.set_cons_zero, List.set_cons_succ]
        refine any_take (i := 9) (some 50) (.int .i64 p) rfl rfl (by kernel_rfl) (by kernel_rfl) (by kernel_rfl) (fun _ _ _ h => h) rfl (fun W hSw => ?_) (S0) ?_
        · (try dsimp only at hSw); go_simp <;> with_reducible rfl
        try simp only [Act.put, List.setIfInBounds_toArray, List.set_cons_zero, List.set_cons_succ]
        refine any_take (i := 10) (some 51) (.int .i64 size) rfl rfl (by kernel_rfl) (by kernel_rfl) (by kernel_rfl) (fun _ _ _ h => h) rfl (fun W hSw => ?_) (S0) ?_
        · (try dsimp only at hSw); go_simp <;> with_reducible rfl
        try simp only [Act.put, List.setIfInBounds_toArray, List.set_cons_zero, List.set_cons_succ]
        refine wpAnyH_ready (rs := [11]) (by kernel_rfl) (by simp) ?_
        refine AllReadyH.cons rfl (fun K hK => ?_) AllReadyH.nil
        go_simp
        go_at_call 35
        refine (fillS_any w4.drew B x (k : Int) gb gc p size HSX.out.1 HSX.out.2 (show B ≤ w4.drew.heap.size by simp; omega) (show CV w4.drew B x from ⟨HVX.out.f.below (Below.refl _ _).drew, HVX.out.b.below (Below.refl _ _).drew, HVX.out.lf, HVX.out.lb⟩) hb1' (by omega) hb3' (by omega) (by omega) (by omega)).mono ?_
        rintro e w5 ⟨A7, A8, c7, c8, rfl, hP7, hQ8, hb8⟩
        have hfll := fillL_len ⟨(k : Int), gb, gc⟩ p size x.L
        obtain ⟨E, hE⟩ : ∃ E, fillL ⟨(k : Int), gb, gc⟩ p size x.L = E := ⟨_, rfl⟩
        rw [hE] at hQ8 hfll ⊢
        have HE := Lib.hid hE; clear hE
        have hzd : w4.drew.heap.size = w4.heap.size := rfl
        have hb9 : Below w4.heap.size w4 w5 := ((Below.refl w4.heap.size w4).drew).trans hb8
        have hz5 := hb9.size
        have S5 : (fun W : World => W.cell? ⟨w2.heap.size, 0, none⟩ = some (.int .i64 (k : Int)) ∧ W.cell? ⟨w2.heap.size, 1, none⟩ = some (.int .i64 gb) ∧ W.cell? ⟨w2.heap.size, 2, none⟩ = some (.int .i64 gc) ∧ W.cell? ⟨b, off + k * 3, none⟩ = some (.int .i64 x.z) ∧ W.cell? ⟨b, off + k * 3 + 1, none⟩ = some (.slice x.AF x.F.length x.cF) ∧ W.cell? ⟨b, off + k * 3 + 2, none⟩ = some (.slice x.AB x.L.length x.cB)) w5 := ⟨(bold hb9 _ _ hlG4).trans S0.1, (bold hb9 _ _ hlG4).trans S0.2.1, (bold hb9 _ _ hlG4).trans S0.2.2.1, (bold hb9 _ _ hbw).trans S0.2.2.2.1, (bold hb9 _ _ hbw).trans S0.2.2.2.2.1, (bold hb9 _ _ hbw).trans S0.2.2.2.2.2⟩
        obtain ⟨g, cur, hA1, hg1, hg2, hH, hcs, hput⟩ := (HBA4.out.call hb9).put hk1l ⟨x.z, A7, x.F, c7, A8, E, c8⟩ (show w1.heap.size ≤ w4.heap.size by omega) hz5 (by omega) (OI.of_or hP7) (OI.of_or hQ8)
        dsimp only at hput
        have hzf : w5.heap.size ≤ (((w5.setCell ⟨g, k * 3, none⟩ (.int .i64 x.z)).setCell ⟨g, k * 3 + 1, none⟩ (.slice A7 x.F.length c7)).setCell ⟨g, k * 3 + 2, none⟩ (.slice A8 E.length c8)).heap.size := by simp only [size_set]; omega
        have HPUT := Lib.hid (hput.wider (show w.heap.size ≤ w0.heap.size by omega) hzf)
        have C5 := Lib.hid (((bthen C4.out hb9).setCell (p := ⟨g, k * 3, none⟩) (show w.heap.size ≤ g by omega) (.int .i64 x.z)).setCell (p := ⟨g, k * 3 + 1, none⟩) (show w.heap.size ≤ g by omega) (.slice A7 x.F.length c7) |>.setCell (p := ⟨g, k * 3 + 2, none⟩) (show w.heap.size ≤ g by omega) (.slice A8 E.length c8))
        have hgne1 : w.heap.size ≠ g := by omega
        have hgne2 : w2.heap.size ≠ g := by omega
        have hgne3 : b ≠ g := by omega
        have K6 := Lib.hid (has_far (has_far (has_far (has_call K4.out hb9) (p := ⟨g, k * 3, none⟩) hgne1 (.int .i64 x.z)) (p := ⟨g, k * 3 + 1, none⟩) hgne1 (.slice A7 x.F.length c7)) (p := ⟨g, k * 3 + 2, none⟩) hgne1 (.slice A8 E.length c8))
        have KG6 := Lib.hid (has_far (has_far (has_far (has_call KG4.out hb9) (p := ⟨g, k * 3, none⟩) hgne2 (.int .i64 x.z)) (p := ⟨g, k * 3 + 1, none⟩) hgne2 (.slice A7 x.F.length c7)) (p := ⟨g, k * 3 + 2, none⟩) hgne2 (.slice A8 E.length c8))
        have y0 := has_cell hH (k * 3) (Array.getElem?_eq_getElem (by omega)); have y1 := has_cell hH (k * 3 + 1) (Array.getElem?_eq_getElem (by omega)); have y2 := has_cell hH (k * 3 + 2) (Array.getElem?_eq_getElem (by omega))
        have f0 := has_free hH (k * 3); have f1 := has_free hH (k * 3 + 1); have f2 := has_free hH (k * 3 + 2)
        have hgl := has_lt hH
        clear hput hH hP7 hQ8 hzd
        generalize hu0 : cur[k * 3] = u0 at y0
        generalize hu1 : cur[k * 3 + 1] = u1 at y1
        generalize hu2 : cur[k * 3 + 2] = u2 at y2
        clear hu0 hu1 hu2
        subst hA1
        go_wp2_with fail
        refine hK.out _ _ S5 (fun _ => ?_)
        clear hK K
        try simp only [Act.put, List.setIfInBounds_toArray, List.set_cons_zero, List.set_cons_succ]
        refine any_take (i := 12) (some 53) (.pointer (some ⟨g, k * 3, none⟩)) rfl rfl (by kernel_rfl) (by kernel_rfl) (by kernel_rfl) (fun _ _ _ h => h) rfl (fun W hSw => ?_) (S5) ?_
        · (try dsimp only at hSw); go_simp <;> with_reducible rfl
        try simp only [Act.put, List.setIfInBounds_toArray, List.set_cons_zero, List.set_cons_succ]
        refine wpAnyH_ready (rs := [13]) (by kernel_rfl) (by simp) ?_
        refine AllReadyH.cons rfl (fun K hK => ?_) AllReadyH.nil
        go_simp
        have S6 : (fun W : World => W.cell? ⟨w2.heap.size, 0, none⟩ = some (.int .i64 (k : Int)) ∧ W.cell? ⟨w2.heap.size, 1, none⟩ = some (.int .i64 gb) ∧ W.cell? ⟨w2.heap.size, 2, none⟩ = some (.int .i64 gc) ∧ W.cell? ⟨b, off + k * 3, none⟩ = some (.int .i64 x.z) ∧ W.cell? ⟨b, off + k * 3 + 1, none⟩ = some (.slice x.AF x.F.length x.cF) ∧ W.cell? ⟨b, off + k * 3 + 2, none⟩ = some (.slice x.AB x.L.length x.cB)) (((w5.setCell ⟨g, k * 3, none⟩ (.int .i64 x.z)).setCell ⟨g, k * 3 + 1, none⟩ (.slice A7 x.F.length c7)).setCell ⟨g, k * 3 + 2, none⟩ (.slice A8 E.length c8)) := ⟨(cell_farN hgne2 _ _ _ _ _ _ _).trans S5.1, (cell_farN hgne2 _ _ _ _ _ _ _).trans S5.2.1, (cell_farN hgne2 _ _ _ _ _ _ _).trans S5.2.2.1, (cell_farN hgne3 _ _ _ _ _ _ _).trans S5.2.2.2.1, (cell_farN hgne3 _ _ _ _ _ _ _).trans S5.2.2.2.2.1, (cell_farN hgne3 _ _ _ _ _ _ _).trans S5.2.2.2.2.2⟩
        refine hK.out _ _ S6 (fun _ => ?_)
        clear hK K y0 y1 y2 f0 f1 f2
        try simp only [Act.put, List.setIfInBounds_toArray, List.set_cons_zero, List.set_cons_succ]
        refine wpAnyH_done (by kernel_rfl) ?_ _
        clear S0 S5 S6
        go_upto_region 7 with (fail)
        generalize hX : (((w5.setCell ⟨g, k * 3, none⟩ (.int .i64 x.z)).setCell ⟨g, k * 3 + 1, none⟩ (.slice A7 x.F.length c7)).setCell ⟨g, k * 3 + 2, none⟩ (.slice A8 E.length c8)) = w6 at *
        clear hX hb9
        have hk6 := K6.out; have hg6 := KG6.out
        have hlk6 := has_lt hk6; have hlg6 := has_lt hg6
        have S0 : (fun W : World => W.cell? ⟨w2.heap.size, 0, none⟩ = some (.int .i64 (k : Int)) ∧ W.cell? ⟨w2.heap.size, 1, none⟩ = some (.int .i64 gb)) w6.drew := ⟨has_cell hg6 0 rfl, has_cell hg6 1 rfl⟩
        refine wp_region_held_drew (S := (fun W : World => W.cell? ⟨w2.heap.size, 0, none⟩ = some (.int .i64 (k : Int)) ∧ W.cell? ⟨w2.heap.size, 1, none⟩ = some (.int .i64 gb))) (by kernel_rfl) S0 (fun _ => ?_)
        refine any_take (i := 0) (some 54) (.slice (some ⟨g, 0, none⟩) l1.length c1) rfl rfl (by kernel_rfl) (by kernel_rfl) (by kernel_rfl) (fun _ _ _ h => h) rfl (fun W hSw => ?_) (S0) ?_
        · (try dsimp only at hSw); go_simp <;> with_reducible rfl
        try simp only [Act.put, List.setIfInBounds_toArray, List.set_cons_zero, List.set_cons_succ]
        refine any_take (i := 1) (some 55) (.pointer (some ⟨w2.heap.size, 0, none⟩)) rfl rfl (by kernel_rfl) (by kernel_rfl) (by kernel_rfl) (fun _ _ _ h => h) rfl (fun W hSw => ?_) (S0) ?_
        · (try dsimp only at hSw); go_simp <;> with_reducible rfl
        try simp only [Act.put, List.setIfInBounds_toArray, List.set_cons_zero, List.set_cons_succ]
        refine any_take (i := 2) (some 56) (.int .i64 (k : Int)) rfl rfl (by kernel_rfl) (by kernel_rfl) (by kernel_rfl) (fun _ _ _ h => h) rfl (fun W hSw => ?_) (S0) ?_
        · (try dsimp only at hSw); go_simp <;> with_reducible rfl
        try simp only [Act.put, List.setIfInBounds_toArray, List.set_cons_zero, List.set_cons_succ]
        refine any_take (i := 3) (some 57) (.pointer (some ⟨w2.heap.size, 1, none⟩)) rfl rfl (by kernel_rfl) (by kernel_rfl) (by kernel_rfl) (fun _ _ _ h => h) rfl (fun W hSw => ?_) (S0) ?_
        · (try dsimp only at hSw); go_simp <;> with_reducible rfl
        try simp only [Act.put, List.setIfInBounds_toArray, List.set_cons_zero, List.set_cons_succ]
        refine any_take (i := 4) (some 58) (.int .i64 gb) rfl rfl (by kernel_rfl) (by kernel_rfl) (by kernel_rfl) (fun _ _ _ h => h) rfl (fun W hSw => ?_) (S0) ?_
        · (try dsimp only at hSw); go_simp <;> with_reducible rfl
        try simp only [Act.put, List.setIfInBounds_toArray, List.set_cons_zero, List.set_cons_succ]
        refine any_take (i := 5) (some 59) (.int .i64 size) rfl rfl (by kernel_rfl) (by kernel_rfl) (by kernel_rfl) (fun _ _ _ h => h) rfl (fun W hSw => ?_) (S0) ?_
        · (try dsimp only at hSw); go_simp <;> with_reducible rfl
        try simp only [Act.put, List.setIfInBounds_toArray, List.set_cons_zero, List.set_cons_succ]
        refine any_take (i := 6) (some 60) (.agg #[.int .i64 (k : Int), .int .i64 gb, .int .i64 size]) rfl rfl (by kernel_rfl) (by kernel_rfl) (by kernel_rfl) (fun _ _ _ h => h) rfl (fun W hSw => ?_) (S0) ?_
        · (try dsimp only at hSw); go_simp <;> with_reducible rfl
        try simp only [Act.put, List.setIfInBounds_toArray, List.set_cons_zero, List.set_cons_succ]
        refine any_take (i := 7) (some 6) (.slice (some ⟨g, 0, none⟩) l1.length c1) rfl rfl (by kernel_rfl) (by kernel_rfl) (by kernel_rfl) (fun _ _ _ h => h) rfl (fun W hSw => ?_) (S0) ?_
        · (try dsimp only at hSw); go_simp <;> with_reducible rfl
        try simp only [Act.put, List.setIfInBounds_toArray, List.set_cons_zero, List.set_cons_succ]
        refine wpAnyH_ready (rs := [8]) (by kernel_rfl) (by simp) ?_
        refine AllReadyH.cons rfl (fun K hK => ?_) AllReadyH.nil
        have y0 := has_cell hk6 0 rfl; have y1 := has_cell hk6 1 rfl; have y2 := has_cell hk6 2 rfl; have f0 := has_free hk6 0; have f1 := has_free hk6 1; have f2 := has_free hk6 2
        go_simp
        have hne7 : w2.heap.size ≠ w.heap.size := by omega
        have S7 : (fun W : World => W.cell? ⟨w2.heap.size, 0, none⟩ = some (.int .i64 (k : Int)) ∧ W.cell? ⟨w2.heap.size, 1, none⟩ = some (.int .i64 gb)) (((w6.setCell ⟨w.heap.size, 0, none⟩ (.int .i64 (k : Int))).setCell ⟨w.heap.size, 1, none⟩ (.int .i64 gb)).setCell ⟨w.heap.size, 2, none⟩ (.int .i64 size)).drew := ⟨(cell_farN hne7 _ _ _ _ _ _ _).trans S0.1, (cell_farN hne7 _ _ _ _ _ _ _).trans S0.2⟩
        have X1 := Lib.hid (has_drew (set3 (u := .int .i64 (k : Int)) (v := .int .i64 gb) (x := .int .i64 size) hk6))
        have hpd : BankAt (((w6.setCell ⟨w.heap.size, 0, none⟩ (.int .i64 (k : Int))).setCell ⟨w.heap.size, 1, none⟩ (.int .i64 gb)).setCell ⟨w.heap.size, 2, none⟩ (.int .i64 size)).drew w.heap.size w6.heap.size (some ⟨g, 0, none⟩) (l1.set k ⟨x.z, A7, x.F, c7, A8, E, c8⟩) := (bank_store3 HPUT.out hk6 (by decide) (by decide) (by decide) (.int .i64 (k : Int)) (.int .i64 gb) (.int .i64 size)).within (Within.of_below (lo := 0) (hi := 0) (Below.refl _ _).drew) (.inr (Nat.zero_le _))
        have X2 := Lib.hid hpd
        have X3 := Lib.hid (((((C5.out).setCell (p := ⟨w.heap.size, 0, none⟩) (Nat.le_refl _) (.int .i64 (k : Int))).setCell (p := ⟨w.heap.size, 1, none⟩) (Nat.le_refl _) (.int .i64 gb)).setCell (p := ⟨w.heap.size, 2, none⟩) (Nat.le_refl _) (.int .i64 size)).drew)
        refine hK.out _ _ S7 (fun _ => ?_)
        clear hK K y0 y1 y2 f0 f1 f2 hpd
        try simp only [Act.put, List.setIfInBounds_toArray, List.set_cons_zero, List.set_cons_succ]
        refine any_take (i := 9) (some 8) (.bool true) rfl rfl (by kernel_rfl) (by kernel_rfl) (by kernel_rfl) (fun _ _ _ h => h) rfl (fun W hSw => ?_) (S7) ?_
        · (try dsimp only at hSw); go_simp <;> with_reducible rfl
        try simp only [Act.put, List.setIfInBounds_toArray, List.set_cons_zero, List.set_cons_succ]
        refine wpAnyH_done (by kernel_rfl) ?_ _
        go_wp2
        have g0' := has_cell X1.out 0 rfl; have g1' := has_cell X1.out 1 rfl; have g2' := has_cell X1.out 2 rfl
        have hfin : bkPt l p size ((l1.set k ⟨x.z, A7, x.F, c7, A8, E, c8⟩).map cont) ⟨(k : Int), gb, size⟩ true := by
          left
          refine ⟨⟨by rw [HFIT.out], ⟨hp1, hp2⟩, HNG.out⟩, ⟨k, x, HX.out, by rw [HFIT.out], ?_⟩, by rw [HFIT.out], rfl⟩
          rw [List.map_set, HCT1.out, HFIT.out, HE.out]; rfl
        have hsmf : SmallK (l1.set k ⟨x.z, A7, x.F, c7, A8, E, c8⟩) := small_set HSM1.out k ⟨HSX.out.1, by dsimp only; omega⟩
        exact bodyPost_ret (v := .tuple #[.slice (some ⟨g, 0, none⟩) l1.length c1, .agg #[.int .i64 (k : Int), .int .i64 gb, .int .i64 size], .bool true]) (by simp [results, Try.results8, go_sem, g0', g1', g2']) rfl ⟨some ⟨g, 0, none⟩, c1, l1.set k ⟨x.z, A7, x.F, c7, A8, E, c8⟩, ⟨(k : Int), gb, size⟩, true, by simp, hfin, hsmf, X2.out.wider (Nat.le_refl _) (by show w6.heap.size ≤ (((w6.setCell _ _).setCell _ _).setCell _ _).heap.size; simp only [size_set]; exact Nat.le_refl _), X3.out⟩
end Go.Proofs.Ythfpjfekemelaaa
