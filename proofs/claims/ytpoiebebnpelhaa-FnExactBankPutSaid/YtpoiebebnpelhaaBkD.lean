/- Chapter 2: the model's BankFit, MostOf. -/
import Derived.Test.YtpoiebebnpelhaaBkC
namespace Go.Proofs.Ytpoiebebnpelhaa
open Go.RowKit
set_option linter.unusedVariables false

set_option maxRecDepth 100000 in
set_option maxHeartbeats 1000000 in
theorem bfitS_any (w : World) (B : Nat) (A : Option Addr) (n c : Nat) (size : Int) (l : List Cl) (hn : n = l.length) (hl : l.length ≤ maxLen) (hB : B ≤ w.heap.size) (hS : KL w B A l) (hV : ∀ x ∈ l, CV w B x) :
    Calls Try.prog 17 #[.slice A n c, .int .i64 size] w (FitAns (fitV (bgO l) size) w) := by
  subst hn
  have HS := Lib.hid hS; have HV := Lib.hid hV; clear hS hV
  obtain ⟨G, hG⟩ : ∃ G, bgO l = G := ⟨_, rfl⟩
  have hgl := bgO_len l
  rw [hG] at hgl ⊢
  have HG := Lib.hid hG; clear hG
  go_enter Try.func17, Try.ntmps17
  go_wp2_with fail
  generalize hW0 : w.alloc (.cells #[.int .i64 0, .int .i64 0, .int .i64 0] 34) = w0
  have b0 : Below w.heap.size w w0 := by rw [← hW0]; exact balloc _ _
  have k0 : Has w0 (w.heap.size) 34 #[.int .i64 0, .int .i64 0, .int .i64 0] := by
    rw [← hW0]; exact has_new _ _ _
  clear hW0
  have K0 := Lib.hid k0; clear k0
  have hz0 := b0.size
  refine (bgS_any w0 B A l.length c l rfl hl (by omega) (HS.out.later hB b0) (fun x hx => (HV.out x hx).later hB b0)).mono ?_
  rintro e w1 hans
  rw [HG.out] at hans
  obtain ⟨A', c', rfl, hor, hb1⟩ := hans
  have c1 := bthen b0 hb1
  have hz1 := hb1.size
  have HOR := Lib.hid hor.gp; clear hor
  have k1 := has_call K0.out hb1
  have K1 := Lib.hid k1; clear k1
  go_wp2_with fail
  refine (leastS_any w1 A' _ c' w1.heap.size G size rfl (by unfold maxLen; omega) (Nat.le_refl _) HOR.out).mono ?_
  rintro e w2 ⟨rfl, hb2⟩
  have c2 := bthen c1 hb2
  have k2 := has_call K1.out hb2
  have HOR2 := Lib.hid (HOR.out.later (Nat.le_refl _) hb2)
  have y0 := has_cell k2 0 rfl
  have y1 := has_cell k2 1 rfl
  have y2 := has_cell k2 2 rfl
  have f0 := has_free k2 0
  have f1 := has_free k2 1
  have f2 := has_free k2 2
  have hz2 := c2.size
  have hz12 := hb2.size
  have hk2 := has_lt k2
  have HK2 := Lib.hid k2; have C2 := Lib.hid c2; clear k2 c2 hb2 c1 hb1
  by_cases hs : 1 ≤ size
  · by_cases hneg : leastI size G < 0
    · have hv := fitV_no (l := G) (size := size) (by unfold leastP; rw [if_pos hs]; exact hneg)
      have HFV := Lib.hid hv; clear hv
      have X1 := Lib.hid (set3 (u := .int .i64 0) (v := .int .i64 0) (x := .int .i64 0) HK2.out)
      have FIN := Lib.hid (show Below w.heap.size w (((w2.setCell ⟨w.heap.size, 0, none⟩ (.int .i64 0)).setCell ⟨w.heap.size, 1, none⟩ (.int .i64 0)).setCell ⟨w.heap.size, 2, none⟩ (.int .i64 0)) from ((C2.out.setCell (Nat.le_refl _) _).setCell (Nat.le_refl _) _).setCell (Nat.le_refl _) _)
      generalize leastI size G = lp at *
      go_wp2_with fail
      have g0 := has_cell X1.out 0 rfl
      have g1 := has_cell X1.out 1 rfl
      have g2 := has_cell X1.out 2 rfl
      exact bodyPost_ret (v := .tuple #[.agg #[.int .i64 0, .int .i64 0, .int .i64 0], .bool false]) (by simp [results, Try.results17, go_sem, g0, g1, g2]) rfl ⟨by rw [HFV.out], FIN.out⟩
    · obtain ⟨k, ⟨x0, x1, x2⟩, hkq, hx, hv⟩ := fitV_yes (l := G) (size := size) (by unfold leastP; rw [if_pos hs]; exact hneg)
      unfold leastP at hkq
      rw [if_pos hs] at hkq
      have HFV := Lib.hid hv; clear hv
      have hkl : k < G.length := (List.getElem?_eq_some_iff.1 hx).1
      obtain ⟨b, off, g', rfl, hbB, hx', hc0, hc1, hc2⟩ := HOR2.out.at_ hkl
      obtain rfl : g' = ⟨x0, x1, x2⟩ := by rw [hx] at hx'; injection hx' with hx'; exact hx'.symm
      dsimp only at hc0 hc1 hc2
      clear hx hx'
      have hbw : b < w2.heap.size := by omega
      have X1 := Lib.hid (set3 (u := .int .i64 x0) (v := .int .i64 x1) (x := .int .i64 x2) HK2.out)
      have FIN := Lib.hid (show Below w.heap.size w (((w2.setCell ⟨w.heap.size, 0, none⟩ (.int .i64 x0)).setCell ⟨w.heap.size, 1, none⟩ (.int .i64 x1)).setCell ⟨w.heap.size, 2, none⟩ (.int .i64 x2)) from ((C2.out.setCell (Nat.le_refl _) _).setCell (Nat.le_refl _) _).setCell (Nat.le_refl _) _)
      rw [hkq]
      clear hkq hneg
      go_wp2_with fail
      have g0 := has_cell X1.out 0 rfl
      have g1 := has_cell X1.out 1 rfl
      have g2 := has_cell X1.out 2 rfl
      exact bodyPost_ret (v := .tuple #[.agg #[.int .i64 x0, .int .i64 x1, .int .i64 x2], .bool true]) (by simp [results, Try.results17, go_sem, g0, g1, g2]) rfl ⟨by rw [HFV.out], FIN.out⟩
  · have hv := fitV_no (l := G) (size := size) (by unfold leastP; rw [if_neg hs]; omega)
    have HFV := Lib.hid hv; clear hv
    have X1 := Lib.hid (set3 (u := .int .i64 0) (v := .int .i64 0) (x := .int .i64 0) HK2.out)
    have FIN := Lib.hid (show Below w.heap.size w (((w2.setCell ⟨w.heap.size, 0, none⟩ (.int .i64 0)).setCell ⟨w.heap.size, 1, none⟩ (.int .i64 0)).setCell ⟨w.heap.size, 2, none⟩ (.int .i64 0)) from ((C2.out.setCell (Nat.le_refl _) _).setCell (Nat.le_refl _) _).setCell (Nat.le_refl _) _)
    generalize leastI size G = lp at *
    go_wp2_with fail
    have g0 := has_cell X1.out 0 rfl
    have g1 := has_cell X1.out 1 rfl
    have g2 := has_cell X1.out 2 rfl
    exact bodyPost_ret (v := .tuple #[.agg #[.int .i64 0, .int .i64 0, .int .i64 0], .bool false]) (by simp [results, Try.results17, go_sem, g0, g1, g2]) rfl ⟨by rw [HFV.out], FIN.out⟩

set_option maxRecDepth 100000 in
set_option maxHeartbeats 1000000 in
theorem mostS_any (w : World) (B : Nat) (A : Option Addr) (n c : Nat) (size : Int) (l : List Cl) (hn : n = l.length) (hl : l.length ≤ maxLen) (hB : B ≤ w.heap.size) (hS : KL w B A l) (hV : ∀ x ∈ l, CV w B x) :
    Calls Try.prog 25 #[.slice A n c, .int .i64 size] w fun e w' => e = .returned (.int .i64 (mostV size (bgO l))) ∧ Below w.heap.size w w' := by
  subst hn
  have HS := Lib.hid hS; have HV := Lib.hid hV; clear hS hV
  have hbd := fun g hg => bgO_bd (l := l) g hg
  have hgl := bgO_len l
  obtain ⟨G, hG⟩ : ∃ G, bgO l = G := ⟨_, rfl⟩
  rw [hG] at hbd hgl ⊢
  have HBD := Lib.hid hbd; have HG := Lib.hid hG; clear hbd hG
  go_enter Try.func25, Try.ntmps25
  go_wp2_with fail
  refine (bgS_any w B A l.length c l rfl hl hB HS.out HV.out).mono ?_
  rintro e w1 hans
  rw [HG.out] at hans
  obtain ⟨A', c', rfl, hor, hb1⟩ := hans
  have HOR := Lib.hid hor.gp; have C1 := Lib.hid hb1; clear hor
  have hz1 := hb1.size
  clear hb1
  by_cases hs : size < 1
  · have t1 : decide (0 < size) = false := by simp; omega
    have hm : mostV size G = 0 := if_pos hs
    have HM := Lib.hid hm; clear hm
    by_cases h0 : G.length = 0
    · have hgz : G = [] := List.eq_nil_of_length_eq_zero h0
      subst hgz
      clear h0
      go_wp2
      go_loopw [6, 7] (fun mv i wr => mv = .int .i64 0 ∧ i = .int .i64 0 ∧ wr = w1) (fun _ _ _ => 0)
      case atStart => exact ⟨rfl, rfl, rfl⟩
      case round =>
        obtain ⟨rfl, rfl, rfl⟩ := hrel
        go_wp2
        go_ret
        exact ⟨ret_int HM.out.symm, C1.out⟩
    · go_wp2
      go_loopw [6, 7] (fun mv i wr => mv = .int .i64 0 ∧ i = .int .i64 0 ∧ wr = w1) (fun _ _ _ => 0)
      case atStart => exact ⟨rfl, rfl, rfl⟩
      case round =>
        obtain ⟨rfl, rfl, rfl⟩ := hrel
        have hlt : 0 < G.length := by omega
        have hlt2 : decide (0 < G.length) = true := by simpa using hlt
        have hlt3 : (0 : Int) < (G.length : Int) := by omega
        go_wp2
        go_ret
        exact ⟨ret_int HM.out.symm, C1.out⟩
  · have t1 : decide (0 < size) = true := by simp; omega
    have hm : mostV size G = sumQ size G := if_neg hs
    have HM := Lib.hid hm; clear hm
    go_wp2_with fail
    go_loopw [6, 7] (fun mv i wr => ∃ k : Nat, k ≤ G.length ∧ i = .int .i64 k ∧ mv = .int .i64 (sumQ size (G.take k)) ∧ Below w1.heap.size w1 wr) (fun _ i _ => G.length - (intOf i).toNat)
    case atStart => exact ⟨0, Nat.zero_le _, rfl, rfl, Below.refl _ _⟩
    case round =>
      obtain ⟨k, hk, rfl, rfl, hb⟩ := hrel
      have hsz := hb.size
      have hsb := sumQ_bd (size := size) (by omega) (fun g hg => (HBD.out g hg).2.2) k hk
      have HBB := Lib.hid hb
      by_cases hlt : k < G.length
      · obtain ⟨b, off, ⟨g0, g1, g2⟩, rfl, hbB, hx, hc0, hc1, hc2⟩ := (HOR.out.later (Nat.le_refl _) hb).at_ hlt
        dsimp only at hc0 hc1 hc2
        have hgb := (HBD.out _ (List.mem_of_getElem? hx)).2.2
        dsimp only at hgb
        have hsu := sumQ_succ (size := size) hx
        dsimp only at hsu
        have hqb := quo_bd (a := g2) (show 1 ≤ size by omega) (by omega)
        have HSU := Lib.hid hsu; clear hsu hx hb
        have hbw : b < wr.heap.size := by omega
        have hq2 : IntKind.i64.wrap (g2.tdiv size) = g2 / size := IntWalk.i64_quo _ _ (by omega)
        have hq0 : (size == 0) = false := by simp; omega
        have hq1 : ¬ size = 0 := by omega
        generalize hsq : sumQ size (G.take k) = sq at *
        have HSQ := Lib.hid hsq; clear hsq
        obtain ⟨hgb1, hgb2⟩ := hgb; obtain ⟨hqb1, hqb2⟩ := hqb; obtain ⟨hsb1, hsb2⟩ := hsb
        generalize hqq : g2 / size = q at *
        have HQQ := Lib.hid hqq; clear hqq
        go_wp2
        go_roundw
        case rel => exact ⟨k + 1, by omega, by go_num, by rw [HSU.out], HBB.out⟩
        case measure => simp [intOf]; omega
      · go_wp2
        go_ret
        have hkl : k = G.length := by omega
        refine ⟨ret_int (by rw [HM.out, hkl, List.take_length]), C1.out.trans (HBB.out.mono hz1)⟩
end Go.Proofs.Ytpoiebebnpelhaa
