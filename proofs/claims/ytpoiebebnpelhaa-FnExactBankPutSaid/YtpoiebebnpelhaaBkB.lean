/- Chapter 2: the program's BankFit, MostOf. -/
import Derived.Test.YtpoiebebnpelhaaBkA
import Derived.IntWalk
namespace Go.Proofs.Ytpoiebebnpelhaa
open Go.RowKit
set_option linter.unusedVariables false

set_option maxRecDepth 100000 in
set_option maxHeartbeats 1000000 in
theorem bfitI_any (w : World) (B : Nat) (A : Option Addr) (n c : Nat) (size : Int) (l : List Cl) (hn : n = l.length) (hl : l.length ≤ maxLen) (hB : B ≤ w.heap.size) (hS : KL w B A l) (hV : ∀ x ∈ l, CV w B x) :
    Calls Try.prog 18 #[.slice A n c, .int .i64 size] w (FitAns (fitV (bgO l) size) w) := by
  subst hn
  have HS := Lib.hid hS; have HV := Lib.hid hV; clear hS hV
  obtain ⟨⟨⟨a, b, d⟩, f⟩, hv⟩ : ∃ v, fitV (bgO l) size = v := ⟨_, rfl⟩
  have HFV := Lib.hid hv; clear hv
  rw [HFV.out]
  go_enter Try.func18, Try.ntmps18
  go_wp2_with fail
  generalize hW0 : w.alloc (.cells #[.int .i64 0, .int .i64 0, .int .i64 0] 34) = w0
  have b0 : Below w.heap.size w w0 := by rw [← hW0]; exact balloc _ _
  have k0 : Has w0 w.heap.size 34 #[.int .i64 0, .int .i64 0, .int .i64 0] := by rw [← hW0]; exact has_new _ _ _
  clear hW0
  have K0 := Lib.hid k0; clear k0
  have hz0 := b0.size
  refine (bgI_any w0 B A l.length c l rfl hl (by omega) (HS.out.later hB b0) (fun x hx => (HV.out x hx).later hB b0)).mono ?_
  rintro e w1 ⟨A', c', rfl, hor, hb1⟩
  have c1 := bthen b0 hb1
  have hz1 := hb1.size
  have HOR := Lib.hid hor.gp; clear hor
  have hgl := bgO_len l
  have k1 := has_call K0.out hb1
  have K1 := Lib.hid k1; clear k1
  go_wp2_with fail
  refine (gapAt_any w1 A' _ c' w1.heap.size (bgO l) size rfl (by unfold maxLen; omega) (Nat.le_refl _) HOR.out).mono ?_
  rintro e w2 ⟨rfl, hb2⟩
  rw [HFV.out]
  have c2 := bthen c1 hb2
  have k2 := has_call K1.out hb2
  have y0 := has_cell k2 0 rfl
  have y1 := has_cell k2 1 rfl
  have y2 := has_cell k2 2 rfl
  have f0 := has_free k2 0
  have f1 := has_free k2 1
  have f2 := has_free k2 2
  have hz2 := c2.size
  have hk2 := has_lt k2
  have X1 := Lib.hid (set3 (u := .int .i64 a) (v := .int .i64 b) (x := .int .i64 d) k2)
  have FIN := Lib.hid (show Below w.heap.size w (((w2.setCell ⟨w.heap.size, 0, none⟩ (.int .i64 a)).setCell ⟨w.heap.size, 1, none⟩ (.int .i64 b)).setCell ⟨w.heap.size, 2, none⟩ (.int .i64 d)) from ((c2.setCell (Nat.le_refl _) _).setCell (Nat.le_refl _) _).setCell (Nat.le_refl _) _)
  clear k2
  go_wp2_with fail
  have g0 := has_cell X1.out 0 rfl
  have g1 := has_cell X1.out 1 rfl
  have g2 := has_cell X1.out 2 rfl
  exact bodyPost_ret (v := .tuple #[.agg #[.int .i64 a, .int .i64 b, .int .i64 d], .bool f]) (by simp [results, Try.results18, go_sem, g0, g1, g2]) rfl ⟨rfl, FIN.out⟩

/-- how many boxes of a size the gaps take -/
def sumQ (size : Int) (G : List Gp) : Int := (G.map fun g => g.size / size).sum
def mostV (size : Int) (G : List Gp) : Int := if size < 1 then 0 else sumQ size G
theorem sumQ_succ {size : Int} {G : List Gp} {k : Nat} {g : Gp} (h : G[k]? = some g) : sumQ size (G.take (k + 1)) = sumQ size (G.take k) + g.size / size := by
  unfold sumQ; rw [List.take_add_one, h]; simp
theorem bgL_bd : ∀ (l : List Cl) (i : Int), (∀ x ∈ l, ColOk x.z x.F x.L) → ∀ g ∈ bgL l i, 0 ≤ g.low ∧ g.low ≤ 24 ∧ 1 ≤ g.size ∧ g.size ≤ 24
  | [], _, _, g, hg => by simp [bgL] at hg
  | x :: r, i, h, g, hg => by
    have hok := h x List.mem_cons_self
    simp only [bgL, List.mem_append] at hg
    rcases hg with hg | hg
    · rw [gapsL_num x.F 0 i x.L] at hg
      obtain ⟨g', hg', rfl⟩ := List.mem_map.1 hg
      exact gapsO_bd (z := x.z) g' (by rw [gapsO_ok hok]; exact hg')
    · exact bgL_bd r (i + 1) (fun y hy => h y (List.mem_cons_of_mem _ hy)) g hg
theorem bgO_bd {l : List Cl} : ∀ g ∈ bgO l, 0 ≤ g.low ∧ g.low ≤ 24 ∧ 1 ≤ g.size ∧ g.size ≤ 24 := fun g hg => by
  by_cases h : BankP l
  · rw [bgO_ok h] at hg; exact bgL_bd l 0 h.2.1 g hg
  · rw [bgO_no h] at hg; cases hg
theorem quo_bd {a size : Int} (h1 : 1 ≤ size) (h2 : 0 ≤ a) : 0 ≤ a / size ∧ a / size ≤ a := ⟨Int.ediv_nonneg h2 (by omega), Int.ediv_le_self _ h2⟩
theorem sumQ_bd {size : Int} (hs : 1 ≤ size) {G : List Gp} (hb : ∀ g ∈ G, 1 ≤ g.size ∧ g.size ≤ 24) : ∀ k, k ≤ G.length → 0 ≤ sumQ size (G.take k) ∧ sumQ size (G.take k) ≤ 24 * k
  | 0, _ => by simp [sumQ]
  | k + 1, hk => by
    have h := List.getElem?_eq_getElem (l := G) (i := k) (by omega)
    have ih := sumQ_bd hs hb k (by omega)
    have hg := hb _ (List.mem_of_getElem? h)
    have hq := quo_bd hs (a := (G[k]'(by omega)).size) (by omega)
    rw [sumQ_succ h]
    push_cast; omega

set_option maxRecDepth 100000 in
set_option maxHeartbeats 1000000 in
theorem mostI_any (w : World) (B : Nat) (A : Option Addr) (n c : Nat) (size : Int) (l : List Cl) (hn : n = l.length) (hl : l.length ≤ maxLen) (hB : B ≤ w.heap.size) (hS : KL w B A l) (hV : ∀ x ∈ l, CV w B x) :
    Calls Try.prog 26 #[.slice A n c, .int .i64 size] w fun e w' => e = .returned (.int .i64 (mostV size (bgO l))) ∧ Below w.heap.size w w' := by
  subst hn
  have HS := Lib.hid hS; have HV := Lib.hid hV; clear hS hV
  by_cases hs : size < 1
  · have t1 : decide (size < 1) = true := by simpa using hs
    have hm : mostV size (bgO l) = 0 := if_pos hs
    rw [hm]; clear hm
    go_enter Try.func26, Try.ntmps26
    go_wp2_with fail
    go_ret
    exact ⟨rfl, Below.refl _ _⟩
  · have t1 : decide (size < 1) = false := by simpa using hs
    have hm : mostV size (bgO l) = sumQ size (bgO l) := if_neg hs
    rw [hm]; clear hm
    have hbd := fun g hg => bgO_bd (l := l) g hg
    have hgl := bgO_len l
    obtain ⟨G, hG⟩ : ∃ G, bgO l = G := ⟨_, rfl⟩
    rw [hG] at hbd hgl ⊢
    have HBD := Lib.hid hbd; have HG := Lib.hid hG; clear hbd hG
    go_enter Try.func26, Try.ntmps26
    go_wp2_with fail
    refine (bgI_any w B A l.length c l rfl hl hB HS.out HV.out).mono ?_
    rintro e w1 hans
    rw [HG.out] at hans
    obtain ⟨A', c', rfl, hor, hb1⟩ := hans
    have HOR := Lib.hid hor.gp; have C1 := Lib.hid hb1; clear hor
    have hz1 := hb1.size
    clear hb1
    go_wp2_with fail
    go_loopw [5, 13] (fun mv i wr => ∃ k : Nat, k ≤ G.length ∧ i = .int .i64 k ∧ mv = .int .i64 (sumQ size (G.take k)) ∧ Below w1.heap.size w1 wr) (fun _ i _ => G.length - (intOf i).toNat)
    case atStart => exact ⟨0, Nat.zero_le _, rfl, rfl, Below.refl _ _⟩
    case round =>
      obtain ⟨k, hk, rfl, rfl, hb⟩ := hrel
      have hsz := hb.size
      have hsb := sumQ_bd (size := size) (by omega) (fun g hg => (HBD.out g hg).2.2) k hk
      have HBB := Lib.hid hb
      by_cases hlt : k < G.length
      · obtain ⟨b, off, ⟨g0, g1, g2⟩, rfl, hbB, hx, hc0, hc1, hc2⟩ := (HOR.out.later (Nat.le_refl _) hb).at_ hlt
        dsimp only at hc0 hc1 hc2
        have hgb := (HBD.out _ (List.mem_of_getElem? hx)).2.2
        dsimp only at hgb
        have hsu := sumQ_succ (size := size) hx
        dsimp only at hsu
        have hqb := quo_bd (a := g2) (show 1 ≤ size by omega) (by omega)
        have HSU := Lib.hid hsu; clear hsu hx hb
        have hbw : b < wr.heap.size := by omega
        have hq2 : IntKind.i64.wrap (g2.tdiv size) = g2 / size := IntWalk.i64_quo _ _ (by omega)
        have hq0 : (size == 0) = false := by simp; omega
        have hq1 : ¬ size = 0 := by omega
        generalize hsq : sumQ size (G.take k) = sq at *
        have HSQ := Lib.hid hsq; clear hsq
        obtain ⟨hgb1, hgb2⟩ := hgb; obtain ⟨hqb1, hqb2⟩ := hqb; obtain ⟨hsb1, hsb2⟩ := hsb
        generalize hqq : g2 / size = q at *
        have HQQ := Lib.hid hqq; clear hqq
        go_wp2
        go_roundw
        case rel => exact ⟨k + 1, by omega, by go_num, by rw [HSU.out], HBB.out.alloc hsz _⟩
        case measure => simp [intOf]; omega
      · go_wp2
        go_ret
        have hkl : k = G.length := by omega
        refine ⟨ret_int (by rw [hkl, List.take_length]), C1.out.trans (HBB.out.mono hz1)⟩
end Go.Proofs.Ytpoiebebnpelhaa
