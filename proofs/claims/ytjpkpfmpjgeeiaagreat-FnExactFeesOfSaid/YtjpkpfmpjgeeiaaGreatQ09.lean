
/- Chapter 2: contracts of BankOk, the model's and the program's. -/
import Derived.Test.YtjpkpfmpjgeeiaaGreatQ08
import Derived.Test.YtjpkpfmpjgeeiaaGreatQ05
namespace Go.Proofs.YtjpkpfmpjgeeiaaGreat
open Go.RowKit
set_option linter.unusedVariables false

def BankP (l : List Cl) : Prop := (1 ≤ l.length ∧ l.length ≤ 6) ∧ (∀ x ∈ l, ColOk x.z x.F x.L) ∧ Dis (allPars l)
def conP (t : Int × List Int × List Bx) : Prop := ColOk t.1 t.2.1 t.2.2
theorem allPars_cont (l : List Cl) : allPars l = (l.map cont).flatMap (fun t => t.2.2.map Bx.par) := by
  unfold allPars parsOf cont; rw [List.flatMap_map]
theorem bankP_cont {l l' : List Cl} (h : l'.map cont = l.map cont) : BankP l' ↔ BankP l := by
  have hl : l'.length = l.length := by have := congrArg List.length h; simpa using this
  have hc : ∀ m : List Cl, (∀ x ∈ m, ColOk x.z x.F x.L) ↔ ∀ t ∈ m.map cont, conP t := fun m => by simp [conP, cont]
  unfold BankP
  rw [allPars_cont, allPars_cont, h, hl, hc, hc, h]
theorem mem_allPars {l : List Cl} {k : Nat} {x : Cl} {p : Int} (hx : l[k]? = some x) (hp : p ∈ parsOf x) {n : Nat} (hk : k < n) : p ∈ allPars (l.take n) := by
  unfold allPars
  rw [List.mem_flatMap]
  exact ⟨x, List.mem_of_getElem? (i := k) (by rw [List.getElem?_take, if_pos hk]; exact hx), hp⟩
theorem dis_clash {l : List Cl} {j k : Nat} {x y : Cl} {p : Int} (hx : l[k]? = some x) (hy : l[j]? = some y) (hj : j < k) (h0 : 0 < p) (h1 : p ∈ parsOf x) (h2 : p ∈ parsOf y) : ¬ Dis (allPars l) := fun h => by
  have h3 := dis_part hx h x.L.length
  rw [List.take_length] at h3
  unfold Dis at h3
  rw [List.pairwise_append] at h3
  exact h3.2.2 p (mem_allPars hy h2 hj) p h1 h0 rfl
theorem dis_join {l : List Cl} {k : Nat} {x : Cl} (hx : l[k]? = some x) (h1 : Dis (allPars (l.take k))) (h2 : Dis (parsOf x)) (h3 : ∀ p ∈ parsOf x, 0 < p → p ∉ allPars (l.take k)) : Dis (allPars (l.take (k + 1))) := by
  rw [allPars_succ hx]
  unfold Dis at *
  rw [List.pairwise_append]
  exact ⟨h1, h2, fun a ha b hb h0 e => h3 b hb h0 (e ▸ ha)⟩
theorem ok_succ {l : List Cl} {k : Nat} {x : Cl} (hx : l[k]? = some x) (h : ∀ y ∈ l.take k, ColOk y.z y.F y.L) (hk : ColOk x.z x.F x.L) : ∀ y ∈ l.take (k + 1), ColOk y.z y.F y.L := fun y hy => by
  rw [List.take_add_one, hx] at hy
  rcases List.mem_append.1 hy with h1 | h1
  · exact h y h1
  · simp at h1; subst h1; exact hk

set_option maxRecDepth 100000 in
set_option maxHeartbeats 2000000 in
theorem bankI_any (w : World) (B : Nat) (A : Option Addr) (n c : Nat) (l : List Cl) (hn : n = l.length) (hl : l.length ≤ maxLen) (hB : B ≤ w.heap.size) (hS : KL w B A l) (hV : ∀ x ∈ l, CV w B x) :
    Calls Tryz.prog 80 #[.slice A n c] w (Tells (BankP l) w) := by
  subst hn
  have hl' := hl
  unfold maxLen at hl
  have HS := Lib.hid hS; have HV := Lib.hid hV; clear hS hV
  by_cases h1 : l.length < 1
  · go_enter Tryz.func80, Tryz.ntmps80
    go_wp2
    go_ret
    exact tells_no (fun g => by have := g.1.1; omega) (Below.refl _ _)
  by_cases h6 : 6 < l.length
  · go_enter Tryz.func80, Tryz.ntmps80
    go_wp2
    go_ret
    exact tells_no (fun g => by have := g.1.2; omega) (Below.refl _ _)
  go_enter Tryz.func80, Tryz.ntmps80
  go_wp2
  go_loopw [15] (fun i wr => ∃ k : Nat, k ≤ l.length ∧ i = .int .i64 k ∧ (∀ y ∈ l.take k, ColOk y.z y.F y.L) ∧ Below w.heap.size w wr) (fun i _ => l.length - (intOf i).toNat)
  case atStart => exact ⟨0, Nat.zero_le _, rfl, fun y hy => by simp at hy, Below.refl _ _⟩
  case round =>
    obtain ⟨k, hk, rfl, hok, hb⟩ := hrel
    have HOK := Lib.hid hok; clear hok
    have hsz := hb.size
    by_cases hlt : k < l.length
    · obtain ⟨b, off, x, rfl, hbB, hx, hc0, hc1, hc2⟩ := (HS.out.later hB hb).at_ hlt
      have hv := (HV.out x (List.mem_of_getElem? hx)).later hB hb
      have HX := Lib.hid hx; have HVX := Lib.hid hv; clear hx hv
      obtain ⟨z, AF, F, cF, AB, L, cB⟩ := x
      dsimp only at hc0 hc1 hc2
      go_wp2_with fail
      generalize hW1 : wr.alloc (.cells #[.int .i64 z, .slice AF F.length cF, .slice AB L.length cB] 123) = w1
      have bx : Below wr.heap.size wr w1 := by rw [← hW1]; exact balloc _ _
      clear hW1
      have hz1 := bx.size
      refine (colI_any w1 B ⟨z, AF, F, cF, AB, L, cB⟩ (by omega) (HVX.out.later (by omega) bx)).mono ?_
      rintro e w2 ⟨q, rfl, hq, hb2⟩
      have HQ := Lib.hid hq; clear hq
      have hb3 := bthen (bthen hb bx) hb2
      cases q
      · go_wp2
        go_ret
        refine tells_no (fun g => ?_) hb3
        have := HQ.out.2 (g.2.1 _ (List.mem_of_getElem? HX.out))
        simp at this
      · have hq1 := HQ.out.1 (by simp)
        have HQ1 := Lib.hid hq1; clear hq1
        go_wp2
        go_roundw
        case rel => exact ⟨k + 1, by omega, by go_num, ok_succ HX.out HOK.out HQ1.out, hb3⟩
        case measure => simp [intOf]; omega
    · have hkl : k = l.length := by omega
      subst hkl
      have hok := HOK.out
      rw [List.take_length] at hok
      have HOKL := Lib.hid hok; clear hok
      go_wp2_with fail
      refine (differ_any wr B A c l hl' (by omega) (HS.out.later hB hb) (fun x hx => (HV.out x hx).later hB hb) (fun x hx b hb => pars_bd (HOKL.out x hx).box b hb)).mono ?_
      rintro e w1 ⟨q, rfl, hq, hb1⟩
      have HQ := Lib.hid hq; clear hq
      go_wp2
      go_ret
      exact ⟨q, rfl, ⟨fun h => ⟨⟨by omega, by omega⟩, HOKL.out, HQ.out.1 h⟩, fun g => HQ.out.2 g.2.2⟩, bthen hb hb1⟩

set_option maxRecDepth 100000 in
set_option maxHeartbeats 4000000 in
theorem bankS_any (w : World) (B : Nat) (A : Option Addr) (n c : Nat) (l : List Cl) (hn : n = l.length) (hl : l.length ≤ maxLen) (hB : B ≤ w.heap.size) (hS : KL w B A l) (hV : ∀ x ∈ l, CV w B x) :
    Calls Tryz.prog 63 #[.slice A n c] w (Tells (BankP l) w) := by
  subst hn
  unfold maxLen at hl
  have HS := Lib.hid hS; have HV := Lib.hid hV; clear hS hV
  go_enter Tryz.func63, Tryz.ntmps63
  go_wp2_with fail
  refine (in_any w _ 1 6).mono ?_
  rintro e w0 ⟨rfl, rfl⟩
  have hin : inB (l.length : Int) 1 6 = true ↔ 1 ≤ l.length ∧ l.length ≤ 6 := by simp [inB]; omega
  generalize inB (l.length : Int) 1 6 = q at *
  have HIN := Lib.hid hin; clear hin
  cases q
  · go_wp2
    go_ret
    exact tells_no (fun g => by have := HIN.out.2 g.1; simp at this) (Below.refl _ _)
  go_wp2
  go_loopw [3] (fun i wr => ∃ k : Nat, k ≤ l.length ∧ i = .int .i64 k ∧ (∀ y ∈ l.take k, ColOk y.z y.F y.L) ∧ Dis (allPars (l.take k)) ∧ Below w0.heap.size w0 wr) (fun i _ => l.length - (intOf i).toNat)
  case atStart => exact ⟨0, Nat.zero_le _, rfl, fun y hy => by simp at hy, by simp [Dis, allPars], Below.refl _ _⟩
  case round =>
    obtain ⟨k, hk, rfl, hok, hdi, hb⟩ := hrel
    have HOK := Lib.hid hok; have HDI := Lib.hid hdi; clear hok hdi
    have hsz := hb.size
    by_cases hlt : k < l.length
    · obtain ⟨b, off, x, hA, hbB, hx, hc0, hc1, hc2⟩ := (HS.out.later hB hb).at_ hlt
      subst hA
      have hv := (HV.out x (List.mem_of_getElem? hx)).later hB hb
      have HX := Lib.hid hx; have HVX := Lib.hid hv; clear hx hv
      obtain ⟨z, AF, F, cF, AB, L, cB⟩ := x
      dsimp only at hc0 hc1 hc2
      have HC0 := Lib.hid hc0; have HC1 := Lib.hid hc1; have HC2 := Lib.hid hc2
      go_wp2_with fail
      clear hc0 hc1 hc2
      refine (colS_any wr B ⟨z, AF, F, cF, AB, L, cB⟩ (by omega) HVX.out).mono ?_
      rintro e w2 ⟨q, rfl, hq, hb2⟩
      have HQ := Lib.hid hq; clear hq
      have hb3 := bthen hb hb2
      cases q
      · go_wp2
        go_ret
        refine tells_no (fun g => ?_) hb3
        have := HQ.out.2 (g.2.1 _ (List.mem_of_getElem? HX.out))
        simp at this
      · have hq1 := HQ.out.1 (by simp)
        have HQ1 := Lib.hid hq1; clear hq1
        have hlm : L.length ≤ 9223372036854775807 := by have := HVX.out.lb; unfold maxLen at this; exact this
        go_wp2
        go_loopw [4] (fun i wi => ∃ j : Nat, j ≤ k ∧ i = .int .i64 j ∧ (∀ p ∈ parsOf ⟨z, AF, F, cF, AB, L, cB⟩, 0 < p → p ∉ allPars (l.take j)) ∧ Below w0.heap.size w0 wi) (fun i _ => k - (intOf i).toNat)
        case atStart => exact ⟨0, Nat.zero_le _, rfl, fun p _ _ => by simp [allPars], hb3⟩
        case round =>
          obtain ⟨j, hj, rfl, hpj, hbi⟩ := hrel
          have HPJ := Lib.hid hpj; clear hpj
          have hszi := hbi.size
          by_cases hjk : j < k
          · obtain ⟨b', off', y, hA', hbB', hy, hd0, hd1, hd2⟩ := (HS.out.later hB hbi).at_ (k := j) (by omega)
            obtain ⟨rfl, rfl⟩ : b = b' ∧ off = off' := by injection hA' with hA'; injection hA' with e1 e2; exact ⟨e1, e2⟩
            have HY := Lib.hid hy; clear hy hA' hd0 hd1 hd2
            go_wp2
            go_loopw [5] (fun i wm => ∃ m : Nat, m ≤ L.length ∧ i = .int .i64 m ∧ (∀ p ∈ (L.take m).map Bx.par, 0 < p → p ∉ parsOf y) ∧ Below w0.heap.size w0 wm) (fun i _ => L.length - (intOf i).toNat)
            case atStart => exact ⟨0, Nat.zero_le _, rfl, fun p hp => by simp at hp, hbi⟩
            case round =>
              obtain ⟨m, hm, rfl, hpm, hbm⟩ := hrel
              have HPM := Lib.hid hpm; clear hpm
              have hszm := hbm.size
              obtain ⟨b1, off1, x', hA1, _, hx', hc0, hc1, hc2⟩ := (HS.out.later hB hbm).at_ hlt
              obtain ⟨rfl, rfl⟩ : b = b1 ∧ off = off1 := by injection hA1 with hA1; injection hA1 with e1 e2; exact ⟨e1, e2⟩
              obtain rfl : (⟨z, AF, F, cF, AB, L, cB⟩ : Cl) = x' := by have := HX.out.symm.trans hx'; injection this
              clear hx' hA1
              dsimp only at hc0 hc1 hc2
              have hbw : b < wr.heap.size := by omega
              by_cases hml : m < L.length
              · have hvx := (HV.out _ (List.mem_of_getElem? HX.out)).later hB hbm
                obtain ⟨b2, off2, bx, hAB, hb2B, hbx, hq0, hq1, hq2, hq3⟩ := hvx.b.at_ hml
                dsimp only at hAB
                subst hAB
                obtain ⟨b3, off3, y', hA3, _, hy', hd0, hd1, hd2⟩ := (HS.out.later hB hbm).at_ (k := j) (by omega)
                obtain ⟨rfl, rfl⟩ : b = b3 ∧ off = off3 := by injection hA3 with hA3; injection hA3 with e1 e2; exact ⟨e1, e2⟩
                obtain rfl : y = y' := by have := HY.out.symm.trans hy'; injection this
                have hvy := (HV.out _ (List.mem_of_getElem? HY.out)).later hB hbm
                have HVY := Lib.hid hvy; clear hy' hA3 hvx hvy
                have hbw2 : b2 < wr.heap.size := by omega
                have hpp : bx.par ∈ parsOf ⟨z, AF, F, cF, some ⟨b2, off2, none⟩, L, cB⟩ := List.mem_map.2 ⟨bx, List.mem_of_getElem? hbx, rfl⟩
                have hps := pars_succ hbx
                obtain ⟨p0, p1, p2, p3⟩ := bx
                dsimp only at hq0 hq1 hq2 hq3 hpp hps
                have HPP := Lib.hid hpp; have HPS := Lib.hid hps; clear hpp hps hbx
                by_cases hin : 0 < p2 ∧ p2 ∈ parsOf y
                · have hr : 0 ≤ fIdx (hasP0 p2) y.L 0 := by
                    rcases fIdx_cases (hasP0 p2) y.L 0 with ⟨_, h2⟩ | ⟨d, x, h1, _, _⟩
                    · obtain ⟨t, ht, hte⟩ := List.mem_map.1 hin.2
                      have := h2 t ht
                      simp [hasP0, hte] at this
                      omega
                    · omega
                  have HIN2 := Lib.hid hin; clear hin
                  have hbs := fun W hb9 => boxS_any W B y.AF y.AB y.cF y.cB y.z p2 y.F.length y.L HVY.out.lb hb9
                  have HBS := Lib.hid hbs; clear hbs
                  generalize fIdx (hasP0 p2) y.L 0 = r at *
                  have hjl9 : j < l.length := by omega
                  have i0 : (0 : Int) ≤ (j : Int) := by omega
                  have i1 : (j : Int) < (l.length : Int) := by omega
                  have i2 : (0 : Int) ≤ (k : Int) := by omega
                  have i3 : (k : Int) < (l.length : Int) := by omega
                  have i4 : (0 : Int) ≤ (m : Int) := by omega
                  have i5 : (m : Int) < (L.length : Int) := by omega
                  go_wp2
                  go_still_tail 13, (by kernel_rfl)
                  change wpList _ _ _ _ _ wr.drew
                  go_wp2_with (go_at_call 106; refine (HBS.out _ (by simp; omega) (HVY.out.b.below (Below.refl _ _).drew)).mono ?_; rintro e w4 ⟨rfl, hb4⟩)
                  go_wp2
                  go_ret
                  exact tells_no (fun g => dis_clash HX.out HY.out hjk HIN2.out.1 HPP.out HIN2.out.2 g.2.2) ((hbm.drew).trans (hb4.mono hszm))
                · have hr : fIdx (hasP0 p2) y.L 0 < 0 := by
                    rcases fIdx_cases (hasP0 p2) y.L 0 with ⟨h1, _⟩ | ⟨d, t, h1, h2, h3⟩
                    · omega
                    · exfalso
                      simp [hasP0] at h3
                      exact hin ⟨h3.2, List.mem_map.2 ⟨t, List.mem_of_getElem? h2, h3.1⟩⟩
                  have hnx : ∀ p ∈ (L.take (m + 1)).map Bx.par, 0 < p → p ∉ parsOf y := fun p hp h0 hm2 => by
                    have hp' := hp
                    rw [HPS.out] at hp'
                    rcases List.mem_append.1 hp' with h | h
                    · exact HPM.out p h h0 hm2
                    · simp at h; subst h; exact hin ⟨h0, hm2⟩
                  have HNX := Lib.hid hnx; clear hin hnx
                  have hbs := fun W hb9 => boxS_any W B y.AF y.AB y.cF y.cB y.z p2 y.F.length y.L HVY.out.lb hb9
                  have HBS := Lib.hid hbs; clear hbs
                  generalize fIdx (hasP0 p2) y.L 0 = r at *
                  have hjl9 : j < l.length := by omega
                  have i0 : (0 : Int) ≤ (j : Int) := by omega
                  have i1 : (j : Int) < (l.length : Int) := by omega
                  have i2 : (0 : Int) ≤ (k : Int) := by omega
                  have i3 : (k : Int) < (l.length : Int) := by omega
                  have i4 : (0 : Int) ≤ (m : Int) := by omega
                  have i5 : (m : Int) < (L.length : Int) := by omega
                  go_wp2
                  go_still_tail 13, (by kernel_rfl)
                  change wpList _ _ _ _ _ wr.drew
                  go_wp2_with (go_at_call 106; refine (HBS.out _ (by simp; omega) (HVY.out.b.below (Below.refl _ _).drew)).mono ?_; rintro e w4 ⟨rfl, hb4⟩)
                  go_wp2
                  go_roundw
                  case rel => exact ⟨m + 1, by omega, by go_num, HNX.out, (hbm.drew).trans (hb4.mono hszm)⟩
                  case measure => simp [intOf]; omega
              · have hmk : m = L.length := by omega
                subst hmk
                have hnx : ∀ p ∈ parsOf ⟨z, AF, F, cF, AB, L, cB⟩, 0 < p → p ∉ allPars (l.take (j + 1)) := fun p hp h0 hm2 => by
                  rw [allPars_succ HY.out] at hm2
                  rcases List.mem_append.1 hm2 with h | h
                  · exact HPJ.out p hp h0 h
                  · have h5 := HPM.out
                    rw [List.take_length] at h5
                    exact h5 p hp h0 h
                have HNX := Lib.hid hnx; clear hnx
                go_wp2
                go_roundw
                case rel => exact ⟨j + 1, by omega, by go_num, HNX.out, hbm⟩
                case measure => simp [intOf]; omega
          · have hjk' : j = k := by omega
            subst hjk'
            go_wp2
            go_roundw
            case rel => exact ⟨j + 1, by omega, by go_num, ok_succ HX.out HOK.out HQ1.out, dis_join HX.out HDI.out HQ1.out.diff HPJ.out, hbi⟩
            case measure => simp [intOf]; omega
    · go_wp2
      go_ret
      have hkl : k = l.length := by omega
      subst hkl
      have h1 := HOK.out
      have h2 := HDI.out
      rw [List.take_length] at h1 h2
      exact tells_yes ⟨HIN.out.1 (by simp), h1, h2⟩ hb
end Go.Proofs.YtjpkpfmpjgeeiaaGreat
namespace Go.Proofs.YtjpkpfmpjgeeiaaGreat
open Go.RowKit
set_option linter.unusedVariables false

end Go.Proofs.YtjpkpfmpjgeeiaaGreat
namespace Go.Proofs.YtjpkpfmpjgeeiaaGreat
open Go.RowKit
set_option linter.unusedVariables false

def colC (x : Cl) : List Value := [.int .i64 x.z, .slice x.AF x.F.length x.cF, .slice x.AB x.L.length x.cB]
def colV (l : List Cl) : List Value := l.flatMap colC
theorem colV_len (l : List Cl) : (colV l).length = 3 * l.length := by
  induction l with
  | nil => rfl
  | cons a r ih => simp [colV, colC] at ih ⊢; omega
theorem colV_at : ∀ {l : List Cl} {k : Nat} {x : Cl}, l[k]? = some x → (colV l)[k * 3]? = some (.int .i64 x.z) ∧ (colV l)[k * 3 + 1]? = some (.slice x.AF x.F.length x.cF) ∧ (colV l)[k * 3 + 2]? = some (.slice x.AB x.L.length x.cB)
  | [], k, u, h => by simp at h
  | a :: r, 0, u, h => by
    simp at h; subst h
    exact ⟨rfl, rfl, rfl⟩
  | a :: r, k + 1, u, h => by
    have ih := colV_at (l := r) (k := k) (x := u) (by simpa using h)
    have e : colV (a :: r) = .int .i64 a.z :: .slice a.AF a.F.length a.cF :: .slice a.AB a.L.length a.cB :: colV r := rfl
    rw [e, show (k + 1) * 3 = k * 3 + 1 + 1 + 1 by omega]
    exact ⟨by simpa using ih.1, by simpa using ih.2.1, by simpa using ih.2.2⟩
theorem colV_nil {l : List Cl} (h : colV l = []) : l = [] := by
  have := congrArg List.length h
  rw [colV_len] at this
  exact List.eq_nil_of_length_eq_zero (by simp only [List.length_nil] at this; omega)
theorem colV_of {l : List Cl} {cs : Array Value} (h : ∀ j x, j < l.length → l[j]? = some x → cs[j * 3]? = some (.int .i64 x.z) ∧ cs[j * 3 + 1]? = some (.slice x.AF x.F.length x.cF) ∧ cs[j * 3 + 2]? = some (.slice x.AB x.L.length x.cB)) : ∀ (j : Nat) (u : Value), (colV l)[j]? = some u → cs[j]? = some u := by
  intro j u hu
  have hj : j < 3 * l.length := by have := (List.getElem?_eq_some_iff.1 hu).1; rwa [colV_len] at this
  obtain ⟨q, r, rfl, hr⟩ : ∃ q r, j = q * 3 + r ∧ r < 3 := ⟨j / 3, j % 3, by omega, by omega⟩
  have hq : q < l.length := by omega
  have hx := List.getElem?_eq_getElem hq
  have h1 := colV_at hx
  have h2 := h q _ hq hx
  rcases r with _ | _ | _ | r
  · rw [Nat.add_zero] at hu ⊢; rw [h1.1] at hu; rw [h2.1]; exact hu
  · rw [h1.2.1] at hu; rw [h2.2.1]; exact hu
  · rw [h1.2.2] at hu; rw [h2.2.2]; exact hu
  · omega
/-- where the rows of the columns lie: each column's in a range of its own -/
structure RowsSep (w : World) (lo hi : Nat) (l : List Cl) (f : Nat → Nat × Nat) : Prop where
  row : ∀ k x, l[k]? = some x → lo ≤ (f k).1 ∧ (f k).1 ≤ (f k).2 ∧ (f k).2 ≤ hi ∧ OI w (f k).1 (f k).2 3 x.AF (intV x.F) ∧ OI w (f k).1 (f k).2 125 x.AB (boxV x.L)
  dis : ∀ j k, j < k → k < l.length → (f j).2 ≤ (f k).1 ∨ (f k).2 ≤ (f j).1
def BankAt (w : World) (lo hi : Nat) (A : Option Addr) (l : List Cl) : Prop := OI w lo hi 123 A (colV l) ∧ ∃ f, RowsSep w lo hi l f
section
variable {w w' : World} {lo hi a b : Nat} {A : Option Addr} {l : List Cl} {f : Nat → Nat × Nat}
theorem RowsSep.call (h : RowsSep w lo hi l f) (hb : Below w.heap.size w w') : RowsSep w' lo hi l f :=
  ⟨fun k x hx => by obtain ⟨h1, h2, h3, h4, h5⟩ := h.row k x hx; exact ⟨h1, h2, h3, h4.call hb, h5.call hb⟩, h.dis⟩
theorem RowsSep.wider {lo' hi' : Nat} (h : RowsSep w lo hi l f) (h1 : lo' ≤ lo) (h2 : hi ≤ hi') : RowsSep w lo' hi' l f :=
  ⟨fun k x hx => by obtain ⟨q1, q2, q3, q4, q5⟩ := h.row k x hx; exact ⟨by omega, q2, by omega, q4, q5⟩, h.dis⟩
theorem OI.wider {lo' hi' : Nat} {e : TypeId} {xs : List Value} (h : OI w lo hi e A xs) (h1 : lo' ≤ lo) (h2 : hi ≤ hi') : OI w lo' hi' e A xs := by
  rcases h with h | ⟨g, cur, rfl, q1, q2, hh, hc⟩
  · exact .inl h
  · exact .inr ⟨g, cur, rfl, by omega, by omega, hh, hc⟩
theorem BankAt.call (h : BankAt w lo hi A l) (hb : Below w.heap.size w w') : BankAt w' lo hi A l := ⟨h.1.call hb, let ⟨f, hf⟩ := h.2; ⟨f, hf.call hb⟩⟩
theorem BankAt.wider {lo' hi' : Nat} (h : BankAt w lo hi A l) (h1 : lo' ≤ lo) (h2 : hi ≤ hi') : BankAt w lo' hi' A l := ⟨h.1.wider h1 h2, let ⟨f, hf⟩ := h.2; ⟨f, hf.wider h1 h2⟩⟩
theorem RowsSep.snoc (h : RowsSep w lo hi l f) {x : Cl} (ha : hi ≤ a) (hab : a ≤ b) (hlo : lo ≤ hi) (h1 : OI w a b 3 x.AF (intV x.F)) (h2 : OI w a b 125 x.AB (boxV x.L)) :
    RowsSep w lo b (l ++ [x]) (fun k => if k = l.length then (a, b) else f k) := by
  refine ⟨fun k y hy => ?_, fun j k hj hk => ?_⟩
  · by_cases e : k = l.length
    · subst e
      simp at hy; subst hy
      simp only [if_true]
      exact ⟨by omega, hab, Nat.le_refl _, h1, h2⟩
    · rw [if_neg e]
      have hk : k < l.length := by have := (List.getElem?_eq_some_iff.1 hy).1; simp at this; omega
      rw [List.getElem?_append_left hk] at hy
      obtain ⟨q1, q2, q3, q4, q5⟩ := h.row k y hy
      exact ⟨q1, q2, by omega, q4, q5⟩
  · simp at hk
    rw [if_neg (by omega : j ≠ l.length)]
    have hjl : j < l.length := by omega
    obtain ⟨q1, q2, q3, _, _⟩ := h.row j _ (List.getElem?_eq_getElem hjl)
    by_cases e : k = l.length
    · rw [if_pos e]; left; show (f j).2 ≤ a; omega
    · rw [if_neg e]; exact h.dis j k hj (by omega)
theorem RowsSep.set (h : RowsSep w lo hi l f) {k : Nat} {x : Cl} (ha : hi ≤ a) (hab : a ≤ b) (hlo : lo ≤ hi) (h1 : OI w a b 3 x.AF (intV x.F)) (h2 : OI w a b 125 x.AB (boxV x.L)) :
    RowsSep w lo b (l.set k x) (fun j => if j = k then (a, b) else f j) := by
  refine ⟨fun j y hy => ?_, fun i j hi' hj => ?_⟩
  · by_cases e : j = k
    · subst e
      have hk : j < l.length := by have := (List.getElem?_eq_some_iff.1 hy).1; simpa using this
      rw [List.getElem?_set_self hk] at hy; injection hy with hy; subst hy
      simp only [if_true]
      exact ⟨by omega, hab, Nat.le_refl _, h1, h2⟩
    · rw [if_neg e]
      rw [List.getElem?_set_ne (fun e' => e e'.symm)] at hy
      obtain ⟨q1, q2, q3, q4, q5⟩ := h.row j y hy
      exact ⟨q1, q2, by omega, q4, q5⟩
  · simp at hj
    obtain ⟨q1, q2, q3, _, _⟩ := h.row i _ (List.getElem?_eq_getElem (by omega))
    obtain ⟨p1, p2, p3, _, _⟩ := h.row j _ (List.getElem?_eq_getElem hj)
    by_cases e : i = k
    · rw [if_pos e, if_neg (by omega)]; right; show (f j).2 ≤ a; omega
    · rw [if_neg e]
      by_cases e2 : j = k
      · rw [if_pos e2]; left; show (f i).2 ≤ a; omega
      · rw [if_neg e2]; exact h.dis i j hi' hj
theorem BankAt.kl (h : BankAt w lo hi A l) : KL w w.heap.size A l := by
  rcases h.1 with h | ⟨g, cur, rfl, h1, h2, hh, hc⟩
  · exact .inl (colV_nil h)
  · refine .inr ⟨g, 0, rfl, has_lt hh, fun k x hx => ?_⟩
    have := colV_at hx
    rw [Nat.zero_add]
    exact ⟨has_cell hh _ (hc _ _ this.1), has_cell hh _ (hc _ _ this.2.1), has_cell hh _ (hc _ _ this.2.2)⟩
theorem BankAt.cv (h : BankAt w lo hi A l) (hs : SmallK l) : ∀ x ∈ l, CV w w.heap.size x := fun x hx => by
  obtain ⟨f, hf⟩ := h.2
  obtain ⟨k, hk⟩ := List.getElem?_of_mem hx
  obtain ⟨_, _, _, h4, h5⟩ := hf.row k x hk
  have := hs x hx
  exact ⟨h4.il, h5.xl, by unfold maxLen; omega, by unfold maxLen; omega⟩
end
theorem copiedK_oi {w : World} {g lo hi : Nat} {cs : Array Value} {l' : List Cl} {n : Nat} (h : CopiedK w g cs l' n) (h1 : lo ≤ g) (h2 : g < hi) : OI w lo hi 123 (some ⟨g, 0, none⟩) (colV l') :=
  .inr ⟨g, cs, rfl, h1, h2, h.heap, colV_of fun j x _ hx => h.got j x (by exact hx)⟩
end Go.Proofs.YtjpkpfmpjgeeiaaGreat
