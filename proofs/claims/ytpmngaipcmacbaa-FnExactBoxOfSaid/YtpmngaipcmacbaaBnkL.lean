/- Chapter 2: the walk of the law FnExactBankOk. -/
import Derived.Test.YtpmngaipcmacbaaBnkB
namespace Go.Proofs.Ytpmngaipcmacbaa
open Go.RowKit
set_option linter.unusedVariables false

theorem rows_cv {w : World} {base : Nat} {l l' : List Cl} (hc : l'.map cont = l.map cont) (hs : SmallK l) (h : ∀ x ∈ l', RowsK w base x) : ∀ x ∈ l', CV w w.heap.size x := fun x hx => by
  have := small_cont hc hs x hx
  exact (h x hx).cv (by unfold maxLen; omega) (by unfold maxLen; omega)

set_option maxRecDepth 100000 in
set_option maxHeartbeats 2000000 in
theorem bankLaw_walk (A : Option Addr) (c : Nat) (l : List Cl) (w : World) (hl : l.length ≤ maxLen) (hS : KL w w.heap.size A l) (hV : ∀ x ∈ l, CV w w.heap.size x) :
    Calls Try.prog 11 #[.slice A l.length c] w fun e w' => e = .returned (.bool true) ∧ Below w.heap.size w w' := by
  have HS := Lib.hid hS; have HV := Lib.hid hV; clear hS hV
  go_enter Try.func11, Try.ntmps11
  go_wp2_with fail
  refine (szColumnS_any w w.heap.size A c l hl (Nat.le_refl _) HS.out HV.out).mono ?_
  rintro e w1 ⟨r, rfl, hr, hb1⟩
  rcases hr with rfl | ⟨hr0, hl2, hsm⟩
  · go_wp2_with fail
    go_ret
    exact ⟨rfl, hb1⟩
  have HSM := Lib.hid hsm; clear hsm
  have hz1 := hb1.size
  have c1 := Lib.hid hb1; clear hb1
  go_wp2_with fail
  refine (toColumnS_any w1 w.heap.size A c l hl2 HSM.out hz1 (HS.out.below c1.out) (fun x hx => (HV.out x hx).later (Nat.le_refl _) c1.out)).mono ?_
  rintro e w2 ⟨l1, cs1, rfl, hll1, hct1, hcp1, hro1, hb2⟩
  have hz2 := hb2.size
  have c2 := Lib.hid (bthen c1.out hb2); clear hb2
  have V1 := Lib.hid (rows_cv hct1 HSM.out hro1); have K1 := Lib.hid hcp1.kl; have HLL1 := Lib.hid hll1; have HCT1 := Lib.hid hct1
  clear hro1 hcp1 hll1 hct1
  go_wp2_with fail
  refine (bankS_any w2 w2.heap.size (some ⟨w1.heap.size, 0, none⟩) l.length l.length l1 HLL1.out.symm (by rw [HLL1.out]; exact hl) (Nat.le_refl _) K1.out V1.out).mono ?_
  rintro e w3 ⟨q, rfl, hq, hb3⟩
  have HQ := Lib.hid (hq.trans (bankP_cont HCT1.out)); clear hq
  have hz3 := hb3.size
  have c3 := Lib.hid (bthen c2.out hb3); clear hb3 V1 K1 HLL1 HCT1
  go_wp2_with fail
  refine (toColumnS_any w3 w.heap.size A c l hl2 HSM.out (by omega) (HS.out.below c3.out) (fun x hx => (HV.out x hx).later (Nat.le_refl _) c3.out)).mono ?_
  rintro e w4 ⟨l2, cs2, rfl, hll2, hct2, hcp2, hro2, hb4⟩
  have hz4 := hb4.size
  have c4 := Lib.hid (bthen c3.out hb4); clear hb4
  have V2 := Lib.hid (rows_cv hct2 HSM.out hro2); have K2 := Lib.hid hcp2.kl; have HLL2 := Lib.hid hll2; have HCT2 := Lib.hid hct2
  clear hro2 hcp2 hll2 hct2
  go_wp2_with fail
  refine (bankI_any w4 w4.heap.size (some ⟨w3.heap.size, 0, none⟩) l.length l.length l2 HLL2.out.symm (by rw [HLL2.out]; exact hl) (Nat.le_refl _) K2.out V2.out).mono ?_
  rintro e w5 ⟨q', rfl, hq', hb5⟩
  have HQ' := Lib.hid (hq'.trans (bankP_cont HCT2.out)); clear hq'
  obtain rfl : q = q' := by
    have h1 := HQ.out
    have h2 := HQ'.out
    cases q <;> cases q' <;> simp_all
  clear HQ'
  have hz5 := hb5.size
  have c5 := Lib.hid (bthen c4.out hb5)
  have V2' := Lib.hid (fun x hx => (V2.out x hx).later (Nat.le_refl _) hb5); have K2' := Lib.hid (K2.out.later (Nat.le_refl _) hb5); clear hb5 V2 K2
  have hqq : (q != q) = false := by simp
  go_wp2_with fail
  clear hqq
  refine (toColumnS_any w5 w.heap.size A c l hl2 HSM.out (by omega) (HS.out.below c5.out) (fun x hx => (HV.out x hx).later (Nat.le_refl _) c5.out)).mono ?_
  rintro e w6 ⟨l3, cs3, rfl, hll3, hct3, hcp3, hro3, hb6⟩
  have hz6 := hb6.size
  have c6 := Lib.hid (bthen c5.out hb6)
  have V3 := Lib.hid (rows_cv hct3 HSM.out hro3); have K3 := Lib.hid hcp3.kl; have HCT3 := Lib.hid (hct3.trans HCT2.out.symm)
  have V2'' := Lib.hid (fun x hx => (V2'.out x hx).later (by omega) hb6); have K2'' := Lib.hid (K2'.out.later (by omega) hb6)
  clear hro3 hcp3 hll3 hct3 hb6 V2' K2'
  go_wp2_with fail
  refine (eqColumnS_any w6 w4.heap.size w6.heap.size (some ⟨w3.heap.size, 0, none⟩) (some ⟨w5.heap.size, 0, none⟩) l.length l.length l.length l2 l3 (by rw [HLL2.out]; exact hl) HLL2.out.symm HCT3.out (by omega) (Nat.le_refl _) K2''.out V2''.out K3.out V3.out).mono ?_
  rintro e w7 ⟨rfl, hb7⟩
  have c7 := Lib.hid (bthen c6.out hb7)
  go_wp2_with fail
  go_ret
  exact ⟨rfl, c7.out⟩
end Go.Proofs.Ytpmngaipcmacbaa
