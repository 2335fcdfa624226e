/- Chapter 2: the walk of the law FnExactHeldInOrder (gen_law_held.py). -/
import Derived.Test.YthmbpcnpmfiaoaaHioC
import Derived.Test.YthmbpcnpmfiaoaaBkT
namespace Go.Proofs.Ythmbpcnpmfiaoaa
open Go.RowKit
set_option linter.unusedVariables false
theorem eqBank_any (w : World) (B B' : Nat) (A A' : Option Addr) (c c' : Nat) (l l' : List Cl) (hl : l.length ≤ maxLen) (hc : l'.map cont = l.map cont) (hB : B ≤ w.heap.size) (hB' : B' ≤ w.heap.size) (hS : KL w B A l) (hV : ∀ x ∈ l, CV w B x) (hS' : KL w B' A' l') (hV' : ∀ x ∈ l', CV w B' x) :
    Calls Try.prog 12 #[.slice A l.length c, .slice A' l'.length c'] w fun e w' => e = .returned (.bool true) ∧ Below w.heap.size w w' := by
  rw [len_cont hc]
  exact eqColumnS_any w B B' A A' c c' l.length l l' hl rfl hc hB hB' hS hV hS' hV'

set_option maxRecDepth 100000 in
set_option maxHeartbeats 4000000 in
theorem heldLaw_walk (A : Option Addr) (c : Nat) (l : List Cl) (AS : Option Addr) (cS : Nat) (S : List Int) (w : World) (hl : l.length ≤ maxLen) (hS : KL w w.heap.size A l) (hV : ∀ x ∈ l, CV w w.heap.size x) (hSl : S.length ≤ maxLen) (hI : IL w w.heap.size AS S) :
    Calls Try.prog 5 #[.slice A l.length c, .slice AS S.length cS] w fun e w' => e = .returned (.bool true) ∧ Below w.heap.size w w' := by
  have HS := Lib.hid hS; have HV := Lib.hid hV; have HI := Lib.hid hI; clear hS hV hI
  have hSm := hSl
  unfold maxLen at hSl
  by_cases hlong : S.length > 1048576
  · have t0 : decide ((S.length : Int) > 1048576) = true := by simpa using (show (S.length : Int) > 1048576 by omega)
    go_enter Try.func5, Try.ntmps5
    go_wp2_with fail
    go_ret
    exact ⟨rfl, Below.refl _ _⟩
  have t0 : decide ((S.length : Int) > 1048576) = false := by simpa using (show ¬ (S.length : Int) > 1048576 by omega)
  go_enter Try.func5, Try.ntmps5
  go_wp2_with fail
  refine (szBank_any w w.heap.size A c l hl (Nat.le_refl _) HS.out HV.out).mono ?_
  rintro e w1 ⟨r, rfl, hr, hb⟩
  rcases hr with rfl | ⟨hr0, htot⟩
  · go_wp2_with fail
    go_ret
    exact ⟨rfl, hb⟩
  have hl2 : l.length ≤ 1048576 := by omega
  have HSM := Lib.hid (small_tot (l := l) (by omega))
  have C := Lib.hid hb
  have hsw1 := hb.size
  clear hb t0
  go_wp2_with fail
  refine (toBank_any w1 w.heap.size A c l hl2 HSM.out (by omega) (HS.out.below C.out) (fun x hx => (HV.out x hx).later (Nat.le_refl _) C.out)).mono ?_
  rintro e w2 ⟨xsA, xsl, rfl, hct, hba, hb⟩
  have hlenxs : xsl.length ≤ l.length ∧ l.length ≤ xsl.length := by have := len_cont hct; omega
  obtain ⟨hlnxs, hlmxs⟩ := hlenxs
  have CT_xs := Lib.hid hct; have SM_xs := Lib.hid (small_cont hct HSM.out); have TT_xs := Lib.hid (totK_cont hct); have BA_xs := Lib.hid hba; clear hct hba
  have hsw2 := hb.size
  have hw : Within 0 0 w1 w2 := Within.of_below hb
  have kk := bthen C.out hb; clear C; have C := Lib.hid kk; clear kk
  clear hw
  clear hb
  go_wp2_with fail
  refine (toIntS_any w2 w.heap.size AS cS S (by omega) (by omega) (HI.out.below C.out)).mono ?_
  rintro e w3 ⟨siA, sin, rfl, hP, hb⟩
  have RG_si := Lib.hid (OI.of_or hP); clear hP
  have hsw3 := hb.size
  have hw : Within 0 0 w2 w3 := Within.of_below hb
  have kk := BA_xs.out.within hw (by omega); clear BA_xs; have BA_xs := Lib.hid kk; clear kk
  have kk := bthen C.out hb; clear C; have C := Lib.hid kk; clear kk
  clear hw
  clear hb
  go_wp2_with fail
  refine (heldS_any w3 w3.heap.size xsA siA l.length sin xsl S (by unfold maxLen; omega) hSm (Nat.le_refl _) BA_xs.out.kl (BA_xs.out.cv SM_xs.out) RG_si.out.il).mono ?_
  rintro e w4 ⟨rfl, hb⟩
  rw [heldV_cont CT_xs.out]
  have hsw4 := hb.size
  have hw : Within 0 0 w3 w4 := Within.of_below hb
  have kk := BA_xs.out.within hw (by omega); clear BA_xs; have BA_xs := Lib.hid kk; clear kk
  have kk := hw.oi RG_si.out (by omega); clear RG_si; have RG_si := Lib.hid kk; clear kk
  have kk := bthen C.out hb; clear C; have C := Lib.hid kk; clear kk
  clear hw
  clear hb
  go_wp2_with fail
  refine (toBank_any w4 w.heap.size A c l hl2 HSM.out (by omega) (HS.out.below C.out) (fun x hx => (HV.out x hx).later (Nat.le_refl _) C.out)).mono ?_
  rintro e w5 ⟨xxA, xxl, rfl, hct, hba, hb⟩
  have hlenxx : xxl.length ≤ l.length ∧ l.length ≤ xxl.length := by have := len_cont hct; omega
  obtain ⟨hlnxx, hlmxx⟩ := hlenxx
  have CT_xx := Lib.hid hct; have SM_xx := Lib.hid (small_cont hct HSM.out); have TT_xx := Lib.hid (totK_cont hct); have BA_xx := Lib.hid hba; clear hct hba
  have hsw5 := hb.size
  have hw : Within 0 0 w4 w5 := Within.of_below hb
  have kk := BA_xs.out.within hw (by omega); clear BA_xs; have BA_xs := Lib.hid kk; clear kk
  have kk := hw.oi RG_si.out (by omega); clear RG_si; have RG_si := Lib.hid kk; clear kk
  have kk := bthen C.out hb; clear C; have C := Lib.hid kk; clear kk
  clear hw
  clear hb
  go_wp2_with fail
  refine (toIntS_any w5 w.heap.size AS cS S (by omega) (by omega) (HI.out.below C.out)).mono ?_
  rintro e w6 ⟨xiA, xin, rfl, hP, hb⟩
  have RG_xi := Lib.hid (OI.of_or hP); clear hP
  have hsw6 := hb.size
  have hw : Within 0 0 w5 w6 := Within.of_below hb
  have kk := BA_xs.out.within hw (by omega); clear BA_xs; have BA_xs := Lib.hid kk; clear kk
  have kk := BA_xx.out.within hw (by omega); clear BA_xx; have BA_xx := Lib.hid kk; clear kk
  have kk := hw.oi RG_si.out (by omega); clear RG_si; have RG_si := Lib.hid kk; clear kk
  have kk := bthen C.out hb; clear C; have C := Lib.hid kk; clear kk
  clear hw
  clear hb
  go_wp2_with fail
  refine (heldI_any w6 w6.heap.size xxA xiA l.length xin xxl S (by unfold maxLen; omega) hSm (Nat.le_refl _) BA_xx.out.kl (BA_xx.out.cv SM_xx.out) RG_xi.out.il).mono ?_
  rintro e w7 ⟨rfl, hb⟩
  rw [heldV_cont CT_xx.out]
  have hsw7 := hb.size
  have hw : Within 0 0 w6 w7 := Within.of_below hb
  have kk := BA_xs.out.within hw (by omega); clear BA_xs; have BA_xs := Lib.hid kk; clear kk
  have kk := BA_xx.out.within hw (by omega); clear BA_xx; have BA_xx := Lib.hid kk; clear kk
  have kk := hw.oi RG_si.out (by omega); clear RG_si; have RG_si := Lib.hid kk; clear kk
  have kk := hw.oi RG_xi.out (by omega); clear RG_xi; have RG_xi := Lib.hid kk; clear kk
  have kk := bthen C.out hb; clear C; have C := Lib.hid kk; clear kk
  clear hw
  clear hb
  have nG : ((heldV l S) != (heldV l S)) = false := by simp
  go_wp2_with fail
  refine (toBank_any w7 w.heap.size A c l hl2 HSM.out (by omega) (HS.out.below C.out) (fun x hx => (HV.out x hx).later (Nat.le_refl _) C.out)).mono ?_
  rintro e w8 ⟨xyA, xyl, rfl, hct, hba, hb⟩
  have hlenxy : xyl.length ≤ l.length ∧ l.length ≤ xyl.length := by have := len_cont hct; omega
  obtain ⟨hlnxy, hlmxy⟩ := hlenxy
  have CT_xy := Lib.hid hct; have SM_xy := Lib.hid (small_cont hct HSM.out); have TT_xy := Lib.hid (totK_cont hct); have BA_xy := Lib.hid hba; clear hct hba
  have hsw8 := hb.size
  have hw : Within 0 0 w7 w8 := Within.of_below hb
  have kk := BA_xs.out.within hw (by omega); clear BA_xs; have BA_xs := Lib.hid kk; clear kk
  have kk := BA_xx.out.within hw (by omega); clear BA_xx; have BA_xx := Lib.hid kk; clear kk
  have kk := hw.oi RG_si.out (by omega); clear RG_si; have RG_si := Lib.hid kk; clear kk
  have kk := hw.oi RG_xi.out (by omega); clear RG_xi; have RG_xi := Lib.hid kk; clear kk
  have kk := bthen C.out hb; clear C; have C := Lib.hid kk; clear kk
  clear hw
  clear hb
  clear nG
  go_wp2_with fail
  refine (eqBank_any w8 w8.heap.size w8.heap.size xxA xyA l.length l.length xxl xyl (by unfold maxLen; omega) (CT_xy.out.trans CT_xx.out.symm) (Nat.le_refl _) (Nat.le_refl _) BA_xx.out.kl (BA_xx.out.cv SM_xx.out) BA_xy.out.kl (BA_xy.out.cv SM_xy.out)).mono ?_
  rintro e w9 ⟨rfl, hb⟩
  have hsw9 := hb.size
  have hw : Within 0 0 w8 w9 := Within.of_below hb
  have kk := BA_xs.out.within hw (by omega); clear BA_xs; have BA_xs := Lib.hid kk; clear kk
  have kk := BA_xx.out.within hw (by omega); clear BA_xx; have BA_xx := Lib.hid kk; clear kk
  have kk := BA_xy.out.within hw (by omega); clear BA_xy; have BA_xy := Lib.hid kk; clear kk
  have kk := hw.oi RG_si.out (by omega); clear RG_si; have RG_si := Lib.hid kk; clear kk
  have kk := hw.oi RG_xi.out (by omega); clear RG_xi; have RG_xi := Lib.hid kk; clear kk
  have kk := bthen C.out hb; clear C; have C := Lib.hid kk; clear kk
  clear hw
  clear hb
  go_wp2_with fail
  refine (toIntS_any w9 w.heap.size AS cS S (by omega) (by omega) (HI.out.below C.out)).mono ?_
  rintro e w10 ⟨xjA, xjn, rfl, hP, hb⟩
  have RG_xj := Lib.hid (OI.of_or hP); clear hP
  have hsw10 := hb.size
  have hw : Within 0 0 w9 w10 := Within.of_below hb
  have kk := BA_xs.out.within hw (by omega); clear BA_xs; have BA_xs := Lib.hid kk; clear kk
  have kk := BA_xx.out.within hw (by omega); clear BA_xx; have BA_xx := Lib.hid kk; clear kk
  have kk := BA_xy.out.within hw (by omega); clear BA_xy; have BA_xy := Lib.hid kk; clear kk
  have kk := hw.oi RG_si.out (by omega); clear RG_si; have RG_si := Lib.hid kk; clear kk
  have kk := hw.oi RG_xi.out (by omega); clear RG_xi; have RG_xi := Lib.hid kk; clear kk
  have kk := bthen C.out hb; clear C; have C := Lib.hid kk; clear kk
  clear hw
  clear hb
  go_wp2_with fail
  refine (eqIntS_any w10 w10.heap.size w10.heap.size xiA xjA xin xjn S hSm (Nat.le_refl _) (Nat.le_refl _) RG_xi.out.il RG_xj.out.il).mono ?_
  rintro e w11 ⟨rfl, hb⟩
  have hsw11 := hb.size
  have hw : Within 0 0 w10 w11 := Within.of_below hb
  have kk := BA_xs.out.within hw (by omega); clear BA_xs; have BA_xs := Lib.hid kk; clear kk
  have kk := BA_xx.out.within hw (by omega); clear BA_xx; have BA_xx := Lib.hid kk; clear kk
  have kk := BA_xy.out.within hw (by omega); clear BA_xy; have BA_xy := Lib.hid kk; clear kk
  have kk := hw.oi RG_si.out (by omega); clear RG_si; have RG_si := Lib.hid kk; clear kk
  have kk := hw.oi RG_xi.out (by omega); clear RG_xi; have RG_xi := Lib.hid kk; clear kk
  have kk := hw.oi RG_xj.out (by omega); clear RG_xj; have RG_xj := Lib.hid kk; clear kk
  have kk := bthen C.out hb; clear C; have C := Lib.hid kk; clear kk
  clear hw
  clear hb
  go_wp2_with fail
  go_ret
  exact ⟨rfl, C.out⟩
end Go.Proofs.Ythmbpcnpmfiaoaa
