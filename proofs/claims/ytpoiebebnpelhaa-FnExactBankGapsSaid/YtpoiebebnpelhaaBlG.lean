/- Chapter 2: the walk of the law FnExactBankGaps (gen_law_bank.py). -/
import Derived.Test.YtpoiebebnpelhaaBkD
import Derived.Test.YtpoiebebnpelhaaBkU
namespace Go.Proofs.Ytpoiebebnpelhaa
open Go.RowKit
set_option linter.unusedVariables false
theorem eqBank_any (w : World) (B B' : Nat) (A A' : Option Addr) (c c' : Nat) (l l' : List Cl) (hl : l.length ≤ maxLen) (hc : l'.map cont = l.map cont) (hB : B ≤ w.heap.size) (hB' : B' ≤ w.heap.size) (hS : KL w B A l) (hV : ∀ x ∈ l, CV w B x) (hS' : KL w B' A' l') (hV' : ∀ x ∈ l', CV w B' x) :
    Calls Try.prog 13 #[.slice A l.length c, .slice A' l'.length c'] w fun e w' => e = .returned (.bool true) ∧ Below w.heap.size w w' := by
  rw [len_cont hc]
  exact eqColumnS_any w B B' A A' c c' l.length l l' hl rfl hc hB hB' hS hV hS' hV'

set_option maxRecDepth 100000 in
set_option maxHeartbeats 4000000 in
theorem bgLaw_walk (A : Option Addr) (c : Nat) (l : List Cl)  (w : World) (hl : l.length ≤ maxLen) (hS : KL w w.heap.size A l) (hV : ∀ x ∈ l, CV w w.heap.size x) :
    Calls Try.prog 3 #[.slice A l.length c] w fun e w' => e = .returned (.bool true) ∧ Below w.heap.size w w' := by
  have HS := Lib.hid hS; have HV := Lib.hid hV; clear hS hV
  obtain ⟨G, hG⟩ : ∃ G, bgO l = G := ⟨_, rfl⟩
  have hGl0 : G.length ≤ 144 := by rw [← hG]; exact bgO_len l
  have hGl : G.length ≤ 1048576 := by omega
  have hGm : G.length ≤ maxLen := by unfold maxLen; omega
  have HG := Lib.hid hG; clear hG hGl0
  go_enter Try.func3, Try.ntmps3
  go_wp2_with fail
  refine (szBank_any w w.heap.size A c l hl (Nat.le_refl _) HS.out HV.out).mono ?_
  rintro e w1 ⟨r, rfl, hr, hb⟩
  rcases hr with rfl | ⟨hr0, htot⟩
  · go_wp2_with fail
    go_ret
    exact ⟨rfl, hb⟩
  have hl2 : l.length ≤ 1048576 := by omega
  have HSM := Lib.hid (small_tot (l := l) (by omega))
  have C := Lib.hid hb
  have hsw1 := hb.size
  clear hb
  go_wp2_with fail
  refine (toBank_any w1 w.heap.size A c l hl2 HSM.out (by omega) (HS.out.below C.out) (fun x hx => (HV.out x hx).later (Nat.le_refl _) C.out)).mono ?_
  rintro e w2 ⟨xsA, xsl, rfl, hct, hba, hb⟩
  have hlenxs : xsl.length ≤ l.length ∧ l.length ≤ xsl.length := by have := len_cont hct; omega
  obtain ⟨hlnxs, hlmxs⟩ := hlenxs
  have CT_xs := Lib.hid hct; have SM_xs := Lib.hid (small_cont hct HSM.out); have TT_xs := Lib.hid (totK_cont hct); have BA_xs := Lib.hid hba; clear hct hba
  have hsw2 := hb.size
  have hw : Within 0 0 w1 w2 := Within.of_below hb
  have kk := bthen C.out hb; clear C; have C := Lib.hid kk; clear kk
  clear hw
  clear hb
  go_wp2_with fail
  refine (bgS_any w2 w2.heap.size xsA xsl.length l.length xsl rfl (by unfold maxLen; omega) (Nat.le_refl _) BA_xs.out.kl (BA_xs.out.cv SM_xs.out)).mono ?_
  rintro e w3 hans
  rw [bgO_cont CT_xs.out, HG.out] at hans
  obtain ⟨xrA, xrn, rfl, hP, hb⟩ := hans
  have RG_xr := Lib.hid (OI.of_or hP); clear hP
  have hsw3 := hb.size
  have hw : Within 0 0 w2 w3 := Within.of_below hb
  have kk := BA_xs.out.within hw (by omega); clear BA_xs; have BA_xs := Lib.hid kk; clear kk
  have kk := bthen C.out hb; clear C; have C := Lib.hid kk; clear kk
  clear hw
  clear hb
  go_wp2_with fail
  refine (toBank_any w3 w.heap.size A c l hl2 HSM.out (by omega) (HS.out.below C.out) (fun x hx => (HV.out x hx).later (Nat.le_refl _) C.out)).mono ?_
  rintro e w4 ⟨xxA, xxl, rfl, hct, hba, hb⟩
  have hlenxx : xxl.length ≤ l.length ∧ l.length ≤ xxl.length := by have := len_cont hct; omega
  obtain ⟨hlnxx, hlmxx⟩ := hlenxx
  have CT_xx := Lib.hid hct; have SM_xx := Lib.hid (small_cont hct HSM.out); have TT_xx := Lib.hid (totK_cont hct); have BA_xx := Lib.hid hba; clear hct hba
  have hsw4 := hb.size
  have hw : Within 0 0 w3 w4 := Within.of_below hb
  have kk := BA_xs.out.within hw (by omega); clear BA_xs; have BA_xs := Lib.hid kk; clear kk
  have kk := hw.oi RG_xr.out (by omega); clear RG_xr; have RG_xr := Lib.hid kk; clear kk
  have kk := bthen C.out hb; clear C; have C := Lib.hid kk; clear kk
  clear hw
  clear hb
  go_wp2_with fail
  refine (bgI_any w4 w4.heap.size xxA xxl.length l.length xxl rfl (by unfold maxLen; omega) (Nat.le_refl _) BA_xx.out.kl (BA_xx.out.cv SM_xx.out)).mono ?_
  rintro e w5 hans
  rw [bgO_cont CT_xx.out, HG.out] at hans
  obtain ⟨xgA, xgn, rfl, hP, hb⟩ := hans
  have RG_xg := Lib.hid (OI.of_or hP); clear hP
  have hsw5 := hb.size
  have hw : Within 0 0 w4 w5 := Within.of_below hb
  have kk := BA_xs.out.within hw (by omega); clear BA_xs; have BA_xs := Lib.hid kk; clear kk
  have kk := BA_xx.out.within hw (by omega); clear BA_xx; have BA_xx := Lib.hid kk; clear kk
  have kk := hw.oi RG_xr.out (by omega); clear RG_xr; have RG_xr := Lib.hid kk; clear kk
  have kk := bthen C.out hb; clear C; have C := Lib.hid kk; clear kk
  clear hw
  clear hb
  go_wp2_with fail
  refine (eqGapS_any w5 w5.heap.size w5.heap.size xgA xrA xgn xrn G hGm (Nat.le_refl _) (Nat.le_refl _) RG_xg.out.gp RG_xr.out.gp).mono ?_
  rintro e w6 ⟨rfl, hb⟩
  have hsw6 := hb.size
  have hw : Within 0 0 w5 w6 := Within.of_below hb
  have kk := BA_xs.out.within hw (by omega); clear BA_xs; have BA_xs := Lib.hid kk; clear kk
  have kk := BA_xx.out.within hw (by omega); clear BA_xx; have BA_xx := Lib.hid kk; clear kk
  have kk := hw.oi RG_xr.out (by omega); clear RG_xr; have RG_xr := Lib.hid kk; clear kk
  have kk := hw.oi RG_xg.out (by omega); clear RG_xg; have RG_xg := Lib.hid kk; clear kk
  have kk := bthen C.out hb; clear C; have C := Lib.hid kk; clear kk
  clear hw
  clear hb
  go_wp2_with fail
  refine (toBank_any w6 w.heap.size A c l hl2 HSM.out (by omega) (HS.out.below C.out) (fun x hx => (HV.out x hx).later (Nat.le_refl _) C.out)).mono ?_
  rintro e w7 ⟨xyA, xyl, rfl, hct, hba, hb⟩
  have hlenxy : xyl.length ≤ l.length ∧ l.length ≤ xyl.length := by have := len_cont hct; omega
  obtain ⟨hlnxy, hlmxy⟩ := hlenxy
  have CT_xy := Lib.hid hct; have SM_xy := Lib.hid (small_cont hct HSM.out); have TT_xy := Lib.hid (totK_cont hct); have BA_xy := Lib.hid hba; clear hct hba
  have hsw7 := hb.size
  have hw : Within 0 0 w6 w7 := Within.of_below hb
  have kk := BA_xs.out.within hw (by omega); clear BA_xs; have BA_xs := Lib.hid kk; clear kk
  have kk := BA_xx.out.within hw (by omega); clear BA_xx; have BA_xx := Lib.hid kk; clear kk
  have kk := hw.oi RG_xr.out (by omega); clear RG_xr; have RG_xr := Lib.hid kk; clear kk
  have kk := hw.oi RG_xg.out (by omega); clear RG_xg; have RG_xg := Lib.hid kk; clear kk
  have kk := bthen C.out hb; clear C; have C := Lib.hid kk; clear kk
  clear hw
  clear hb
  go_wp2_with fail
  refine (eqBank_any w7 w7.heap.size w7.heap.size xxA xyA l.length l.length xxl xyl (by unfold maxLen; omega) (CT_xy.out.trans CT_xx.out.symm) (Nat.le_refl _) (Nat.le_refl _) BA_xx.out.kl (BA_xx.out.cv SM_xx.out) BA_xy.out.kl (BA_xy.out.cv SM_xy.out)).mono ?_
  rintro e w8 ⟨rfl, hb⟩
  have hsw8 := hb.size
  have hw : Within 0 0 w7 w8 := Within.of_below hb
  have kk := BA_xs.out.within hw (by omega); clear BA_xs; have BA_xs := Lib.hid kk; clear kk
  have kk := BA_xx.out.within hw (by omega); clear BA_xx; have BA_xx := Lib.hid kk; clear kk
  have kk := BA_xy.out.within hw (by omega); clear BA_xy; have BA_xy := Lib.hid kk; clear kk
  have kk := hw.oi RG_xr.out (by omega); clear RG_xr; have RG_xr := Lib.hid kk; clear kk
  have kk := hw.oi RG_xg.out (by omega); clear RG_xg; have RG_xg := Lib.hid kk; clear kk
  have kk := bthen C.out hb; clear C; have C := Lib.hid kk; clear kk
  clear hw
  clear hb
  go_wp2_with fail
  refine (markBank_any w8 (w3.heap.size) (w4.heap.size) xxA xxl.length l.length xxl 1 rfl (by have := TT_xx.out; omega) SM_xx.out (by omega) (by omega) BA_xx.out).mono ?_
  rintro e w9 ⟨rfl, hba, hw⟩
  clear BA_xx; have BA_xx := Lib.hid hba; clear hba
  have hsw9 := hw.size
  have htbw9 := (totM_bd xxl).1
  have kk := BA_xs.out.within hw (by omega); clear BA_xs; have BA_xs := Lib.hid kk; clear kk
  have kk := BA_xy.out.within hw (by omega); clear BA_xy; have BA_xy := Lib.hid kk; clear kk
  have kk := hw.oi RG_xr.out (by omega); clear RG_xr; have RG_xr := Lib.hid kk; clear kk
  have kk := hw.oi RG_xg.out (by omega); clear RG_xg; have RG_xg := Lib.hid kk; clear kk
  have kk := C.out.trans (hw.below (B := w.heap.size) (by omega) (by omega)); clear C; have C := Lib.hid kk; clear kk
  clear hw
  go_wp2_with fail
  refine (eqGapS_any w9 w9.heap.size w9.heap.size xgA xrA xgn xrn G hGm (Nat.le_refl _) (Nat.le_refl _) RG_xg.out.gp RG_xr.out.gp).mono ?_
  rintro e w10 ⟨rfl, hb⟩
  have hsw10 := hb.size
  have hw : Within 0 0 w9 w10 := Within.of_below hb
  have kk := BA_xs.out.within hw (by omega); clear BA_xs; have BA_xs := Lib.hid kk; clear kk
  have kk := BA_xx.out.within hw (by omega); clear BA_xx; have BA_xx := Lib.hid kk; clear kk
  have kk := BA_xy.out.within hw (by omega); clear BA_xy; have BA_xy := Lib.hid kk; clear kk
  have kk := hw.oi RG_xr.out (by omega); clear RG_xr; have RG_xr := Lib.hid kk; clear kk
  have kk := hw.oi RG_xg.out (by omega); clear RG_xg; have RG_xg := Lib.hid kk; clear kk
  have kk := bthen C.out hb; clear C; have C := Lib.hid kk; clear kk
  clear hw
  clear hb
  go_wp2_with fail
  refine (markGap_any w10 (w4.heap.size) xgA xgn G 1 hGl (by omega) (by omega) RG_xg.out.or_).mono ?_
  rintro e w11 ⟨rfl, hF, hmk⟩
  have hw := within_marks RG_xg.out hmk
  have kk := oi_marked RG_xg.out hF gpV_seq; clear RG_xg; have RG_xg := Lib.hid kk; clear kk hF hmk
  have hsw11 := hw.size
  have kk := BA_xs.out.within hw (by omega); clear BA_xs; have BA_xs := Lib.hid kk; clear kk
  have kk := BA_xx.out.within hw (by omega); clear BA_xx; have BA_xx := Lib.hid kk; clear kk
  have kk := BA_xy.out.within hw (by omega); clear BA_xy; have BA_xy := Lib.hid kk; clear kk
  have kk := hw.oi RG_xr.out (by omega); clear RG_xr; have RG_xr := Lib.hid kk; clear kk
  have kk := C.out.trans (hw.below (B := w.heap.size) (by omega) (by omega)); clear C; have C := Lib.hid kk; clear kk
  clear hw
  go_wp2_with fail
  refine (heldGap_any w11 w11.heap.size xgA xgn G.length 1 hGl (by omega) (by omega) (Nat.le_refl _) RG_xg.out.gp).mono ?_
  rintro e w12 ⟨rfl, hb⟩
  have hsw12 := hb.size
  have hw : Within 0 0 w11 w12 := Within.of_below hb
  have kk := BA_xs.out.within hw (by omega); clear BA_xs; have BA_xs := Lib.hid kk; clear kk
  have kk := BA_xx.out.within hw (by omega); clear BA_xx; have BA_xx := Lib.hid kk; clear kk
  have kk := BA_xy.out.within hw (by omega); clear BA_xy; have BA_xy := Lib.hid kk; clear kk
  have kk := hw.oi RG_xr.out (by omega); clear RG_xr; have RG_xr := Lib.hid kk; clear kk
  have kk := hw.oi RG_xg.out (by omega); clear RG_xg; have RG_xg := Lib.hid kk; clear kk
  have kk := bthen C.out hb; clear C; have C := Lib.hid kk; clear kk
  clear hw
  clear hb
  have nq : ((1 + 3 * (G.length : Int)) != (1 + 3 * (G.length : Int))) = false := by simp
  go_wp2_with fail
  refine (toBank_any w12 w.heap.size A c l hl2 HSM.out (by omega) (HS.out.below C.out) (fun x hx => (HV.out x hx).later (Nat.le_refl _) C.out)).mono ?_
  rintro e w13 ⟨xdA, xdl, rfl, hct, hba, hb⟩
  have hlenxd : xdl.length ≤ l.length ∧ l.length ≤ xdl.length := by have := len_cont hct; omega
  obtain ⟨hlnxd, hlmxd⟩ := hlenxd
  have CT_xd := Lib.hid hct; have SM_xd := Lib.hid (small_cont hct HSM.out); have TT_xd := Lib.hid (totK_cont hct); have BA_xd := Lib.hid hba; clear hct hba
  have hsw13 := hb.size
  have hw : Within 0 0 w12 w13 := Within.of_below hb
  have kk := BA_xs.out.within hw (by omega); clear BA_xs; have BA_xs := Lib.hid kk; clear kk
  have kk := BA_xx.out.within hw (by omega); clear BA_xx; have BA_xx := Lib.hid kk; clear kk
  have kk := BA_xy.out.within hw (by omega); clear BA_xy; have BA_xy := Lib.hid kk; clear kk
  have kk := hw.oi RG_xr.out (by omega); clear RG_xr; have RG_xr := Lib.hid kk; clear kk
  have kk := hw.oi RG_xg.out (by omega); clear RG_xg; have RG_xg := Lib.hid kk; clear kk
  have kk := bthen C.out hb; clear C; have C := Lib.hid kk; clear kk
  clear hw
  clear hb
  clear nq
  go_wp2_with fail
  refine (bgI_any w13 w13.heap.size xdA xdl.length l.length xdl rfl (by unfold maxLen; omega) (Nat.le_refl _) BA_xd.out.kl (BA_xd.out.cv SM_xd.out)).mono ?_
  rintro e w14 hans
  rw [bgO_cont CT_xd.out, HG.out] at hans
  obtain ⟨xvA, xvn, rfl, hP, hb⟩ := hans
  have RG_xv := Lib.hid (OI.of_or hP); clear hP
  have hsw14 := hb.size
  have hw : Within 0 0 w13 w14 := Within.of_below hb
  have kk := BA_xs.out.within hw (by omega); clear BA_xs; have BA_xs := Lib.hid kk; clear kk
  have kk := BA_xx.out.within hw (by omega); clear BA_xx; have BA_xx := Lib.hid kk; clear kk
  have kk := BA_xy.out.within hw (by omega); clear BA_xy; have BA_xy := Lib.hid kk; clear kk
  have kk := BA_xd.out.within hw (by omega); clear BA_xd; have BA_xd := Lib.hid kk; clear kk
  have kk := hw.oi RG_xr.out (by omega); clear RG_xr; have RG_xr := Lib.hid kk; clear kk
  have kk := hw.oi RG_xg.out (by omega); clear RG_xg; have RG_xg := Lib.hid kk; clear kk
  have kk := bthen C.out hb; clear C; have C := Lib.hid kk; clear kk
  clear hw
  clear hb
  go_wp2_with fail
  refine (eqGapS_any w14 w14.heap.size w14.heap.size xvA xrA xvn xrn G hGm (Nat.le_refl _) (Nat.le_refl _) RG_xv.out.gp RG_xr.out.gp).mono ?_
  rintro e w15 ⟨rfl, hb⟩
  have hsw15 := hb.size
  have hw : Within 0 0 w14 w15 := Within.of_below hb
  have kk := BA_xs.out.within hw (by omega); clear BA_xs; have BA_xs := Lib.hid kk; clear kk
  have kk := BA_xx.out.within hw (by omega); clear BA_xx; have BA_xx := Lib.hid kk; clear kk
  have kk := BA_xy.out.within hw (by omega); clear BA_xy; have BA_xy := Lib.hid kk; clear kk
  have kk := BA_xd.out.within hw (by omega); clear BA_xd; have BA_xd := Lib.hid kk; clear kk
  have kk := hw.oi RG_xr.out (by omega); clear RG_xr; have RG_xr := Lib.hid kk; clear kk
  have kk := hw.oi RG_xg.out (by omega); clear RG_xg; have RG_xg := Lib.hid kk; clear kk
  have kk := hw.oi RG_xv.out (by omega); clear RG_xv; have RG_xv := Lib.hid kk; clear kk
  have kk := bthen C.out hb; clear C; have C := Lib.hid kk; clear kk
  clear hw
  clear hb
  go_wp2_with fail
  refine (heldGap_any w15 w15.heap.size xgA xgn G.length 1 hGl (by omega) (by omega) (Nat.le_refl _) RG_xg.out.gp).mono ?_
  rintro e w16 ⟨rfl, hb⟩
  have hsw16 := hb.size
  have hw : Within 0 0 w15 w16 := Within.of_below hb
  have kk := BA_xs.out.within hw (by omega); clear BA_xs; have BA_xs := Lib.hid kk; clear kk
  have kk := BA_xx.out.within hw (by omega); clear BA_xx; have BA_xx := Lib.hid kk; clear kk
  have kk := BA_xy.out.within hw (by omega); clear BA_xy; have BA_xy := Lib.hid kk; clear kk
  have kk := BA_xd.out.within hw (by omega); clear BA_xd; have BA_xd := Lib.hid kk; clear kk
  have kk := hw.oi RG_xr.out (by omega); clear RG_xr; have RG_xr := Lib.hid kk; clear kk
  have kk := hw.oi RG_xg.out (by omega); clear RG_xg; have RG_xg := Lib.hid kk; clear kk
  have kk := hw.oi RG_xv.out (by omega); clear RG_xv; have RG_xv := Lib.hid kk; clear kk
  have kk := bthen C.out hb; clear C; have C := Lib.hid kk; clear kk
  clear hw
  clear hb
  have nq : ((1 + 3 * (G.length : Int)) != (1 + 3 * (G.length : Int))) = false := by simp
  go_wp2_with fail
  go_ret
  exact ⟨rfl, C.out⟩
end Go.Proofs.Ytpoiebebnpelhaa
