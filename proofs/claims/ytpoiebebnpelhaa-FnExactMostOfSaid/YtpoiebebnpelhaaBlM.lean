/- Chapter 2: the walk of the law FnExactMostOf (gen_law_bank.py). -/
import Derived.Test.YtpoiebebnpelhaaBkD
import Derived.Test.YtpoiebebnpelhaaBkU
namespace Go.Proofs.Ytpoiebebnpelhaa
open Go.RowKit
set_option linter.unusedVariables false
theorem eqBank_any (w : World) (B B' : Nat) (A A' : Option Addr) (c c' : Nat) (l l' : List Cl) (hl : l.length ≤ maxLen) (hc : l'.map cont = l.map cont) (hB : B ≤ w.heap.size) (hB' : B' ≤ w.heap.size) (hS : KL w B A l) (hV : ∀ x ∈ l, CV w B x) (hS' : KL w B' A' l') (hV' : ∀ x ∈ l', CV w B' x) :
    Calls Try.prog 13 #[.slice A l.length c, .slice A' l'.length c'] w fun e w' => e = .returned (.bool true) ∧ Below w.heap.size w w' := by
  rw [len_cont hc]
  exact eqColumnS_any w B B' A A' c c' l.length l l' hl rfl hc hB hB' hS hV hS' hV'

set_option maxRecDepth 100000 in
set_option maxHeartbeats 4000000 in
theorem mostLaw_walk (A : Option Addr) (c : Nat) (l : List Cl) (size : Int) (w : World) (hl : l.length ≤ maxLen) (hS : KL w w.heap.size A l) (hV : ∀ x ∈ l, CV w w.heap.size x) :
    Calls Try.prog 7 #[.slice A l.length c, .int .i64 size] w fun e w' => e = .returned (.bool true) ∧ Below w.heap.size w w' := by
  have HS := Lib.hid hS; have HV := Lib.hid hV; clear hS hV
  obtain ⟨G, hG⟩ : ∃ G, mostV size (bgO l) = G := ⟨_, rfl⟩
  have HG := Lib.hid hG; clear hG
  go_enter Try.func7, Try.ntmps7
  go_wp2_with fail
  refine (szBank_any w w.heap.size A c l hl (Nat.le_refl _) HS.out HV.out).mono ?_
  rintro e w1 ⟨r, rfl, hr, hb⟩
  rcases hr with rfl | ⟨hr0, htot⟩
  · go_wp2_with fail
    go_ret
    exact ⟨rfl, hb⟩
  have hl2 : l.length ≤ 1048576 := by omega
  have HSM := Lib.hid (small_tot (l := l) (by omega))
  have C := Lib.hid hb
  have hsw1 := hb.size
  clear hb
  go_wp2_with fail
  refine (toBank_any w1 w.heap.size A c l hl2 HSM.out (by omega) (HS.out.below C.out) (fun x hx => (HV.out x hx).later (Nat.le_refl _) C.out)).mono ?_
  rintro e w2 ⟨xsA, xsl, rfl, hct, hba, hb⟩
  have hlenxs : xsl.length ≤ l.length ∧ l.length ≤ xsl.length := by have := len_cont hct; omega
  obtain ⟨hlnxs, hlmxs⟩ := hlenxs
  have CT_xs := Lib.hid hct; have SM_xs := Lib.hid (small_cont hct HSM.out); have TT_xs := Lib.hid (totK_cont hct); have BA_xs := Lib.hid hba; clear hct hba
  have hsw2 := hb.size
  have hw : Within 0 0 w1 w2 := Within.of_below hb
  have kk := bthen C.out hb; clear C; have C := Lib.hid kk; clear kk
  clear hw
  clear hb
  go_wp2_with fail
  refine (mostS_any w2 w2.heap.size xsA xsl.length l.length size xsl rfl (by unfold maxLen; omega) (Nat.le_refl _) BA_xs.out.kl (BA_xs.out.cv SM_xs.out)).mono ?_
  rintro e w3 hans
  rw [bgO_cont CT_xs.out, HG.out] at hans
  obtain ⟨rfl, hb⟩ := hans
  have hsw3 := hb.size
  have hw : Within 0 0 w2 w3 := Within.of_below hb
  have kk := BA_xs.out.within hw (by omega); clear BA_xs; have BA_xs := Lib.hid kk; clear kk
  have kk := bthen C.out hb; clear C; have C := Lib.hid kk; clear kk
  clear hw
  clear hb
  go_wp2_with fail
  refine (toBank_any w3 w.heap.size A c l hl2 HSM.out (by omega) (HS.out.below C.out) (fun x hx => (HV.out x hx).later (Nat.le_refl _) C.out)).mono ?_
  rintro e w4 ⟨xxA, xxl, rfl, hct, hba, hb⟩
  have hlenxx : xxl.length ≤ l.length ∧ l.length ≤ xxl.length := by have := len_cont hct; omega
  obtain ⟨hlnxx, hlmxx⟩ := hlenxx
  have CT_xx := Lib.hid hct; have SM_xx := Lib.hid (small_cont hct HSM.out); have TT_xx := Lib.hid (totK_cont hct); have BA_xx := Lib.hid hba; clear hct hba
  have hsw4 := hb.size
  have hw : Within 0 0 w3 w4 := Within.of_below hb
  have kk := BA_xs.out.within hw (by omega); clear BA_xs; have BA_xs := Lib.hid kk; clear kk
  have kk := bthen C.out hb; clear C; have C := Lib.hid kk; clear kk
  clear hw
  clear hb
  go_wp2_with fail
  refine (mostI_any w4 w4.heap.size xxA xxl.length l.length size xxl rfl (by unfold maxLen; omega) (Nat.le_refl _) BA_xx.out.kl (BA_xx.out.cv SM_xx.out)).mono ?_
  rintro e w5 hans
  rw [bgO_cont CT_xx.out, HG.out] at hans
  obtain ⟨rfl, hb⟩ := hans
  have hsw5 := hb.size
  have hw : Within 0 0 w4 w5 := Within.of_below hb
  have kk := BA_xs.out.within hw (by omega); clear BA_xs; have BA_xs := Lib.hid kk; clear kk
  have kk := BA_xx.out.within hw (by omega); clear BA_xx; have BA_xx := Lib.hid kk; clear kk
  have kk := bthen C.out hb; clear C; have C := Lib.hid kk; clear kk
  clear hw
  clear hb
  have nG : (G != G) = false := by simp
  go_wp2_with fail
  refine (toBank_any w5 w.heap.size A c l hl2 HSM.out (by omega) (HS.out.below C.out) (fun x hx => (HV.out x hx).later (Nat.le_refl _) C.out)).mono ?_
  rintro e w6 ⟨xyA, xyl, rfl, hct, hba, hb⟩
  have hlenxy : xyl.length ≤ l.length ∧ l.length ≤ xyl.length := by have := len_cont hct; omega
  obtain ⟨hlnxy, hlmxy⟩ := hlenxy
  have CT_xy := Lib.hid hct; have SM_xy := Lib.hid (small_cont hct HSM.out); have TT_xy := Lib.hid (totK_cont hct); have BA_xy := Lib.hid hba; clear hct hba
  have hsw6 := hb.size
  have hw : Within 0 0 w5 w6 := Within.of_below hb
  have kk := BA_xs.out.within hw (by omega); clear BA_xs; have BA_xs := Lib.hid kk; clear kk
  have kk := BA_xx.out.within hw (by omega); clear BA_xx; have BA_xx := Lib.hid kk; clear kk
  have kk := bthen C.out hb; clear C; have C := Lib.hid kk; clear kk
  clear hw
  clear hb
  clear nG
  go_wp2_with fail
  refine (eqBank_any w6 w6.heap.size w6.heap.size xxA xyA l.length l.length xxl xyl (by unfold maxLen; omega) (CT_xy.out.trans CT_xx.out.symm) (Nat.le_refl _) (Nat.le_refl _) BA_xx.out.kl (BA_xx.out.cv SM_xx.out) BA_xy.out.kl (BA_xy.out.cv SM_xy.out)).mono ?_
  rintro e w7 ⟨rfl, hb⟩
  have hsw7 := hb.size
  have hw : Within 0 0 w6 w7 := Within.of_below hb
  have kk := BA_xs.out.within hw (by omega); clear BA_xs; have BA_xs := Lib.hid kk; clear kk
  have kk := BA_xx.out.within hw (by omega); clear BA_xx; have BA_xx := Lib.hid kk; clear kk
  have kk := BA_xy.out.within hw (by omega); clear BA_xy; have BA_xy := Lib.hid kk; clear kk
  have kk := bthen C.out hb; clear C; have C := Lib.hid kk; clear kk
  clear hw
  clear hb
  go_wp2_with fail
  go_ret
  exact ⟨rfl, C.out⟩
end Go.Proofs.Ytpoiebebnpelhaa
