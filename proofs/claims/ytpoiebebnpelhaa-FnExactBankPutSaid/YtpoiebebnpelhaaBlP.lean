/- Chapter 2: the walk of the law FnExactBankPut (gen_law_bank.py). -/
import Derived.Test.YtpoiebebnpelhaaBkX
namespace Go.Proofs.Ytpoiebebnpelhaa
open Go.RowKit
set_option linter.unusedVariables false
theorem eqBank_any (w : World) (B B' : Nat) (A A' : Option Addr) (c c' : Nat) (l l' : List Cl) (hl : l.length ≤ maxLen) (hc : l'.map cont = l.map cont) (hB : B ≤ w.heap.size) (hB' : B' ≤ w.heap.size) (hS : KL w B A l) (hV : ∀ x ∈ l, CV w B x) (hS' : KL w B' A' l') (hV' : ∀ x ∈ l', CV w B' x) :
    Calls Try.prog 13 #[.slice A l.length c, .slice A' l'.length c'] w fun e w' => e = .returned (.bool true) ∧ Below w.heap.size w w' := by
  rw [len_cont hc]
  exact eqColumnS_any w B B' A A' c c' l.length l l' hl rfl hc hB hB' hS hV hS' hV'
def totC (C : List Cont) : Nat := (C.map fun t => t.2.1.length + t.2.2.length).sum
theorem totC_map (l : List Cl) : totC (l.map cont) = totK l := by unfold totC totK; rw [List.map_map]; rfl
theorem totC_set : ∀ (C : List Cont) (k : Nat) (y : Cont), totC (C.set k y) ≤ totC C + (y.2.1.length + y.2.2.length)
  | [], k, y => by simp [totC]
  | a :: r, 0, y => by simp [totC]; omega
  | a :: r, k + 1, y => by
    have := totC_set r k y
    simp only [List.set_cons_succ]
    simp only [totC, List.map_cons, List.sum_cons] at this ⊢
    omega
theorem bkPt_tot {l l' : List Cl} {p size : Int} {g : Gp} {b : Bool} (h : bkPt l p size (l'.map cont) g b) (hl : l.length + totK l ≤ 1048576) : l'.length ≤ l.length ∧ l.length ≤ l'.length ∧ l'.length + totK l' ≤ 4194304 := by
  rcases h with ⟨hp, ⟨k, x, hx, hk, h⟩, _⟩ | ⟨_, h, _⟩
  · have h1 := congrArg List.length h
    simp only [List.length_map, List.length_set] at h1
    have h2 := totC_set (l.map cont) k (x.z, x.F, fillL (fitV (bgO l) size).1 p size x.L)
    rw [← h, totC_map, totC_map] at h2
    have h3 := totK_mem (List.mem_of_getElem? hx)
    have h4 := fillL_len (fitV (bgO l) size).1 p size x.L
    dsimp only at h2
    omega
  · have h1 := len_cont h; have h2 := totK_cont h; omega

set_option maxRecDepth 100000 in
set_option maxHeartbeats 4000000 in
theorem bptLaw_walk (A : Option Addr) (c : Nat) (l : List Cl) (p : Int) (size : Int) (w : World) (hl : l.length ≤ maxLen) (hS : KL w w.heap.size A l) (hV : ∀ x ∈ l, CV w w.heap.size x) :
    Calls Try.prog 5 #[.slice A l.length c, .int .i64 p, .int .i64 size] w fun e w' => e = .returned (.bool true) ∧ Below w.heap.size w w' := by
  have HS := Lib.hid hS; have HV := Lib.hid hV; clear hS hV
  go_enter Try.func5, Try.ntmps5
  go_wp2_with fail
  refine (szBank_any w w.heap.size A c l hl (Nat.le_refl _) HS.out HV.out).mono ?_
  rintro e w1 ⟨r, rfl, hr, hb⟩
  rcases hr with rfl | ⟨hr0, htot⟩
  · go_wp2_with fail
    go_ret
    exact ⟨rfl, hb⟩
  have hl2 : l.length ≤ 1048576 := by omega
  have HSM := Lib.hid (small_tot (l := l) (by omega))
  have C := Lib.hid hb
  have hsw1 := hb.size
  clear hb
  go_wp2_with fail
  refine (toBank_any w1 w.heap.size A c l hl2 HSM.out (by omega) (HS.out.below C.out) (fun x hx => (HV.out x hx).later (Nat.le_refl _) C.out)).mono ?_
  rintro e w2 ⟨xsA, xsl, rfl, hct, hba, hb⟩
  have hlenxs : xsl.length ≤ l.length ∧ l.length ≤ xsl.length := by have := len_cont hct; omega
  obtain ⟨hlnxs, hlmxs⟩ := hlenxs
  have CT_xs := Lib.hid hct; have SM_xs := Lib.hid (small_cont hct HSM.out); have TT_xs := Lib.hid (totK_cont hct); have BA_xs := Lib.hid hba; clear hct hba
  have hsw2 := hb.size
  have hw : Within 0 0 w1 w2 := Within.of_below hb
  have kk := bthen C.out hb; clear C; have C := Lib.hid kk; clear kk
  clear hw
  clear hb
  go_wp2_with fail
  refine (bptS_any w2 w2.heap.size xsA xsl.length l.length p size xsl rfl (by omega) SM_xs.out (Nat.le_refl _) BA_xs.out.kl (BA_xs.out.cv SM_xs.out)).mono ?_
  rintro e w3 ⟨xrA, xrc, xrl, ⟨xrg, xrh, xrk⟩, xrb, rfl, hres, hsr, hba, hb⟩
  have hres2 := bkPt_cont CT_xs.out hres; clear hres
  have htt := bkPt_tot hres2 (by omega)
  have HRES := Lib.hid hres2; clear hres2
  have TB_xr := Lib.hid htt; clear htt
  have SM_xr := Lib.hid hsr; have BA_xr := Lib.hid hba; clear hsr hba
  have hsw3 := hb.size
  have hw : Within 0 0 w2 w3 := Within.of_below hb
  have kk := BA_xs.out.within hw (by omega); clear BA_xs; have BA_xs := Lib.hid kk; clear kk
  have kk := bthen C.out hb; clear C; have C := Lib.hid kk; clear kk
  clear hw
  clear hb
  go_wp2_with fail
  generalize hX : (w3.alloc (.cells #[.int .i64 xrg, .int .i64 xrh, .int .i64 xrk] 34)) = w4
  have hb : Below w3.heap.size w3 w4 := by rw [← hX]; exact balloc _ _
  have K_r := Lib.hid (show Has w4 w3.heap.size 34 #[.int .i64 xrg, .int .i64 xrh, .int .i64 xrk] by rw [← hX]; exact has_new _ _ _)
  clear hX
  have hlr := has_lt K_r.out
  have hsw4 := hb.size
  have hw : Within 0 0 w3 w4 := Within.of_below hb
  have kk := BA_xs.out.within hw (by omega); clear BA_xs; have BA_xs := Lib.hid kk; clear kk
  have kk := BA_xr.out.within hw (by omega); clear BA_xr; have BA_xr := Lib.hid kk; clear kk
  have kk := bthen C.out hb; clear C; have C := Lib.hid kk; clear kk
  clear hw
  clear hb
  go_wp2_with fail
  refine (toBank_any w4 w.heap.size A c l hl2 HSM.out (by omega) (HS.out.below C.out) (fun x hx => (HV.out x hx).later (Nat.le_refl _) C.out)).mono ?_
  rintro e w5 ⟨xxA, xxl, rfl, hct, hba, hb⟩
  have hlenxx : xxl.length ≤ l.length ∧ l.length ≤ xxl.length := by have := len_cont hct; omega
  obtain ⟨hlnxx, hlmxx⟩ := hlenxx
  have CT_xx := Lib.hid hct; have SM_xx := Lib.hid (small_cont hct HSM.out); have TT_xx := Lib.hid (totK_cont hct); have BA_xx := Lib.hid hba; clear hct hba
  have hsw5 := hb.size
  have hw : Within 0 0 w4 w5 := Within.of_below hb
  have kk := hw.has K_r.out (by omega); clear K_r; have K_r := Lib.hid kk; clear kk
  have kk := BA_xs.out.within hw (by omega); clear BA_xs; have BA_xs := Lib.hid kk; clear kk
  have kk := BA_xr.out.within hw (by omega); clear BA_xr; have BA_xr := Lib.hid kk; clear kk
  have kk := bthen C.out hb; clear C; have C := Lib.hid kk; clear kk
  clear hw
  clear hb
  go_wp2_with fail
  refine (bptI_any w5 w5.heap.size xxA xxl.length l.length p size xxl rfl (by omega) SM_xx.out (Nat.le_refl _) BA_xx.out.kl (BA_xx.out.cv SM_xx.out)).mono ?_
  rintro e w6 ⟨xgA, xgc, xgl, ⟨xgg, xgh, xgk⟩, xgb, rfl, hres, hsr, hba, hb⟩
  have hres2 := bkPt_cont CT_xx.out hres; clear hres
  obtain ⟨hcq, hgq, rfl⟩ := bkPt_det HRES.out hres2
  injection hgq with q1 q2 q3; subst q1; subst q2; subst q3
  have htt := bkPt_tot hres2 (by omega)
  have TB_xg := Lib.hid htt; clear htt
  have CQ_xg := Lib.hid hcq; clear hcq hres2
  have SM_xg := Lib.hid hsr; have BA_xg := Lib.hid hba; clear hsr hba
  have hsw6 := hb.size
  have hw : Within 0 0 w5 w6 := Within.of_below hb
  have kk := hw.has K_r.out (by omega); clear K_r; have K_r := Lib.hid kk; clear kk
  have kk := BA_xs.out.within hw (by omega); clear BA_xs; have BA_xs := Lib.hid kk; clear kk
  have kk := BA_xr.out.within hw (by omega); clear BA_xr; have BA_xr := Lib.hid kk; clear kk
  have kk := BA_xx.out.within hw (by omega); clear BA_xx; have BA_xx := Lib.hid kk; clear kk
  have kk := bthen C.out hb; clear C; have C := Lib.hid kk; clear kk
  clear hw
  clear hb
  go_wp2_with fail
  generalize hX : (w6.alloc (.cells #[.int .i64 xrg, .int .i64 xrh, .int .i64 xrk] 34)) = w7
  have hb : Below w6.heap.size w6 w7 := by rw [← hX]; exact balloc _ _
  have K_g := Lib.hid (show Has w7 w6.heap.size 34 #[.int .i64 xrg, .int .i64 xrh, .int .i64 xrk] by rw [← hX]; exact has_new _ _ _)
  clear hX
  have hlg := has_lt K_g.out
  have hsw7 := hb.size
  have hw : Within 0 0 w6 w7 := Within.of_below hb
  have kk := hw.has K_r.out (by omega); clear K_r; have K_r := Lib.hid kk; clear kk
  have kk := BA_xs.out.within hw (by omega); clear BA_xs; have BA_xs := Lib.hid kk; clear kk
  have kk := BA_xr.out.within hw (by omega); clear BA_xr; have BA_xr := Lib.hid kk; clear kk
  have kk := BA_xx.out.within hw (by omega); clear BA_xx; have BA_xx := Lib.hid kk; clear kk
  have kk := BA_xg.out.within hw (by omega); clear BA_xg; have BA_xg := Lib.hid kk; clear kk
  have kk := bthen C.out hb; clear C; have C := Lib.hid kk; clear kk
  clear hw
  clear hb
  go_wp2_with fail
  refine (eqBank_any w7 w7.heap.size w7.heap.size xgA xrA xgc xrc xgl xrl (by have := TB_xg.out; unfold maxLen; omega) (CQ_xg.out) (Nat.le_refl _) (Nat.le_refl _) BA_xg.out.kl (BA_xg.out.cv SM_xg.out) BA_xr.out.kl (BA_xr.out.cv SM_xr.out)).mono ?_
  rintro e w8 ⟨rfl, hb⟩
  have hsw8 := hb.size
  have hw : Within 0 0 w7 w8 := Within.of_below hb
  have kk := hw.has K_r.out (by omega); clear K_r; have K_r := Lib.hid kk; clear kk
  have kk := hw.has K_g.out (by omega); clear K_g; have K_g := Lib.hid kk; clear kk
  have kk := BA_xs.out.within hw (by omega); clear BA_xs; have BA_xs := Lib.hid kk; clear kk
  have kk := BA_xr.out.within hw (by omega); clear BA_xr; have BA_xr := Lib.hid kk; clear kk
  have kk := BA_xx.out.within hw (by omega); clear BA_xx; have BA_xx := Lib.hid kk; clear kk
  have kk := BA_xg.out.within hw (by omega); clear BA_xg; have BA_xg := Lib.hid kk; clear kk
  have kk := bthen C.out hb; clear C; have C := Lib.hid kk; clear kk
  clear hw
  clear hb
  have eg0 := has_cell K_g.out 0 rfl
  have eg1 := has_cell K_g.out 1 rfl
  have eg2 := has_cell K_g.out 2 rfl
  have hhg := has_lt K_g.out
  have er0 := has_cell K_r.out 0 rfl
  have er1 := has_cell K_r.out 1 rfl
  have er2 := has_cell K_r.out 2 rfl
  have hhr := has_lt K_r.out
  go_wp2_with fail
  refine (eqGap_any xrg xrh xrk w8).mono ?_
  rintro e w9 ⟨rfl, hb⟩
  clear eg0 eg1 eg2 er0 er1 er2 hhg hhr
  have hsw9 := hb.size
  have hw : Within 0 0 w8 w9 := Within.of_below hb
  have kk := hw.has K_r.out (by omega); clear K_r; have K_r := Lib.hid kk; clear kk
  have kk := hw.has K_g.out (by omega); clear K_g; have K_g := Lib.hid kk; clear kk
  have kk := BA_xs.out.within hw (by omega); clear BA_xs; have BA_xs := Lib.hid kk; clear kk
  have kk := BA_xr.out.within hw (by omega); clear BA_xr; have BA_xr := Lib.hid kk; clear kk
  have kk := BA_xx.out.within hw (by omega); clear BA_xx; have BA_xx := Lib.hid kk; clear kk
  have kk := BA_xg.out.within hw (by omega); clear BA_xg; have BA_xg := Lib.hid kk; clear kk
  have kk := bthen C.out hb; clear C; have C := Lib.hid kk; clear kk
  clear hw
  clear hb
  have nb : (xrb != xrb) = false := by simp
  go_wp2_with fail
  refine (toBank_any w9 w.heap.size A c l hl2 HSM.out (by omega) (HS.out.below C.out) (fun x hx => (HV.out x hx).later (Nat.le_refl _) C.out)).mono ?_
  rintro e w10 ⟨xyA, xyl, rfl, hct, hba, hb⟩
  have hlenxy : xyl.length ≤ l.length ∧ l.length ≤ xyl.length := by have := len_cont hct; omega
  obtain ⟨hlnxy, hlmxy⟩ := hlenxy
  have CT_xy := Lib.hid hct; have SM_xy := Lib.hid (small_cont hct HSM.out); have TT_xy := Lib.hid (totK_cont hct); have BA_xy := Lib.hid hba; clear hct hba
  have hsw10 := hb.size
  have hw : Within 0 0 w9 w10 := Within.of_below hb
  have kk := hw.has K_r.out (by omega); clear K_r; have K_r := Lib.hid kk; clear kk
  have kk := hw.has K_g.out (by omega); clear K_g; have K_g := Lib.hid kk; clear kk
  have kk := BA_xs.out.within hw (by omega); clear BA_xs; have BA_xs := Lib.hid kk; clear kk
  have kk := BA_xr.out.within hw (by omega); clear BA_xr; have BA_xr := Lib.hid kk; clear kk
  have kk := BA_xx.out.within hw (by omega); clear BA_xx; have BA_xx := Lib.hid kk; clear kk
  have kk := BA_xg.out.within hw (by omega); clear BA_xg; have BA_xg := Lib.hid kk; clear kk
  have kk := bthen C.out hb; clear C; have C := Lib.hid kk; clear kk
  clear hw
  clear hb
  clear nb
  go_wp2_with fail
  refine (eqBank_any w10 w10.heap.size w10.heap.size xxA xyA l.length l.length xxl xyl (by unfold maxLen; omega) (CT_xy.out.trans CT_xx.out.symm) (Nat.le_refl _) (Nat.le_refl _) BA_xx.out.kl (BA_xx.out.cv SM_xx.out) BA_xy.out.kl (BA_xy.out.cv SM_xy.out)).mono ?_
  rintro e w11 ⟨rfl, hb⟩
  have hsw11 := hb.size
  have hw : Within 0 0 w10 w11 := Within.of_below hb
  have kk := hw.has K_r.out (by omega); clear K_r; have K_r := Lib.hid kk; clear kk
  have kk := hw.has K_g.out (by omega); clear K_g; have K_g := Lib.hid kk; clear kk
  have kk := BA_xs.out.within hw (by omega); clear BA_xs; have BA_xs := Lib.hid kk; clear kk
  have kk := BA_xr.out.within hw (by omega); clear BA_xr; have BA_xr := Lib.hid kk; clear kk
  have kk := BA_xx.out.within hw (by omega); clear BA_xx; have BA_xx := Lib.hid kk; clear kk
  have kk := BA_xg.out.within hw (by omega); clear BA_xg; have BA_xg := Lib.hid kk; clear kk
  have kk := BA_xy.out.within hw (by omega); clear BA_xy; have BA_xy := Lib.hid kk; clear kk
  have kk := bthen C.out hb; clear C; have C := Lib.hid kk; clear kk
  clear hw
  clear hb
  go_wp2_with fail
  refine (markBank_any w11 (w4.heap.size) (w5.heap.size) xxA xxl.length l.length xxl 1 rfl (by have := TT_xx.out; omega) SM_xx.out (by omega) (by omega) BA_xx.out).mono ?_
  rintro e w12 ⟨rfl, hba, hw⟩
  clear BA_xx; have BA_xx := Lib.hid hba; clear hba
  have hsw12 := hw.size
  have htbw12 := (totM_bd xxl).1
  have kk := hw.has K_r.out (by omega); clear K_r; have K_r := Lib.hid kk; clear kk
  have kk := hw.has K_g.out (by omega); clear K_g; have K_g := Lib.hid kk; clear kk
  have kk := BA_xs.out.within hw (by omega); clear BA_xs; have BA_xs := Lib.hid kk; clear kk
  have kk := BA_xr.out.within hw (by omega); clear BA_xr; have BA_xr := Lib.hid kk; clear kk
  have kk := BA_xg.out.within hw (by omega); clear BA_xg; have BA_xg := Lib.hid kk; clear kk
  have kk := BA_xy.out.within hw (by omega); clear BA_xy; have BA_xy := Lib.hid kk; clear kk
  have kk := C.out.trans (hw.below (B := w.heap.size) (by omega) (by omega)); clear C; have C := Lib.hid kk; clear kk
  clear hw
  go_wp2_with fail
  refine (eqBank_any w12 w12.heap.size w12.heap.size xgA xrA xgc xrc xgl xrl (by have := TB_xg.out; unfold maxLen; omega) (CQ_xg.out) (Nat.le_refl _) (Nat.le_refl _) BA_xg.out.kl (BA_xg.out.cv SM_xg.out) BA_xr.out.kl (BA_xr.out.cv SM_xr.out)).mono ?_
  rintro e w13 ⟨rfl, hb⟩
  have hsw13 := hb.size
  have hw : Within 0 0 w12 w13 := Within.of_below hb
  have kk := hw.has K_r.out (by omega); clear K_r; have K_r := Lib.hid kk; clear kk
  have kk := hw.has K_g.out (by omega); clear K_g; have K_g := Lib.hid kk; clear kk
  have kk := BA_xs.out.within hw (by omega); clear BA_xs; have BA_xs := Lib.hid kk; clear kk
  have kk := BA_xr.out.within hw (by omega); clear BA_xr; have BA_xr := Lib.hid kk; clear kk
  have kk := BA_xx.out.within hw (by omega); clear BA_xx; have BA_xx := Lib.hid kk; clear kk
  have kk := BA_xg.out.within hw (by omega); clear BA_xg; have BA_xg := Lib.hid kk; clear kk
  have kk := BA_xy.out.within hw (by omega); clear BA_xy; have BA_xy := Lib.hid kk; clear kk
  have kk := bthen C.out hb; clear C; have C := Lib.hid kk; clear kk
  clear hw
  clear hb
  have eg0 := has_cell K_g.out 0 rfl
  have eg1 := has_cell K_g.out 1 rfl
  have eg2 := has_cell K_g.out 2 rfl
  have hhg := has_lt K_g.out
  have er0 := has_cell K_r.out 0 rfl
  have er1 := has_cell K_r.out 1 rfl
  have er2 := has_cell K_r.out 2 rfl
  have hhr := has_lt K_r.out
  go_wp2_with fail
  refine (eqGap_any xrg xrh xrk w13).mono ?_
  rintro e w14 ⟨rfl, hb⟩
  clear eg0 eg1 eg2 er0 er1 er2 hhg hhr
  have hsw14 := hb.size
  have hw : Within 0 0 w13 w14 := Within.of_below hb
  have kk := hw.has K_r.out (by omega); clear K_r; have K_r := Lib.hid kk; clear kk
  have kk := hw.has K_g.out (by omega); clear K_g; have K_g := Lib.hid kk; clear kk
  have kk := BA_xs.out.within hw (by omega); clear BA_xs; have BA_xs := Lib.hid kk; clear kk
  have kk := BA_xr.out.within hw (by omega); clear BA_xr; have BA_xr := Lib.hid kk; clear kk
  have kk := BA_xx.out.within hw (by omega); clear BA_xx; have BA_xx := Lib.hid kk; clear kk
  have kk := BA_xg.out.within hw (by omega); clear BA_xg; have BA_xg := Lib.hid kk; clear kk
  have kk := BA_xy.out.within hw (by omega); clear BA_xy; have BA_xy := Lib.hid kk; clear kk
  have kk := bthen C.out hb; clear C; have C := Lib.hid kk; clear kk
  clear hw
  clear hb
  have nb : (xrb != xrb) = false := by simp
  go_wp2_with fail
  refine (markBank_any w14 (w5.heap.size) (w6.heap.size) xgA xgl.length xgc xgl 1 rfl (by have := TB_xg.out; omega) SM_xg.out (by omega) (by omega) BA_xg.out).mono ?_
  rintro e w15 ⟨rfl, hba, hw⟩
  clear BA_xg; have BA_xg := Lib.hid hba; clear hba
  have hsw15 := hw.size
  have htbw15 := (totM_bd xgl).1
  have kk := hw.has K_r.out (by omega); clear K_r; have K_r := Lib.hid kk; clear kk
  have kk := hw.has K_g.out (by omega); clear K_g; have K_g := Lib.hid kk; clear kk
  have kk := BA_xs.out.within hw (by omega); clear BA_xs; have BA_xs := Lib.hid kk; clear kk
  have kk := BA_xr.out.within hw (by omega); clear BA_xr; have BA_xr := Lib.hid kk; clear kk
  have kk := BA_xx.out.within hw (by omega); clear BA_xx; have BA_xx := Lib.hid kk; clear kk
  have kk := BA_xy.out.within hw (by omega); clear BA_xy; have BA_xy := Lib.hid kk; clear kk
  have kk := C.out.trans (hw.below (B := w.heap.size) (by omega) (by omega)); clear C; have C := Lib.hid kk; clear kk
  clear hw
  clear nb
  go_wp2_with fail
  refine (heldBank_any w15 (w5.heap.size) (w6.heap.size) xgA xgl.length xgc xgl 1 rfl (by have := TB_xg.out; omega) SM_xg.out (by omega) (by omega) BA_xg.out).mono ?_
  rintro e w16 ⟨rfl, hb⟩
  have hsw16 := hb.size
  have hw : Within 0 0 w15 w16 := Within.of_below hb
  have kk := hw.has K_r.out (by omega); clear K_r; have K_r := Lib.hid kk; clear kk
  have kk := hw.has K_g.out (by omega); clear K_g; have K_g := Lib.hid kk; clear kk
  have kk := BA_xs.out.within hw (by omega); clear BA_xs; have BA_xs := Lib.hid kk; clear kk
  have kk := BA_xr.out.within hw (by omega); clear BA_xr; have BA_xr := Lib.hid kk; clear kk
  have kk := BA_xx.out.within hw (by omega); clear BA_xx; have BA_xx := Lib.hid kk; clear kk
  have kk := BA_xg.out.within hw (by omega); clear BA_xg; have BA_xg := Lib.hid kk; clear kk
  have kk := BA_xy.out.within hw (by omega); clear BA_xy; have BA_xy := Lib.hid kk; clear kk
  have kk := bthen C.out hb; clear C; have C := Lib.hid kk; clear kk
  clear hw
  clear hb
  have nq : ((1 + totM xgl) != (1 + totM xgl)) = false := by simp
  have htq := (totM_bd xgl).1
  go_wp2_with fail
  refine (toBank_any w16 w.heap.size A c l hl2 HSM.out (by omega) (HS.out.below C.out) (fun x hx => (HV.out x hx).later (Nat.le_refl _) C.out)).mono ?_
  rintro e w17 ⟨xdA, xdl, rfl, hct, hba, hb⟩
  have hlenxd : xdl.length ≤ l.length ∧ l.length ≤ xdl.length := by have := len_cont hct; omega
  obtain ⟨hlnxd, hlmxd⟩ := hlenxd
  have CT_xd := Lib.hid hct; have SM_xd := Lib.hid (small_cont hct HSM.out); have TT_xd := Lib.hid (totK_cont hct); have BA_xd := Lib.hid hba; clear hct hba
  have hsw17 := hb.size
  have hw : Within 0 0 w16 w17 := Within.of_below hb
  have kk := hw.has K_r.out (by omega); clear K_r; have K_r := Lib.hid kk; clear kk
  have kk := hw.has K_g.out (by omega); clear K_g; have K_g := Lib.hid kk; clear kk
  have kk := BA_xs.out.within hw (by omega); clear BA_xs; have BA_xs := Lib.hid kk; clear kk
  have kk := BA_xr.out.within hw (by omega); clear BA_xr; have BA_xr := Lib.hid kk; clear kk
  have kk := BA_xx.out.within hw (by omega); clear BA_xx; have BA_xx := Lib.hid kk; clear kk
  have kk := BA_xg.out.within hw (by omega); clear BA_xg; have BA_xg := Lib.hid kk; clear kk
  have kk := BA_xy.out.within hw (by omega); clear BA_xy; have BA_xy := Lib.hid kk; clear kk
  have kk := bthen C.out hb; clear C; have C := Lib.hid kk; clear kk
  clear hw
  clear hb
  clear nq
  go_wp2_with fail
  refine (bptI_any w17 w17.heap.size xdA xdl.length l.length p size xdl rfl (by omega) SM_xd.out (Nat.le_refl _) BA_xd.out.kl (BA_xd.out.cv SM_xd.out)).mono ?_
  rintro e w18 ⟨xvA, xvc, xvl, ⟨xvg, xvh, xvk⟩, xvb, rfl, hres, hsr, hba, hb⟩
  have hres2 := bkPt_cont CT_xd.out hres; clear hres
  obtain ⟨hcq, hgq, rfl⟩ := bkPt_det HRES.out hres2
  injection hgq with q1 q2 q3; subst q1; subst q2; subst q3
  have htt := bkPt_tot hres2 (by omega)
  have TB_xv := Lib.hid htt; clear htt
  have CQ_xv := Lib.hid hcq; clear hcq hres2
  have SM_xv := Lib.hid hsr; have BA_xv := Lib.hid hba; clear hsr hba
  have hsw18 := hb.size
  have hw : Within 0 0 w17 w18 := Within.of_below hb
  have kk := hw.has K_r.out (by omega); clear K_r; have K_r := Lib.hid kk; clear kk
  have kk := hw.has K_g.out (by omega); clear K_g; have K_g := Lib.hid kk; clear kk
  have kk := BA_xs.out.within hw (by omega); clear BA_xs; have BA_xs := Lib.hid kk; clear kk
  have kk := BA_xr.out.within hw (by omega); clear BA_xr; have BA_xr := Lib.hid kk; clear kk
  have kk := BA_xx.out.within hw (by omega); clear BA_xx; have BA_xx := Lib.hid kk; clear kk
  have kk := BA_xg.out.within hw (by omega); clear BA_xg; have BA_xg := Lib.hid kk; clear kk
  have kk := BA_xy.out.within hw (by omega); clear BA_xy; have BA_xy := Lib.hid kk; clear kk
  have kk := BA_xd.out.within hw (by omega); clear BA_xd; have BA_xd := Lib.hid kk; clear kk
  have kk := bthen C.out hb; clear C; have C := Lib.hid kk; clear kk
  clear hw
  clear hb
  go_wp2_with fail
  generalize hX : (w18.alloc (.cells #[.int .i64 xrg, .int .i64 xrh, .int .i64 xrk] 34)) = w19
  have hb : Below w18.heap.size w18 w19 := by rw [← hX]; exact balloc _ _
  have K_v := Lib.hid (show Has w19 w18.heap.size 34 #[.int .i64 xrg, .int .i64 xrh, .int .i64 xrk] by rw [← hX]; exact has_new _ _ _)
  clear hX
  have hlv := has_lt K_v.out
  have hsw19 := hb.size
  have hw : Within 0 0 w18 w19 := Within.of_below hb
  have kk := hw.has K_r.out (by omega); clear K_r; have K_r := Lib.hid kk; clear kk
  have kk := hw.has K_g.out (by omega); clear K_g; have K_g := Lib.hid kk; clear kk
  have kk := BA_xs.out.within hw (by omega); clear BA_xs; have BA_xs := Lib.hid kk; clear kk
  have kk := BA_xr.out.within hw (by omega); clear BA_xr; have BA_xr := Lib.hid kk; clear kk
  have kk := BA_xx.out.within hw (by omega); clear BA_xx; have BA_xx := Lib.hid kk; clear kk
  have kk := BA_xg.out.within hw (by omega); clear BA_xg; have BA_xg := Lib.hid kk; clear kk
  have kk := BA_xy.out.within hw (by omega); clear BA_xy; have BA_xy := Lib.hid kk; clear kk
  have kk := BA_xd.out.within hw (by omega); clear BA_xd; have BA_xd := Lib.hid kk; clear kk
  have kk := BA_xv.out.within hw (by omega); clear BA_xv; have BA_xv := Lib.hid kk; clear kk
  have kk := bthen C.out hb; clear C; have C := Lib.hid kk; clear kk
  clear hw
  clear hb
  go_wp2_with fail
  refine (eqBank_any w19 w19.heap.size w19.heap.size xvA xrA xvc xrc xvl xrl (by have := TB_xv.out; unfold maxLen; omega) (CQ_xv.out) (Nat.le_refl _) (Nat.le_refl _) BA_xv.out.kl (BA_xv.out.cv SM_xv.out) BA_xr.out.kl (BA_xr.out.cv SM_xr.out)).mono ?_
  rintro e w20 ⟨rfl, hb⟩
  have hsw20 := hb.size
  have hw : Within 0 0 w19 w20 := Within.of_below hb
  have kk := hw.has K_r.out (by omega); clear K_r; have K_r := Lib.hid kk; clear kk
  have kk := hw.has K_g.out (by omega); clear K_g; have K_g := Lib.hid kk; clear kk
  have kk := hw.has K_v.out (by omega); clear K_v; have K_v := Lib.hid kk; clear kk
  have kk := BA_xs.out.within hw (by omega); clear BA_xs; have BA_xs := Lib.hid kk; clear kk
  have kk := BA_xr.out.within hw (by omega); clear BA_xr; have BA_xr := Lib.hid kk; clear kk
  have kk := BA_xx.out.within hw (by omega); clear BA_xx; have BA_xx := Lib.hid kk; clear kk
  have kk := BA_xg.out.within hw (by omega); clear BA_xg; have BA_xg := Lib.hid kk; clear kk
  have kk := BA_xy.out.within hw (by omega); clear BA_xy; have BA_xy := Lib.hid kk; clear kk
  have kk := BA_xd.out.within hw (by omega); clear BA_xd; have BA_xd := Lib.hid kk; clear kk
  have kk := BA_xv.out.within hw (by omega); clear BA_xv; have BA_xv := Lib.hid kk; clear kk
  have kk := bthen C.out hb; clear C; have C := Lib.hid kk; clear kk
  clear hw
  clear hb
  have ev0 := has_cell K_v.out 0 rfl
  have ev1 := has_cell K_v.out 1 rfl
  have ev2 := has_cell K_v.out 2 rfl
  have hhv := has_lt K_v.out
  have er0 := has_cell K_r.out 0 rfl
  have er1 := has_cell K_r.out 1 rfl
  have er2 := has_cell K_r.out 2 rfl
  have hhr := has_lt K_r.out
  go_wp2_with fail
  refine (eqGap_any xrg xrh xrk w20).mono ?_
  rintro e w21 ⟨rfl, hb⟩
  clear ev0 ev1 ev2 er0 er1 er2 hhv hhr
  have hsw21 := hb.size
  have hw : Within 0 0 w20 w21 := Within.of_below hb
  have kk := hw.has K_r.out (by omega); clear K_r; have K_r := Lib.hid kk; clear kk
  have kk := hw.has K_g.out (by omega); clear K_g; have K_g := Lib.hid kk; clear kk
  have kk := hw.has K_v.out (by omega); clear K_v; have K_v := Lib.hid kk; clear kk
  have kk := BA_xs.out.within hw (by omega); clear BA_xs; have BA_xs := Lib.hid kk; clear kk
  have kk := BA_xr.out.within hw (by omega); clear BA_xr; have BA_xr := Lib.hid kk; clear kk
  have kk := BA_xx.out.within hw (by omega); clear BA_xx; have BA_xx := Lib.hid kk; clear kk
  have kk := BA_xg.out.within hw (by omega); clear BA_xg; have BA_xg := Lib.hid kk; clear kk
  have kk := BA_xy.out.within hw (by omega); clear BA_xy; have BA_xy := Lib.hid kk; clear kk
  have kk := BA_xd.out.within hw (by omega); clear BA_xd; have BA_xd := Lib.hid kk; clear kk
  have kk := BA_xv.out.within hw (by omega); clear BA_xv; have BA_xv := Lib.hid kk; clear kk
  have kk := bthen C.out hb; clear C; have C := Lib.hid kk; clear kk
  clear hw
  clear hb
  have nb : (xrb != xrb) = false := by simp
  go_wp2_with fail
  refine (heldBank_any w21 (w5.heap.size) (w6.heap.size) xgA xgl.length xgc xgl 1 rfl (by have := TB_xg.out; omega) SM_xg.out (by omega) (by omega) BA_xg.out).mono ?_
  rintro e w22 ⟨rfl, hb⟩
  have hsw22 := hb.size
  have hw : Within 0 0 w21 w22 := Within.of_below hb
  have kk := hw.has K_r.out (by omega); clear K_r; have K_r := Lib.hid kk; clear kk
  have kk := hw.has K_g.out (by omega); clear K_g; have K_g := Lib.hid kk; clear kk
  have kk := hw.has K_v.out (by omega); clear K_v; have K_v := Lib.hid kk; clear kk
  have kk := BA_xs.out.within hw (by omega); clear BA_xs; have BA_xs := Lib.hid kk; clear kk
  have kk := BA_xr.out.within hw (by omega); clear BA_xr; have BA_xr := Lib.hid kk; clear kk
  have kk := BA_xx.out.within hw (by omega); clear BA_xx; have BA_xx := Lib.hid kk; clear kk
  have kk := BA_xg.out.within hw (by omega); clear BA_xg; have BA_xg := Lib.hid kk; clear kk
  have kk := BA_xy.out.within hw (by omega); clear BA_xy; have BA_xy := Lib.hid kk; clear kk
  have kk := BA_xd.out.within hw (by omega); clear BA_xd; have BA_xd := Lib.hid kk; clear kk
  have kk := BA_xv.out.within hw (by omega); clear BA_xv; have BA_xv := Lib.hid kk; clear kk
  have kk := bthen C.out hb; clear C; have C := Lib.hid kk; clear kk
  clear hw
  clear hb
  clear nb
  have nq : ((1 + totM xgl) != (1 + totM xgl)) = false := by simp
  go_wp2_with fail
  go_ret
  exact ⟨rfl, C.out⟩
end Go.Proofs.Ytpoiebebnpelhaa
