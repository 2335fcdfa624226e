/- Chapter 8: the walk of the law FnDeltas (gen_evdw.py). -/
import Derived.Test.YtdcejkompdbliaaDoorEvDe
import Derived.Test.YtdcejkompdbliaaDoorEvMx
import Derived.Test.YtdcejkompdbliaaDoorEvSm
import Derived.Test.YtdcejkompdbliaaDoorEvUj
import Derived.Test.YtdcejkompdbliaaDoorEvJ
import Derived.Test.YtdcejkompdbliaaDoorAny
namespace Go.Proofs.YtdcejkompdbliaaDoor
open Go.RowKit
set_option linter.unusedVariables false
set_option maxRecDepth 100000 in
theorem get_any8 (w : World) (B : Nat) (A : Option Addr) (c : Nat) (ks : List Int) (i : Nat) (z : Int) (hl : ks.length ≤ 1048576) (hB : B ≤ w.heap.size) (hK : IL w B A ks) (hz : ks[i]? = some z) : Calls Tryd.prog 13 #[.slice A ks.length c, .int .i64 (i : Int)] w fun e w' => e = .returned (.int .i64 z) ∧ Below w.heap.size w w' := by
  have hi : i < ks.length := (List.getElem?_eq_some_iff.1 hz).1
  obtain ⟨b, off, y, hA, hbB, hy, hd⟩ := hK.at_ hi
  subst hA
  rw [hz] at hy; injection hy with hy; subst hy
  have h1 : ¬ (i : Int) < 0 := by omega
  have h2 : ¬ (ks.length : Int) ≤ (i : Int) := by omega
  have h3 : (i : Int) < (ks.length : Int) := by omega
  have h4 : (0 : Int) ≤ (i : Int) := by omega
  clear hz hbB
  go_enter Tryd.func13, Tryd.ntmps13
  go_wp2
  go_ret
  exact ⟨rfl, Below.refl _ _⟩
set_option maxRecDepth 100000 in
set_option maxHeartbeats 8000000 in
theorem dlts_walk (w : World) (A : Option Addr) (n c : Nat) (ad : Addr) (hn : n ≤ maxLen) (hS : BS w w.heap.size A n) (hE : ErrV w ad) : Calls Tryd.prog 3 #[.slice A n c] w fun e w' => e = .returned (.bool true) ∧ Below w.heap.size w w' := by
  have HS := Lib.hid hS; have HE := Lib.hid hE; clear hS hE
  by_cases hbig : (1048576 : Int) < n
  · have hd : decide ((1048576 : Int) < n) = true := by simpa using hbig
    have HD := Lib.hid hd; clear hd
    go_enter Tryd.func3, Tryd.ntmps3
    go_wp2_with (refine (big_any _ A n c hn).mono ?_; rintro e w' ⟨rfl, hw⟩; rw [hw, HD.out]; clear hw)
    go_ret
    exact ⟨rfl, Below.refl _ _⟩
  have hd : decide ((1048576 : Int) < n) = false := by simpa using hbig
  have HD := Lib.hid hd; clear hd hbig
  go_enter Tryd.func3, Tryd.ntmps3
  go_wp2_with (go_at_call 4; refine (big_any _ A n c hn).mono ?_; rintro e w' ⟨rfl, hw⟩; rw [hw, HD.out]; clear hw)
  refine (drawB_any w A n c hn HS.out).mono ?_
  rintro e w1 ⟨va, vb, la, lb, rfl, ⟨Aa, ca, rfl, hca, D1, hO1⟩, ⟨Ab, cb, rfl, hcb, D2, hO2⟩, hb⟩
  have hla := D1.len; have hlb := D2.len; have ja := D1.jrn; have jb := D2.jrn; have fa := D1.full; have fb := D2.full
  have ZB := Lib.hid hb; have Ra := Lib.hid hO1; have Rb := Lib.hid hO2; clear hb hO1 hO2 D1 D2
  have hka : (knownE la).length = 6 := by rw [knownE_good ja, knL_len]
  have hkb : (knownE lb).length = 6 := by rw [knownE_good jb, knL_len]
  have hdl := deltaE_len lb (knownE la); have hel := deltaE_len la (knownE lb)
  have hfine := fun RR (h : mergeE la lb = (RR, true)) => (⟨delta_merge h, delta_merge2 h⟩ : mergeE la (deltaE lb (knownE la)) = (RR, true) ∧ mergeE (deltaE la (knownE lb)) lb = (RR, true))
  have hmono := fun RR (h : mergeE la lb = (RR, true)) (nd : Int) => knw_mono ja (mergeE_iff.1 h).2.2.2 (fun z hz => (mrgL_mem (mergeE_iff.1 h).2.2.1 z).2 (.inl hz)) nd
  have hfull := fun RR (h : mergeE la lb = (RR, true)) => full_none (mergeE_iff.1 h).2.2.2 (full_merge fa fb (mergeE_iff.1 h).2.2.1)
  have hknl := fun (i : Nat) (h : i < 6) => (by rw [knownE_good ja]; exact knL_at la la.length h : (knownE la)[i]? = some (knw la (i : Int)))
  have hknr := fun RR (h : mergeE la lb = (RR, true)) (i : Nat) (h6 : i < 6) => (by rw [knownE_good (mergeE_iff.1 h).2.2.2]; exact knL_at RR RR.length h6 : (knownE RR)[i]? = some (knw RR (i : Int)))
  have hkrl := fun RR (h : mergeE la lb = (RR, true)) => (by rw [knownE_good (mergeE_iff.1 h).2.2.2, knL_len] : (knownE RR).length = 6)
  obtain ⟨KA, hKA⟩ : ∃ K, knownE la = K := ⟨_, rfl⟩
  simp only [hKA] at hka hkb hdl hel hfine hknl
  obtain ⟨KB, hKB⟩ : ∃ K, knownE lb = K := ⟨_, rfl⟩
  simp only [hKB] at hka hkb hdl hel hfine hknl
  obtain ⟨DD, hDD⟩ : ∃ D, deltaE lb KA = D := ⟨_, rfl⟩; obtain ⟨EE, hEE⟩ : ∃ D, deltaE la KB = D := ⟨_, rfl⟩
  rw [hDD] at hdl; rw [hEE] at hel; simp only [hDD, hEE] at hfine
  have HKA := Lib.hid hKA; have HKB := Lib.hid hKB; have HDD := Lib.hid hDD; have HEE := Lib.hid hEE; have HF := Lib.hid hfine; have HMO := Lib.hid hmono; have HFU := Lib.hid hfull; have HNL := Lib.hid hknl; have HNR := Lib.hid hknr; have HKR := Lib.hid hkrl; clear hKA hKB hDD hEE hfine hmono hfull hknl hknr hkrl ja jb fa fb
  have hka1 : KA.length ≤ 6 := by omega
  have hka2 : 6 ≤ KA.length := by omega
  have hkb1 : KB.length ≤ 6 := by omega
  have hkb2 : 6 ≤ KB.length := by omega
  clear hka hkb
  have hle : (DD.length : Int) ≤ (lb.length : Int) := by omega
  obtain ⟨RR, V, hm⟩ : ∃ R V, mergeE la lb = (R, V) := ⟨_, _, rfl⟩
  have hrl := mergeE_sum la lb; rw [hm] at hrl; dsimp only at hrl
  have HM := Lib.hid hm; clear hm
  go_wp2_with fail
  refine (mergeS_any w1 w1.heap.size w1.heap.size Aa Ab ca cb la lb (by omega) (by omega) (Nat.le_refl _) (Nat.le_refl _) Ra.out.ev Rb.out.ev).mono ?_
  rintro e w2 hans
  rw [HM.out] at hans
  obtain ⟨Am, cm, _, rfl, hor, hb⟩ := hans
  dsimp only at hor
  replace Ra := Lib.hid (Ra.out.below hb)
  replace Rb := Lib.hid (Rb.out.below hb)
  replace ZB := Lib.hid (bthen ZB.out hb); clear hb
  have Rm := Lib.hid hor; clear hor
  go_wp2_with fail
  refine (knownI_any w2 w2.heap.size Aa ca la (by omega) (Nat.le_refl _) Ra.out.ev).mono ?_
  rintro e w3 hans
  rw [HKA.out] at hans
  obtain ⟨Ap, cp, rfl, hor, hb⟩ := hans
  replace Ra := Lib.hid (Ra.out.below hb)
  replace Rb := Lib.hid (Rb.out.below hb)
  replace Rm := Lib.hid (Rm.out.below hb)
  replace ZB := Lib.hid (bthen ZB.out hb); clear hb
  have Rp := Lib.hid hor; clear hor
  go_wp2_with fail
  refine (deltaI_any w3 w3.heap.size w3.heap.size Ab Ap cb cp lb KA (by omega) (by unfold maxLen; omega) (Nat.le_refl _) (Nat.le_refl _) Rb.out.ev Rp.out.il).mono ?_
  rintro e w4 hans
  rw [HDD.out] at hans
  obtain ⟨Ad, cd, rfl, hor, hb⟩ := hans
  replace Ra := Lib.hid (Ra.out.below hb)
  replace Rb := Lib.hid (Rb.out.below hb)
  replace Rm := Lib.hid (Rm.out.below hb)
  replace Rp := Lib.hid (Rp.out.below hb)
  replace ZB := Lib.hid (bthen ZB.out hb); clear hb
  have Rd := Lib.hid hor; clear hor
  go_wp2_with fail
  refine (knownI_any w4 w4.heap.size Ab cb lb (by omega) (Nat.le_refl _) Rb.out.ev).mono ?_
  rintro e w5 hans
  rw [HKB.out] at hans
  obtain ⟨Aq, cq, rfl, hor, hb⟩ := hans
  replace Ra := Lib.hid (Ra.out.below hb)
  replace Rb := Lib.hid (Rb.out.below hb)
  replace Rm := Lib.hid (Rm.out.below hb)
  replace Rp := Lib.hid (Rp.out.below hb)
  replace Rd := Lib.hid (Rd.out.below hb)
  replace ZB := Lib.hid (bthen ZB.out hb); clear hb
  have Rq := Lib.hid hor; clear hor
  go_wp2_with fail
  refine (deltaI_any w5 w5.heap.size w5.heap.size Aa Aq ca cq la KB (by omega) (by unfold maxLen; omega) (Nat.le_refl _) (Nat.le_refl _) Ra.out.ev Rq.out.il).mono ?_
  rintro e w6 hans
  rw [HEE.out] at hans
  obtain ⟨Ae, ce, rfl, hor, hb⟩ := hans
  replace Ra := Lib.hid (Ra.out.below hb)
  replace Rb := Lib.hid (Rb.out.below hb)
  replace Rm := Lib.hid (Rm.out.below hb)
  replace Rp := Lib.hid (Rp.out.below hb)
  replace Rd := Lib.hid (Rd.out.below hb)
  replace Rq := Lib.hid (Rq.out.below hb)
  replace ZB := Lib.hid (bthen ZB.out hb); clear hb
  have Re := Lib.hid hor; clear hor
  go_wp2_with fail
  refine (knownS_any w6 w6.heap.size Aa ca la (by omega) (Nat.le_refl _) Ra.out.ev).mono ?_
  rintro e w7 hans
  rw [HKA.out] at hans
  obtain ⟨Ar, cr, rfl, hor, hb⟩ := hans
  replace Ra := Lib.hid (Ra.out.below hb)
  replace Rb := Lib.hid (Rb.out.below hb)
  replace Rm := Lib.hid (Rm.out.below hb)
  replace Rp := Lib.hid (Rp.out.below hb)
  replace Rd := Lib.hid (Rd.out.below hb)
  replace Rq := Lib.hid (Rq.out.below hb)
  replace Re := Lib.hid (Re.out.below hb)
  replace ZB := Lib.hid (bthen ZB.out hb); clear hb
  have Rr := Lib.hid hor; clear hor
  go_wp2_with fail
  refine (deltaS_any w7 w7.heap.size w7.heap.size Ab Ar cb cr lb KA (by omega) (by unfold maxLen; omega) (Nat.le_refl _) (Nat.le_refl _) Rb.out.ev Rr.out.il).mono ?_
  rintro e w8 hans
  rw [HDD.out] at hans
  obtain ⟨Af, cf, rfl, hor, hb⟩ := hans
  replace Ra := Lib.hid (Ra.out.below hb)
  replace Rb := Lib.hid (Rb.out.below hb)
  replace Rm := Lib.hid (Rm.out.below hb)
  replace Rp := Lib.hid (Rp.out.below hb)
  replace Rd := Lib.hid (Rd.out.below hb)
  replace Rq := Lib.hid (Rq.out.below hb)
  replace Re := Lib.hid (Re.out.below hb)
  replace Rr := Lib.hid (Rr.out.below hb)
  replace ZB := Lib.hid (bthen ZB.out hb); clear hb
  have Rf := Lib.hid hor; clear hor
  go_wp2_with fail
  refine (same_any8 w8 w8.heap.size w8.heap.size Ad Af cd cf DD (by omega) (Nat.le_refl _) (Nat.le_refl _) Rd.out.ev Rf.out.ev).mono ?_
  rintro e w9 ⟨rfl, hb⟩
  replace Ra := Lib.hid (Ra.out.below hb)
  replace Rb := Lib.hid (Rb.out.below hb)
  replace Rm := Lib.hid (Rm.out.below hb)
  replace Rp := Lib.hid (Rp.out.below hb)
  replace Rd := Lib.hid (Rd.out.below hb)
  replace Rq := Lib.hid (Rq.out.below hb)
  replace Re := Lib.hid (Re.out.below hb)
  replace Rr := Lib.hid (Rr.out.below hb)
  replace Rf := Lib.hid (Rf.out.below hb)
  replace ZB := Lib.hid (bthen ZB.out hb); clear hb
  go_wp2_with fail
  refine (knownS_any w9 w9.heap.size Ab cb lb (by omega) (Nat.le_refl _) Rb.out.ev).mono ?_
  rintro e w10 hans
  rw [HKB.out] at hans
  obtain ⟨As, cs, rfl, hor, hb⟩ := hans
  replace Ra := Lib.hid (Ra.out.below hb)
  replace Rb := Lib.hid (Rb.out.below hb)
  replace Rm := Lib.hid (Rm.out.below hb)
  replace Rp := Lib.hid (Rp.out.below hb)
  replace Rd := Lib.hid (Rd.out.below hb)
  replace Rq := Lib.hid (Rq.out.below hb)
  replace Re := Lib.hid (Re.out.below hb)
  replace Rr := Lib.hid (Rr.out.below hb)
  replace Rf := Lib.hid (Rf.out.below hb)
  replace ZB := Lib.hid (bthen ZB.out hb); clear hb
  have Rs := Lib.hid hor; clear hor
  go_wp2_with fail
  refine (deltaS_any w10 w10.heap.size w10.heap.size Aa As ca cs la KB (by omega) (by unfold maxLen; omega) (Nat.le_refl _) (Nat.le_refl _) Ra.out.ev Rs.out.il).mono ?_
  rintro e w11 hans
  rw [HEE.out] at hans
  obtain ⟨Ag, cg, rfl, hor, hb⟩ := hans
  replace Ra := Lib.hid (Ra.out.below hb)
  replace Rb := Lib.hid (Rb.out.below hb)
  replace Rm := Lib.hid (Rm.out.below hb)
  replace Rp := Lib.hid (Rp.out.below hb)
  replace Rd := Lib.hid (Rd.out.below hb)
  replace Rq := Lib.hid (Rq.out.below hb)
  replace Re := Lib.hid (Re.out.below hb)
  replace Rr := Lib.hid (Rr.out.below hb)
  replace Rf := Lib.hid (Rf.out.below hb)
  replace Rs := Lib.hid (Rs.out.below hb)
  replace ZB := Lib.hid (bthen ZB.out hb); clear hb
  have Rg := Lib.hid hor; clear hor
  go_wp2_with fail
  refine (same_any8 w11 w11.heap.size w11.heap.size Ae Ag ce cg EE (by omega) (Nat.le_refl _) (Nat.le_refl _) Re.out.ev Rg.out.ev).mono ?_
  rintro e w12 ⟨rfl, hb⟩
  replace Ra := Lib.hid (Ra.out.below hb)
  replace Rb := Lib.hid (Rb.out.below hb)
  replace Rm := Lib.hid (Rm.out.below hb)
  replace Rp := Lib.hid (Rp.out.below hb)
  replace Rd := Lib.hid (Rd.out.below hb)
  replace Rq := Lib.hid (Rq.out.below hb)
  replace Re := Lib.hid (Re.out.below hb)
  replace Rr := Lib.hid (Rr.out.below hb)
  replace Rf := Lib.hid (Rf.out.below hb)
  replace Rs := Lib.hid (Rs.out.below hb)
  replace Rg := Lib.hid (Rg.out.below hb)
  replace ZB := Lib.hid (bthen ZB.out hb); clear hb
  cases V
  · skip
    go_wp2_with fail
    go_ret
    exact ⟨rfl, ZB.out⟩
  · skip
    obtain ⟨hf1, hf2⟩ := HF.out RR HM.out; have hk6 := HKR.out RR HM.out; have hfn := HFU.out RR HM.out
    obtain ⟨KR, hKR⟩ : ∃ K, knownE RR = K := ⟨_, rfl⟩
    rw [hKR] at hk6 hfn
    have hk61 : KR.length ≤ 6 := by omega
    have hk62 : 6 ≤ KR.length := by omega
    clear hk6
    have HF1 := Lib.hid hf1; have HF2 := Lib.hid hf2; have HFN := Lib.hid hfn; have HKE := Lib.hid hKR; clear hf1 hf2 hfn hKR
    go_wp2_with fail
    refine (mergeI_any w12 w12.heap.size w12.heap.size Aa Ad ca cd la DD ad (by omega) (by omega) (Nat.le_refl _) (Nat.le_refl _) Ra.out.ev Rd.out.ev (HE.out.below ZB.out)).mono ?_
    rintro e w13 hans
    rw [HF1.out] at hans
    obtain ⟨Ax, cx, _, rfl, hor, hb⟩ := hans
    dsimp only at hor
    replace Ra := Lib.hid (Ra.out.below hb)
    replace Rb := Lib.hid (Rb.out.below hb)
    replace Rm := Lib.hid (Rm.out.below hb)
    replace Rp := Lib.hid (Rp.out.below hb)
    replace Rd := Lib.hid (Rd.out.below hb)
    replace Rq := Lib.hid (Rq.out.below hb)
    replace Re := Lib.hid (Re.out.below hb)
    replace Rr := Lib.hid (Rr.out.below hb)
    replace Rf := Lib.hid (Rf.out.below hb)
    replace Rs := Lib.hid (Rs.out.below hb)
    replace Rg := Lib.hid (Rg.out.below hb)
    replace ZB := Lib.hid (bthen ZB.out hb); clear hb
    have Rx := Lib.hid hor; clear hor
    go_wp2_with fail
    refine (mergeI_any w13 w13.heap.size w13.heap.size Ae Ab ce cb EE lb ad (by omega) (by omega) (Nat.le_refl _) (Nat.le_refl _) Re.out.ev Rb.out.ev (HE.out.below ZB.out)).mono ?_
    rintro e w14 hans
    rw [HF2.out] at hans
    obtain ⟨Ay, cy, _, rfl, hor, hb⟩ := hans
    dsimp only at hor
    replace Ra := Lib.hid (Ra.out.below hb)
    replace Rb := Lib.hid (Rb.out.below hb)
    replace Rm := Lib.hid (Rm.out.below hb)
    replace Rp := Lib.hid (Rp.out.below hb)
    replace Rd := Lib.hid (Rd.out.below hb)
    replace Rq := Lib.hid (Rq.out.below hb)
    replace Re := Lib.hid (Re.out.below hb)
    replace Rr := Lib.hid (Rr.out.below hb)
    replace Rf := Lib.hid (Rf.out.below hb)
    replace Rs := Lib.hid (Rs.out.below hb)
    replace Rg := Lib.hid (Rg.out.below hb)
    replace Rx := Lib.hid (Rx.out.below hb)
    replace ZB := Lib.hid (bthen ZB.out hb); clear hb
    have Ry := Lib.hid hor; clear hor
    go_wp2_with fail
    refine (knownI_any w14 w14.heap.size Am cm RR (by omega) (Nat.le_refl _) Rm.out.ev).mono ?_
    rintro e w15 hans
    rw [HKE.out] at hans
    obtain ⟨Ak, ck, rfl, hor, hb⟩ := hans
    replace Ra := Lib.hid (Ra.out.below hb)
    replace Rb := Lib.hid (Rb.out.below hb)
    replace Rm := Lib.hid (Rm.out.below hb)
    replace Rp := Lib.hid (Rp.out.below hb)
    replace Rd := Lib.hid (Rd.out.below hb)
    replace Rq := Lib.hid (Rq.out.below hb)
    replace Re := Lib.hid (Re.out.below hb)
    replace Rr := Lib.hid (Rr.out.below hb)
    replace Rf := Lib.hid (Rf.out.below hb)
    replace Rs := Lib.hid (Rs.out.below hb)
    replace Rg := Lib.hid (Rg.out.below hb)
    replace Rx := Lib.hid (Rx.out.below hb)
    replace Ry := Lib.hid (Ry.out.below hb)
    replace ZB := Lib.hid (bthen ZB.out hb); clear hb
    have Rk := Lib.hid hor; clear hor
    go_wp2_with fail
    refine (knownS_any w15 w15.heap.size Aa ca la (by omega) (Nat.le_refl _) Ra.out.ev).mono ?_
    rintro e w16 hans
    rw [HKA.out] at hans
    obtain ⟨Al, cl, rfl, hor, hb⟩ := hans
    replace Ra := Lib.hid (Ra.out.below hb)
    replace Rb := Lib.hid (Rb.out.below hb)
    replace Rm := Lib.hid (Rm.out.below hb)
    replace Rp := Lib.hid (Rp.out.below hb)
    replace Rd := Lib.hid (Rd.out.below hb)
    replace Rq := Lib.hid (Rq.out.below hb)
    replace Re := Lib.hid (Re.out.below hb)
    replace Rr := Lib.hid (Rr.out.below hb)
    replace Rf := Lib.hid (Rf.out.below hb)
    replace Rs := Lib.hid (Rs.out.below hb)
    replace Rg := Lib.hid (Rg.out.below hb)
    replace Rx := Lib.hid (Rx.out.below hb)
    replace Ry := Lib.hid (Ry.out.below hb)
    replace Rk := Lib.hid (Rk.out.below hb)
    replace ZB := Lib.hid (bthen ZB.out hb); clear hb
    have Rl := Lib.hid hor; clear hor
    go_wp2_with fail
    go_loopw [15] (fun i wr => ∃ j : Nat, j ≤ 6 ∧ i = .int .i64 (j : Int) ∧ Below w16.heap.size w16 wr) (fun i _ => 6 - (intOf i).toNat)
    case atStart => exact ⟨0, Nat.zero_le _, rfl, Below.refl _ _⟩
    case round =>
      obtain ⟨j, hj, rfl, hb⟩ := hrel
      have HB := Lib.hid hb; have hsz := hb.size; clear hb
      by_cases hlt : j < 6
      · skip
        have hzl := HNL.out j hlt; have hzr := HNR.out RR HM.out j hlt; rw [HKE.out] at hzr; have hmo := HMO.out RR HM.out (j : Int)
        obtain ⟨y, hy⟩ : ∃ y, knw la (j : Int) = y := ⟨_, rfl⟩; obtain ⟨z, hz⟩ : ∃ z, knw RR (j : Int) = z := ⟨_, rfl⟩
        rw [hy] at hzl hmo; rw [hz] at hzr hmo; clear hy hz
        have hi6 : (j : Int) < KA.length := by omega
        have hj0 : (0 : Int) ≤ (j : Int) := by omega
        obtain ⟨b9, o9, y9, hA9, hbB9, hy9, hd9⟩ := (Rl.out.below HB.out).il.at_ (show j < KA.length by omega)
        rw [hzl] at hy9; injection hy9 with hy9; subst hy9
        have HZR := Lib.hid hzr; clear hzl hzr
        have HA9 := Lib.hid hA9; clear hA9
        have hA9 := HA9.out; subst hA9; clear HA9
        have hdl9 : decide (z < y) = false := decide_eq_false (by omega)
        go_wp2_with fail
        have S0 : (fun W : World => (W.cell? ⟨b9, o9 + j, none⟩ = some (.int .i64 y)) ∧ Below wr.heap.size wr W) wr.drew := ⟨hd9, (Below.refl _ _).drew⟩
        clear hd9
        refine wp_region_held_drew (S := (fun W : World => (W.cell? ⟨b9, o9 + j, none⟩ = some (.int .i64 y)) ∧ Below wr.heap.size wr W)) (by kernel_rfl) S0 (fun _ => ?_)
        refine any_take (i := 0) (some 77) (.slice Ak KR.length ck) rfl rfl (by kernel_rfl) (by kernel_rfl) (by kernel_rfl) (fun _ _ _ h => h) rfl (fun W hSw => ?_) (S0) ?_
        · (try dsimp only at hSw); go_simp <;> with_reducible rfl
        try simp only [Act.put, List.setIfInBounds_toArray, List.set_cons_zero, List.set_cons_succ]
        refine any_take (i := 1) (some 78) (.int .i64 (j : Int)) rfl rfl (by kernel_rfl) (by kernel_rfl) (by kernel_rfl) (fun _ _ _ h => h) rfl (fun W hSw => ?_) (S0) ?_
        · (try dsimp only at hSw); go_simp <;> with_reducible rfl
        try simp only [Act.put, List.setIfInBounds_toArray, List.set_cons_zero, List.set_cons_succ]
        refine any_take (i := 3) (some 80) (.slice (some ⟨b9, o9, none⟩) KA.length cl) rfl rfl (by kernel_rfl) (by kernel_rfl) (by kernel_rfl) (fun _ _ _ h => h) rfl (fun W hSw => ?_) (S0) ?_
        · (try dsimp only at hSw); go_simp <;> with_reducible rfl
        try simp only [Act.put, List.setIfInBounds_toArray, List.set_cons_zero, List.set_cons_succ]
        refine any_take (i := 4) (some 81) (.int .i64 (j : Int)) rfl rfl (by kernel_rfl) (by kernel_rfl) (by kernel_rfl) (fun _ _ _ h => h) rfl (fun W hSw => ?_) (S0) ?_
        · (try dsimp only at hSw); go_simp <;> with_reducible rfl
        try simp only [Act.put, List.setIfInBounds_toArray, List.set_cons_zero, List.set_cons_succ]
        refine any_take (i := 5) (some 82) (.pointer (some ⟨b9, o9 + j, none⟩)) rfl rfl (by kernel_rfl) (by kernel_rfl) (by kernel_rfl) (fun _ _ _ h => h) rfl (fun W hSw => ?_) (S0) ?_
        · (try dsimp only at hSw); go_simp <;> with_reducible rfl
        try simp only [Act.put, List.setIfInBounds_toArray, List.set_cons_zero, List.set_cons_succ]
        refine any_take (i := 6) (some 83) (.int .i64 y) rfl rfl (by kernel_rfl) (by kernel_rfl) (by kernel_rfl) (fun _ _ _ h => h) rfl (fun W hSw => ?_) (S0) ?_
        · (try dsimp only at hSw); go_simp <;> with_reducible rfl
        try simp only [Act.put, List.setIfInBounds_toArray, List.set_cons_zero, List.set_cons_succ]
        refine wpAnyH_ready (rs := [2]) (by kernel_rfl) (by simp) ?_
        refine AllReadyH.cons rfl (fun K hK => ?_) AllReadyH.nil
        go_simp
        go_at_call 13
        refine (get_any8 _ wr.heap.size Ak ck KR j z (by omega) (by simp) (show IL wr.drew wr.heap.size Ak KR from (Rk.out.below HB.out).il) HZR.out).mono ?_
        rintro e wa ⟨rfl, hb8⟩
        have hb9wa : Below wr.heap.size wr wa := bthen ((Below.refl _ _).drew : Below wr.heap.size wr wr.drew) hb8
        have Swa : (fun W : World => (W.cell? ⟨b9, o9 + j, none⟩ = some (.int .i64 y)) ∧ Below wr.heap.size wr W) wa := ⟨(bold hb9wa _ _ (hbB9)).trans S0.1, hb9wa⟩
        clear hb8
        go_wp2_with fail
        refine hK.out _ _ Swa (fun _ => ?_)
        clear hK K
        try simp only [Act.put, List.setIfInBounds_toArray, List.set_cons_zero, List.set_cons_succ]
        refine any_take (i := 7) (some 84) (.bool false) rfl rfl (by kernel_rfl) (by kernel_rfl) (by kernel_rfl) (fun _ _ _ h => h) rfl (fun W hSw => ?_) (Swa) ?_
        · (try dsimp only at hSw); go_simp <;> omega
        try simp only [Act.put, List.setIfInBounds_toArray, List.set_cons_zero, List.set_cons_succ]
        refine wpAnyH_done (by kernel_rfl) ?_ _
        have hbreg : Below wr.heap.size wr wa := Swa.2
        clear S0 Swa hb9wa
        have HB2 := Lib.hid (HB.out.trans (hbreg.mono hsz)); clear hbreg
        go_wp2_with fail
        go_roundw
        case rel => exact ⟨j + 1, by omega, by go_num, HB2.out⟩
        case measure => simp [intOf]; omega
      · skip
        have hj6 : j = 6 := by omega
        subst hj6
        have hb := HB.out
        replace Ra := Lib.hid (Ra.out.below hb)
        replace Rb := Lib.hid (Rb.out.below hb)
        replace Rm := Lib.hid (Rm.out.below hb)
        replace Rp := Lib.hid (Rp.out.below hb)
        replace Rd := Lib.hid (Rd.out.below hb)
        replace Rq := Lib.hid (Rq.out.below hb)
        replace Re := Lib.hid (Re.out.below hb)
        replace Rr := Lib.hid (Rr.out.below hb)
        replace Rf := Lib.hid (Rf.out.below hb)
        replace Rs := Lib.hid (Rs.out.below hb)
        replace Rg := Lib.hid (Rg.out.below hb)
        replace Rx := Lib.hid (Rx.out.below hb)
        replace Ry := Lib.hid (Ry.out.below hb)
        replace Rk := Lib.hid (Rk.out.below hb)
        replace Rl := Lib.hid (Rl.out.below hb)
        replace ZB := Lib.hid (bthen ZB.out hb); clear hb
        have hnl : ¬ (6 : Int) < KA.length := by omega
        go_wp2_with fail
        refine (same_any8 wr wr.heap.size wr.heap.size Ax Am cx cm RR (by omega) (Nat.le_refl _) (Nat.le_refl _) Rx.out.ev Rm.out.ev).mono ?_
        rintro e w17 ⟨rfl, hb⟩
        replace Ra := Lib.hid (Ra.out.below hb)
        replace Rb := Lib.hid (Rb.out.below hb)
        replace Rm := Lib.hid (Rm.out.below hb)
        replace Rp := Lib.hid (Rp.out.below hb)
        replace Rd := Lib.hid (Rd.out.below hb)
        replace Rq := Lib.hid (Rq.out.below hb)
        replace Re := Lib.hid (Re.out.below hb)
        replace Rr := Lib.hid (Rr.out.below hb)
        replace Rf := Lib.hid (Rf.out.below hb)
        replace Rs := Lib.hid (Rs.out.below hb)
        replace Rg := Lib.hid (Rg.out.below hb)
        replace Rx := Lib.hid (Rx.out.below hb)
        replace Ry := Lib.hid (Ry.out.below hb)
        replace Rk := Lib.hid (Rk.out.below hb)
        replace Rl := Lib.hid (Rl.out.below hb)
        replace ZB := Lib.hid (bthen ZB.out hb); clear hb
        go_wp2_with fail
        refine (same_any8 w17 w17.heap.size w17.heap.size Ay Am cy cm RR (by omega) (Nat.le_refl _) (Nat.le_refl _) Ry.out.ev Rm.out.ev).mono ?_
        rintro e w18 ⟨rfl, hb⟩
        replace Ra := Lib.hid (Ra.out.below hb)
        replace Rb := Lib.hid (Rb.out.below hb)
        replace Rm := Lib.hid (Rm.out.below hb)
        replace Rp := Lib.hid (Rp.out.below hb)
        replace Rd := Lib.hid (Rd.out.below hb)
        replace Rq := Lib.hid (Rq.out.below hb)
        replace Re := Lib.hid (Re.out.below hb)
        replace Rr := Lib.hid (Rr.out.below hb)
        replace Rf := Lib.hid (Rf.out.below hb)
        replace Rs := Lib.hid (Rs.out.below hb)
        replace Rg := Lib.hid (Rg.out.below hb)
        replace Rx := Lib.hid (Rx.out.below hb)
        replace Ry := Lib.hid (Ry.out.below hb)
        replace Rk := Lib.hid (Rk.out.below hb)
        replace Rl := Lib.hid (Rl.out.below hb)
        replace ZB := Lib.hid (bthen ZB.out hb); clear hb
        go_wp2_with fail
        refine (knownI_any w18 w18.heap.size Am cm RR (by omega) (Nat.le_refl _) Rm.out.ev).mono ?_
        rintro e w19 hans
        rw [HKE.out] at hans
        obtain ⟨Au, cu, rfl, hor, hb⟩ := hans
        replace Ra := Lib.hid (Ra.out.below hb)
        replace Rb := Lib.hid (Rb.out.below hb)
        replace Rm := Lib.hid (Rm.out.below hb)
        replace Rp := Lib.hid (Rp.out.below hb)
        replace Rd := Lib.hid (Rd.out.below hb)
        replace Rq := Lib.hid (Rq.out.below hb)
        replace Re := Lib.hid (Re.out.below hb)
        replace Rr := Lib.hid (Rr.out.below hb)
        replace Rf := Lib.hid (Rf.out.below hb)
        replace Rs := Lib.hid (Rs.out.below hb)
        replace Rg := Lib.hid (Rg.out.below hb)
        replace Rx := Lib.hid (Rx.out.below hb)
        replace Ry := Lib.hid (Ry.out.below hb)
        replace Rk := Lib.hid (Rk.out.below hb)
        replace Rl := Lib.hid (Rl.out.below hb)
        replace ZB := Lib.hid (bthen ZB.out hb); clear hb
        have Ru := Lib.hid hor; clear hor
        go_wp2_with fail
        refine (deltaI_any w19 w19.heap.size w19.heap.size Am Au cm cu RR KR (by omega) (by unfold maxLen; omega) (Nat.le_refl _) (Nat.le_refl _) Rm.out.ev Ru.out.il).mono ?_
        rintro e w20 hans
        rw [HFN.out] at hans
        obtain ⟨Av, cv, rfl, hor, hb⟩ := hans
        replace Ra := Lib.hid (Ra.out.below hb)
        replace Rb := Lib.hid (Rb.out.below hb)
        replace Rm := Lib.hid (Rm.out.below hb)
        replace Rp := Lib.hid (Rp.out.below hb)
        replace Rd := Lib.hid (Rd.out.below hb)
        replace Rq := Lib.hid (Rq.out.below hb)
        replace Re := Lib.hid (Re.out.below hb)
        replace Rr := Lib.hid (Rr.out.below hb)
        replace Rf := Lib.hid (Rf.out.below hb)
        replace Rs := Lib.hid (Rs.out.below hb)
        replace Rg := Lib.hid (Rg.out.below hb)
        replace Rx := Lib.hid (Rx.out.below hb)
        replace Ry := Lib.hid (Ry.out.below hb)
        replace Rk := Lib.hid (Rk.out.below hb)
        replace Rl := Lib.hid (Rl.out.below hb)
        replace Ru := Lib.hid (Ru.out.below hb)
        replace ZB := Lib.hid (bthen ZB.out hb); clear hb
        have Rv := Lib.hid hor; clear hor
        go_wp2_with fail
        go_ret
        exact ⟨rfl, ZB.out⟩
end Go.Proofs.YtdcejkompdbliaaDoor
