/- Chapter 8: the walk of the law FnMerges (gen_evmw.py). -/
import Derived.Test.YtfmegkkllebgfaaDoorEvMx
import Derived.Test.YtfmegkkllebgfaaDoorEvSm
import Derived.Test.YtfmegkkllebgfaaDoorEvUj
import Derived.Test.YtfmegkkllebgfaaDoorEvJ
namespace Go.Proofs.YtfmegkkllebgfaaDoor
open Go.RowKit
set_option linter.unusedVariables false
set_option maxRecDepth 100000 in
set_option maxHeartbeats 8000000 in
theorem mrgs_walk (w : World) (A : Option Addr) (n c : Nat) (ad : Addr) (hn : n ≤ maxLen) (hS : BS w w.heap.size A n) (hE : ErrV w ad) : Calls Tryd.prog 3 #[.slice A n c] w fun e w' => e = .returned (.bool true) ∧ Below w.heap.size w w' := by
  have HS := Lib.hid hS; have HE := Lib.hid hE; clear hS hE
  by_cases hbig : (1048576 : Int) < n
  · have hd : decide ((1048576 : Int) < n) = true := by simpa using hbig
    have HD := Lib.hid hd; clear hd
    go_enter Tryd.func3, Tryd.ntmps3
    go_wp2_with (refine (big_any _ A n c hn).mono ?_; rintro e w' ⟨rfl, hw⟩; rw [hw, HD.out]; clear hw)
    go_ret
    exact ⟨rfl, Below.refl _ _⟩
  have hd : decide ((1048576 : Int) < n) = false := by simpa using hbig
  have HD := Lib.hid hd; clear hd hbig
  go_enter Tryd.func3, Tryd.ntmps3
  go_wp2_with (go_at_call 5; refine (big_any _ A n c hn).mono ?_; rintro e w' ⟨rfl, hw⟩; rw [hw, HD.out]; clear hw)
  refine (drawB_any w A n c hn HS.out).mono ?_
  rintro e w1 ⟨va, vb, la, lb, rfl, ⟨Aa, ca, rfl, hca, D1, hO1⟩, ⟨Ab, cb, rfl, hcb, D2, hO2⟩, hb⟩
  have hla := D1.len; have hlb := D2.len
  have ZB := Lib.hid hb; have Ra := Lib.hid hO1; have Rb := Lib.hid hO2; have DD1 := Lib.hid D1; have DD2 := Lib.hid D2; clear hb hO1 hO2 D1 D2
  have hadd := (DD1.out.more (Nat.le_refl 10) pA_pC).add (by omega) (nd := 4) (kd := 3) (pa := 1) (a := 2) (b := 3) (by omega) (by rfl) (by omega) (by omega) (by omega) (by omega)
  have hcc := insEv_len la 4 3 1 2 3
  have hthree := fun RR h => merge_three (RR := RR) DD1.out DD2.out h
  obtain ⟨CC, hCC⟩ : ∃ C, insEv la 4 3 1 2 3 = C := ⟨_, rfl⟩
  rw [hCC] at hadd hcc hthree
  have hcc1 : CC.length ≤ 11 := by omega
  have HAD := Lib.hid hadd.1; have H3 := Lib.hid hthree; clear hadd hthree hCC hcc
  go_wp2_with fail
  refine (addS_any8 w1 w1.heap.size Aa ca la 4 3 1 2 3 (by omega) hca (Nat.le_refl _) Ra.out.ev).mono ?_
  rintro e w2 hans
  rw [HAD.out] at hans
  obtain ⟨Ac, cc, _, rfl, hor, hb⟩ := hans
  dsimp only at hor
  replace Ra := Lib.hid (Ra.out.below hb)
  replace Rb := Lib.hid (Rb.out.below hb)
  replace ZB := Lib.hid (bthen ZB.out hb); clear hb
  have Rc := Lib.hid hor; clear hor
  cases hV : (mergeE la lb).2
  · skip
    have HM := Lib.hid (mergeE_off hV); clear hV
    go_wp2_with fail
    refine (mergeI_any w2 w2.heap.size w2.heap.size Aa Ab ca cb la lb ad (by omega) (by omega) (Nat.le_refl _) (Nat.le_refl _) Ra.out.ev Rb.out.ev (HE.out.below ZB.out)).mono ?_
    rintro e w3 hans
    rw [HM.out] at hans
    obtain ⟨Ax, cx, _, rfl, hor, hb⟩ := hans
    dsimp only at hor
    replace Ra := Lib.hid (Ra.out.below hb)
    replace Rb := Lib.hid (Rb.out.below hb)
    replace Rc := Lib.hid (Rc.out.below hb)
    replace ZB := Lib.hid (bthen ZB.out hb); clear hb
    have Rx := Lib.hid hor; clear hor
    go_wp2_with fail
    refine (mergeS_any w3 w3.heap.size w3.heap.size Aa Ab ca cb la lb (by omega) (by omega) (Nat.le_refl _) (Nat.le_refl _) Ra.out.ev Rb.out.ev).mono ?_
    rintro e w4 hans
    rw [HM.out] at hans
    obtain ⟨Ay, cy, _, rfl, hor, hb⟩ := hans
    dsimp only at hor
    replace Ra := Lib.hid (Ra.out.below hb)
    replace Rb := Lib.hid (Rb.out.below hb)
    replace Rc := Lib.hid (Rc.out.below hb)
    replace Rx := Lib.hid (Rx.out.below hb)
    replace ZB := Lib.hid (bthen ZB.out hb); clear hb
    have Ry := Lib.hid hor; clear hor
    go_wp2_with fail
    refine (mergeI_any w4 w4.heap.size w4.heap.size Ab Aa cb ca lb la ad (by omega) (by omega) (Nat.le_refl _) (Nat.le_refl _) Rb.out.ev Ra.out.ev (HE.out.below ZB.out)).mono ?_
    rintro e w5 hans
    rw [mergeE_comm, HM.out] at hans
    obtain ⟨Az, cz, _, rfl, hor, hb⟩ := hans
    dsimp only at hor
    replace Ra := Lib.hid (Ra.out.below hb)
    replace Rb := Lib.hid (Rb.out.below hb)
    replace Rc := Lib.hid (Rc.out.below hb)
    replace Rx := Lib.hid (Rx.out.below hb)
    replace Ry := Lib.hid (Ry.out.below hb)
    replace ZB := Lib.hid (bthen ZB.out hb); clear hb
    have Rz := Lib.hid hor; clear hor
    go_wp2_with fail
    refine (same_any8 w5 w5.heap.size w5.heap.size Ax Ay cx cy [] (by first | omega | simp) (Nat.le_refl _) (Nat.le_refl _) Rx.out.ev Ry.out.ev).mono ?_
    rintro e w6 ⟨rfl, hb⟩
    replace Ra := Lib.hid (Ra.out.below hb)
    replace Rb := Lib.hid (Rb.out.below hb)
    replace Rc := Lib.hid (Rc.out.below hb)
    replace Rx := Lib.hid (Rx.out.below hb)
    replace Ry := Lib.hid (Ry.out.below hb)
    replace Rz := Lib.hid (Rz.out.below hb)
    replace ZB := Lib.hid (bthen ZB.out hb); clear hb
    go_wp2_with fail
    refine (same_any8 w6 w6.heap.size w6.heap.size Az Ay cz cy [] (by first | omega | simp) (Nat.le_refl _) (Nat.le_refl _) Rz.out.ev Ry.out.ev).mono ?_
    rintro e w7 ⟨rfl, hb⟩
    replace Ra := Lib.hid (Ra.out.below hb)
    replace Rb := Lib.hid (Rb.out.below hb)
    replace Rc := Lib.hid (Rc.out.below hb)
    replace Rx := Lib.hid (Rx.out.below hb)
    replace Ry := Lib.hid (Ry.out.below hb)
    replace Rz := Lib.hid (Rz.out.below hb)
    replace ZB := Lib.hid (bthen ZB.out hb); clear hb
    go_wp2_with fail
    go_ret
    exact ⟨rfl, ZB.out⟩
  · skip
    obtain ⟨RR, hRR⟩ : ∃ R, (mergeE la lb).1 = R := ⟨_, rfl⟩
    have hm : mergeE la lb = (RR, true) := by rw [← hRR, ← hV]
    have hrl := mergeE_sum la lb; rw [hRR] at hrl
    have hJ := (mergeE_iff.1 hm).2.2.2
    have hself := mergeE_self hJ
    obtain ⟨QQ, hq, hpr⟩ := H3.out RR hm
    have hql := mergeE_sum lb CC; rw [hq] at hql; dsimp only at hql
    obtain ⟨PP, V3, hp⟩ : ∃ P V, mergeE RR CC = (P, V) := ⟨_, _, rfl⟩
    have hp2 : mergeE la QQ = (PP, V3) := by rw [← hpr, hp]
    have hpl := mergeE_sum RR CC; rw [hp] at hpl; dsimp only at hpl
    have HM := Lib.hid hm; have HJ := Lib.hid hJ; have HSE := Lib.hid hself; have HQQ := Lib.hid hq; have HP := Lib.hid hp; have HP2 := Lib.hid hp2; clear hm hJ hself hq hp hp2 hpr hV hRR
    have nv : (V3 == V3) = true := by simp
    have hle : (RR.length : Int) ≤ (la.length : Int) + (lb.length : Int) := by omega
    go_wp2_with fail
    refine (mergeI_any w2 w2.heap.size w2.heap.size Aa Ab ca cb la lb ad (by omega) (by omega) (Nat.le_refl _) (Nat.le_refl _) Ra.out.ev Rb.out.ev (HE.out.below ZB.out)).mono ?_
    rintro e w3 hans
    rw [HM.out] at hans
    obtain ⟨Ax, cx, _, rfl, hor, hb⟩ := hans
    dsimp only at hor
    replace Ra := Lib.hid (Ra.out.below hb)
    replace Rb := Lib.hid (Rb.out.below hb)
    replace Rc := Lib.hid (Rc.out.below hb)
    replace ZB := Lib.hid (bthen ZB.out hb); clear hb
    have Rx := Lib.hid hor; clear hor
    go_wp2_with fail
    refine (mergeS_any w3 w3.heap.size w3.heap.size Aa Ab ca cb la lb (by omega) (by omega) (Nat.le_refl _) (Nat.le_refl _) Ra.out.ev Rb.out.ev).mono ?_
    rintro e w4 hans
    rw [HM.out] at hans
    obtain ⟨Ay, cy, _, rfl, hor, hb⟩ := hans
    dsimp only at hor
    replace Ra := Lib.hid (Ra.out.below hb)
    replace Rb := Lib.hid (Rb.out.below hb)
    replace Rc := Lib.hid (Rc.out.below hb)
    replace Rx := Lib.hid (Rx.out.below hb)
    replace ZB := Lib.hid (bthen ZB.out hb); clear hb
    have Ry := Lib.hid hor; clear hor
    go_wp2_with fail
    refine (mergeI_any w4 w4.heap.size w4.heap.size Ab Aa cb ca lb la ad (by omega) (by omega) (Nat.le_refl _) (Nat.le_refl _) Rb.out.ev Ra.out.ev (HE.out.below ZB.out)).mono ?_
    rintro e w5 hans
    rw [mergeE_comm, HM.out] at hans
    obtain ⟨Az, cz, _, rfl, hor, hb⟩ := hans
    dsimp only at hor
    replace Ra := Lib.hid (Ra.out.below hb)
    replace Rb := Lib.hid (Rb.out.below hb)
    replace Rc := Lib.hid (Rc.out.below hb)
    replace Rx := Lib.hid (Rx.out.below hb)
    replace Ry := Lib.hid (Ry.out.below hb)
    replace ZB := Lib.hid (bthen ZB.out hb); clear hb
    have Rz := Lib.hid hor; clear hor
    go_wp2_with fail
    refine (same_any8 w5 w5.heap.size w5.heap.size Ax Ay cx cy RR (by first | omega | simp) (Nat.le_refl _) (Nat.le_refl _) Rx.out.ev Ry.out.ev).mono ?_
    rintro e w6 ⟨rfl, hb⟩
    replace Ra := Lib.hid (Ra.out.below hb)
    replace Rb := Lib.hid (Rb.out.below hb)
    replace Rc := Lib.hid (Rc.out.below hb)
    replace Rx := Lib.hid (Rx.out.below hb)
    replace Ry := Lib.hid (Ry.out.below hb)
    replace Rz := Lib.hid (Rz.out.below hb)
    replace ZB := Lib.hid (bthen ZB.out hb); clear hb
    go_wp2_with fail
    refine (same_any8 w6 w6.heap.size w6.heap.size Az Ay cz cy RR (by first | omega | simp) (Nat.le_refl _) (Nat.le_refl _) Rz.out.ev Ry.out.ev).mono ?_
    rintro e w7 ⟨rfl, hb⟩
    replace Ra := Lib.hid (Ra.out.below hb)
    replace Rb := Lib.hid (Rb.out.below hb)
    replace Rc := Lib.hid (Rc.out.below hb)
    replace Rx := Lib.hid (Rx.out.below hb)
    replace Ry := Lib.hid (Ry.out.below hb)
    replace Rz := Lib.hid (Rz.out.below hb)
    replace ZB := Lib.hid (bthen ZB.out hb); clear hb
    go_wp2_with fail
    refine (mergeI_any w7 w7.heap.size w7.heap.size Ay Ay cy cy RR RR ad (by omega) (by omega) (Nat.le_refl _) (Nat.le_refl _) Ry.out.ev Ry.out.ev (HE.out.below ZB.out)).mono ?_
    rintro e w8 hans
    rw [HSE.out] at hans
    obtain ⟨As, cs, _, rfl, hor, hb⟩ := hans
    dsimp only at hor
    replace Ra := Lib.hid (Ra.out.below hb)
    replace Rb := Lib.hid (Rb.out.below hb)
    replace Rc := Lib.hid (Rc.out.below hb)
    replace Rx := Lib.hid (Rx.out.below hb)
    replace Ry := Lib.hid (Ry.out.below hb)
    replace Rz := Lib.hid (Rz.out.below hb)
    replace ZB := Lib.hid (bthen ZB.out hb); clear hb
    have Rs := Lib.hid hor; clear hor
    go_wp2_with fail
    refine (mergeI_any w8 w8.heap.size w8.heap.size Ay Ac cy cc RR CC ad (by omega) (by omega) (Nat.le_refl _) (Nat.le_refl _) Ry.out.ev Rc.out.ev (HE.out.below ZB.out)).mono ?_
    rintro e w9 hans
    rw [HP.out] at hans
    obtain ⟨Ap, cp, _, rfl, hor, hb⟩ := hans
    dsimp only at hor
    replace Ra := Lib.hid (Ra.out.below hb)
    replace Rb := Lib.hid (Rb.out.below hb)
    replace Rc := Lib.hid (Rc.out.below hb)
    replace Rx := Lib.hid (Rx.out.below hb)
    replace Ry := Lib.hid (Ry.out.below hb)
    replace Rz := Lib.hid (Rz.out.below hb)
    replace Rs := Lib.hid (Rs.out.below hb)
    replace ZB := Lib.hid (bthen ZB.out hb); clear hb
    have Rp := Lib.hid hor; clear hor
    go_wp2_with fail
    refine (mergeS_any w9 w9.heap.size w9.heap.size Ab Ac cb cc lb CC (by omega) (by omega) (Nat.le_refl _) (Nat.le_refl _) Rb.out.ev Rc.out.ev).mono ?_
    rintro e w10 hans
    rw [HQQ.out] at hans
    obtain ⟨Aq, cq, _, rfl, hor, hb⟩ := hans
    dsimp only at hor
    replace Ra := Lib.hid (Ra.out.below hb)
    replace Rb := Lib.hid (Rb.out.below hb)
    replace Rc := Lib.hid (Rc.out.below hb)
    replace Rx := Lib.hid (Rx.out.below hb)
    replace Ry := Lib.hid (Ry.out.below hb)
    replace Rz := Lib.hid (Rz.out.below hb)
    replace Rs := Lib.hid (Rs.out.below hb)
    replace Rp := Lib.hid (Rp.out.below hb)
    replace ZB := Lib.hid (bthen ZB.out hb); clear hb
    have Rq := Lib.hid hor; clear hor
    go_wp2_with fail
    refine (mergeI_any w10 w10.heap.size w10.heap.size Aa Aq ca cq la QQ ad (by omega) (by omega) (Nat.le_refl _) (Nat.le_refl _) Ra.out.ev Rq.out.ev (HE.out.below ZB.out)).mono ?_
    rintro e w11 hans
    rw [HP2.out] at hans
    obtain ⟨Ar, cr, _, rfl, hor, hb⟩ := hans
    dsimp only at hor
    replace Ra := Lib.hid (Ra.out.below hb)
    replace Rb := Lib.hid (Rb.out.below hb)
    replace Rc := Lib.hid (Rc.out.below hb)
    replace Rx := Lib.hid (Rx.out.below hb)
    replace Ry := Lib.hid (Ry.out.below hb)
    replace Rz := Lib.hid (Rz.out.below hb)
    replace Rs := Lib.hid (Rs.out.below hb)
    replace Rp := Lib.hid (Rp.out.below hb)
    replace Rq := Lib.hid (Rq.out.below hb)
    replace ZB := Lib.hid (bthen ZB.out hb); clear hb
    have Rr := Lib.hid hor; clear hor
    go_wp2_with fail
    refine (jrnI_any w11 w11.heap.size Ay cy RR (by unfold maxLen; omega) (Nat.le_refl _) Ry.out.ev).mono ?_
    rintro e w12 ⟨rfl, hb⟩
    rw [HJ.out]
    replace Ra := Lib.hid (Ra.out.below hb)
    replace Rb := Lib.hid (Rb.out.below hb)
    replace Rc := Lib.hid (Rc.out.below hb)
    replace Rx := Lib.hid (Rx.out.below hb)
    replace Ry := Lib.hid (Ry.out.below hb)
    replace Rz := Lib.hid (Rz.out.below hb)
    replace Rs := Lib.hid (Rs.out.below hb)
    replace Rp := Lib.hid (Rp.out.below hb)
    replace Rq := Lib.hid (Rq.out.below hb)
    replace Rr := Lib.hid (Rr.out.below hb)
    replace ZB := Lib.hid (bthen ZB.out hb); clear hb
    go_wp2_with fail
    refine (same_any8 w12 w12.heap.size w12.heap.size As Ay cs cy RR (by first | omega | simp) (Nat.le_refl _) (Nat.le_refl _) Rs.out.ev Ry.out.ev).mono ?_
    rintro e w13 ⟨rfl, hb⟩
    replace Ra := Lib.hid (Ra.out.below hb)
    replace Rb := Lib.hid (Rb.out.below hb)
    replace Rc := Lib.hid (Rc.out.below hb)
    replace Rx := Lib.hid (Rx.out.below hb)
    replace Ry := Lib.hid (Ry.out.below hb)
    replace Rz := Lib.hid (Rz.out.below hb)
    replace Rs := Lib.hid (Rs.out.below hb)
    replace Rp := Lib.hid (Rp.out.below hb)
    replace Rq := Lib.hid (Rq.out.below hb)
    replace Rr := Lib.hid (Rr.out.below hb)
    replace ZB := Lib.hid (bthen ZB.out hb); clear hb
    go_wp2_with fail
    refine (same_any8 w13 w13.heap.size w13.heap.size Ap Ar cp cr PP (by first | omega | simp) (Nat.le_refl _) (Nat.le_refl _) Rp.out.ev Rr.out.ev).mono ?_
    rintro e w14 ⟨rfl, hb⟩
    replace Ra := Lib.hid (Ra.out.below hb)
    replace Rb := Lib.hid (Rb.out.below hb)
    replace Rc := Lib.hid (Rc.out.below hb)
    replace Rx := Lib.hid (Rx.out.below hb)
    replace Ry := Lib.hid (Ry.out.below hb)
    replace Rz := Lib.hid (Rz.out.below hb)
    replace Rs := Lib.hid (Rs.out.below hb)
    replace Rp := Lib.hid (Rp.out.below hb)
    replace Rq := Lib.hid (Rq.out.below hb)
    replace Rr := Lib.hid (Rr.out.below hb)
    replace ZB := Lib.hid (bthen ZB.out hb); clear hb
    go_wp2_with fail
    go_ret
    exact ⟨rfl, ZB.out⟩
end Go.Proofs.YtfmegkkllebgfaaDoor
