/- Chapter 7: contracts of RoundOk and OrderOk of the model (gen_touc.py). -/
import Derived.Test.YtfimdhbcifjioaaTouB
import Derived.Deep.RegionHeld3
import Derived.Deep.DeepMust
import Derived.WalkLawsBesides
namespace Go.Proofs.Ytfimdhbcifjioaa
open Go.RowKit
set_option linter.unusedVariables false

set_option maxRecDepth 100000 in
set_option maxHeartbeats 8000000 in
theorem roundS_any (w : World) (B : Nat) (b r : Int) (AL AS : Option Addr) (cL cS : Nat) (R : List Rw) (S : List Sp) (hB : B ≤ w.heap.size) (hR : RdIn w B AL R AS S) :
    Calls Try.prog 33 #[.agg #[.int .i64 b, .int .i64 r, .slice AL R.length cL, .slice AS S.length cS]] w fun e w' => e = .returned (.bool (roundB b r (gOf R) S)) ∧ Below w.heap.size w w' := by
  have HR := Lib.hid hR; clear hR
  have hls := HR.out.ls; unfold maxLen at hls
  have hlr := HR.out.lr; unfold maxLen at hlr
  cases h1 : inT b 0 20000
  · have H1 := Lib.hid h1; clear h1
    have HV := Lib.hid (show roundB b r (gOf R) S = false from round_no fun h => by have := H1.out; rw [(inT_iff _ _ _).2 ⟨h.b0, h.b1⟩] at this; cases this)
    go_enter Try.func33, Try.ntmps33
    go_wp2_with (first | (go_at_call 44; refine (inT_any _ _ _ _).mono ?_; rintro e w1 ⟨rfl, hw⟩; rw [hw]; clear hw; rw [H1.out]))
    go_ret
    exact ⟨ret_bool HV.out.symm, balloc _ _⟩
  have H1 := Lib.hid h1; clear h1
  cases h2 : inT r 0 1000
  · have H2 := Lib.hid h2; clear h2
    have HV := Lib.hid (show roundB b r (gOf R) S = false from round_no fun h => by have := H2.out; rw [(inT_iff _ _ _).2 ⟨h.r0, h.r1⟩] at this; cases this)
    go_enter Try.func33, Try.ntmps33
    go_wp2_with (first | (go_at_call 44; refine (inT_any _ _ _ _).mono ?_; rintro e w1 ⟨rfl, hw⟩; rw [hw]; clear hw; first | rw [H1.out] | rw [H2.out]))
    go_ret
    exact ⟨ret_bool HV.out.symm, balloc _ _⟩
  have H2 := Lib.hid h2; clear h2
  by_cases h6 : (6 : Int) < S.length
  · skip
    have HV := Lib.hid (show roundB b r (gOf R) S = false from round_no fun h => by have := h.six; omega)
    go_enter Try.func33, Try.ntmps33
    go_wp2_with (first | (go_at_call 44; refine (inT_any _ _ _ _).mono ?_; rintro e w1 ⟨rfl, hw⟩; rw [hw]; clear hw; first | rw [H1.out] | rw [H2.out]))
    go_ret
    exact ⟨ret_bool HV.out.symm, balloc _ _⟩
  by_cases h7 : R.length = S.length + 1
  rotate_left
  · skip
    have HV := Lib.hid (show roundB b r (gOf R) S = false from round_no fun h => by have := h.len; rw [gOf_len] at this; exact h7 this)
    have h7q : ((R.length : Int) != (S.length : Int) + 1) = true := by simp; omega
    clear h7
    go_enter Try.func33, Try.ntmps33
    go_wp2_with (first | (go_at_call 44; refine (inT_any _ _ _ _).mono ?_; rintro e w1 ⟨rfl, hw⟩; rw [hw]; clear hw; first | rw [H1.out] | rw [H2.out]))
    go_ret
    exact ⟨ret_bool HV.out.symm, balloc _ _⟩
  have h7q : ((R.length : Int) != (S.length : Int) + 1) = false := by simp; omega
  have h6q : decide ((6 : Int) < (S.length : Int)) = false := by simp; omega
  have hl9 : (S.length : Int) + 1 ≤ 9223372036854775807 := by omega
  have H6 := Lib.hid h6; clear h6
  have H7 := Lib.hid h7; clear h7
  go_enter Try.func33, Try.ntmps33
  go_wp2_with (first | (go_at_call 44; refine (inT_any _ _ _ _).mono ?_; rintro e w1 ⟨rfl, hw⟩; rw [hw]; clear hw; first | rw [H1.out] | rw [H2.out]))
  clear h7q h6q
  go_loopw [3, 4] (fun i kv wr => ∃ k : Nat, k ≤ R.length ∧ i = .int .i64 k ∧ (∀ j x, j < k → R[j]? = some x → rowB R.length x.l = true) ∧ Has wr w.heap.size 27 #[.int .i64 b, .int .i64 r, .slice AL R.length cL, .slice AS S.length cS] ∧ Below w.heap.size w wr) (fun i _ _ => R.length - (intOf i).toNat)
  case atStart => exact ⟨0, Nat.zero_le _, rfl, (fun j y hj => absurd hj (by omega)), has_new _ _ _, balloc _ _⟩
  case round =>
    obtain ⟨k, hk, rfl, hok, hH, hb⟩ := hrel
    have HOK := Lib.hid hok; clear hok
    have hsz := hb.size
    have hbox : w.heap.size < wr.heap.size := has_lt hH
    have hc2 := has_cell hH 2 rfl; have hc3 := has_cell hH 3 rfl
    have HH := Lib.hid hH; clear hH
    by_cases hlt : k < R.length
    · obtain ⟨bb, off, x, rfl, hbB, hx, hr0⟩ := (HR.out.rows.later hB hb).at_ hlt
      have hv := (HR.out.vals x (List.mem_of_getElem? hx)).later hB hb
      obtain ⟨XA, xc, xl⟩ := x
      dsimp only at hr0
      have Hx := Lib.hid hx; have HVX := Lib.hid hv; clear hx hv
      have hxm : xl.length ≤ maxLen := HVX.out.2; unfold maxLen at hxm
      have hbad : rowB R.length xl = false → roundB b r (gOf R) S = false := fun h => round_no fun hh => by
        have h8 : rowB R.length xl = true := (rowB_iff _ _).2 ⟨by have := hh.row xl (List.mem_of_getElem? (gOf_at Hx.out)); rw [this, H7.out], hh.leg xl (List.mem_of_getElem? (gOf_at Hx.out))⟩
        rw [h8] at h; cases h
      have HBAD := Lib.hid hbad; clear hbad
      by_cases hxl : xl.length = R.length
      rotate_left
      · have hq1 : ((xl.length : Int) != (R.length : Int)) = true := by simp; omega
        have HV := Lib.hid (HBAD.out (by rw [Bool.eq_false_iff]; intro hq; exact hxl ((rowB_iff _ _).1 hq).1))
        clear hxl
        go_wp2_with fail
        go_quiet (fail)
        go_wp2_with fail
        go_ret
        exact ⟨ret_bool HV.out.symm, below_drewN hb _⟩
      have hq1 : ((xl.length : Int) != (R.length : Int)) = false := by simp; omega
      have HXL := Lib.hid hxl; clear hxl
      go_wp2_with fail
      go_quiet (fail)
      go_wp2_with fail
      clear hc2 hc3 hr0 hq1
      rename Nat => nz
      obtain ⟨wo, hwo⟩ : ∃ wo : World, wo = wr.drewN nz := ⟨_, rfl⟩
      rw [← hwo]
      have hbo : Below w.heap.size w wo := by rw [hwo]; exact below_drewN hb _
      have HHO := Lib.hid (show Has wo w.heap.size 27 #[.int .i64 b, .int .i64 r, .slice (some ⟨bb, off, none⟩) R.length cL, .slice AS S.length cS] by rw [hwo]; exact HH.out)
      have HRO := Lib.hid (HR.out.later hB hbo)
      have hrow0 : wo.cell? ⟨bb, off + k, none⟩ = some (.slice XA xl.length xc) := by
        rcases HRO.out.rows with h | ⟨b2, o2, e2, h2, h3⟩
        · have := Hx.out; rw [h] at this; simp at this
        · injection e2 with e2; injection e2 with e3 e4; subst e3; subst e4; exact h3 k ⟨XA, xc, xl⟩ Hx.out
      have HRW := Lib.hid hrow0; clear hrow0
      have HVO := Lib.hid (HRO.out.vals ⟨XA, xc, xl⟩ (List.mem_of_getElem? Hx.out))
      have hszo : w.heap.size < wo.heap.size := has_lt HHO.out
      have hbbo : bb < wo.heap.size := Nat.lt_of_lt_of_le hbB (Nat.le_trans hB (Nat.le_of_lt hszo))
      clear hwo HH HVX hb hsz hbox hbB
      go_loopw [4] (fun kv wr => ∃ m : Nat, m ≤ R.length ∧ kv = .int .i64 m ∧ (∀ j y, j < m → xl[j]? = some y → inT y 0 200 = true) ∧ Below wo.heap.size wo wr) (fun kv _ => R.length - (intOf kv).toNat)
      case atStart => exact ⟨0, Nat.zero_le _, rfl, (fun j y hj => absurd hj (by omega)), Below.refl _ _⟩
      case round =>
        obtain ⟨m, hm, rfl, hin, hb2⟩ := hrel
        have HIN := Lib.hid hin; clear hin
        have hsz2 := hb2.size
        have hH2 := has_call HHO.out hb2
        have hc2 := has_cell hH2 2 rfl
        have HH2 := Lib.hid hH2; clear hH2
        by_cases hlm : m < R.length
        · have hr0 := (bold hb2 bb (off + k) hbbo).trans HRW.out
          obtain ⟨b3, o3, y, hA3, hb3, hy, hy0⟩ := (HVO.out.1.later (by omega) hb2).at_ (k := m) (by show m < xl.length; rw [HXL.out]; exact hlm)
          dsimp only at hA3 hy
          subst hA3
          have Hy := Lib.hid hy; clear hy
          have hxl3 : (m : Int) < xl.length := by rw [HXL.out]; omega
          cases hq : inT y 0 200
          · have HQ := Lib.hid hq; clear hq
            have HV := Lib.hid (HBAD.out (by rw [Bool.eq_false_iff]; intro hq; have := ((rowB_iff _ _).1 hq).2 y (List.mem_of_getElem? Hy.out); rw [← inT_iff, HQ.out] at this; cases this))
            go_wp2_with (first | (go_at_call 44; refine (inT_any _ _ _ _).mono ?_; rintro e w1 ⟨rfl, hw⟩; rw [hw]; clear hw; rw [HQ.out]))
            go_ret
            exact ⟨ret_bool HV.out.symm, hbo.trans (hb2.mono (by omega))⟩
          · have HQ := Lib.hid hq; clear hq
            go_wp2_with (first | (go_at_call 44; refine (inT_any _ _ _ _).mono ?_; rintro e w1 ⟨rfl, hw⟩; rw [hw]; clear hw; rw [HQ.out]))
            go_roundw
            case rel => exact ⟨m + 1, by omega, by go_num, (fun j z hj hz => by
              by_cases e : j = m
              · subst e; rw [Hy.out] at hz; injection hz with hz; subst hz; exact HQ.out
              · exact HIN.out j z (by omega) hz), hb2⟩
            case measure => simp [intOf]; omega
        · have hml : m = R.length := by omega
          go_wp2_with fail
          go_roundw
          case rel => exact ⟨k + 1, by omega, by go_num, (fun j z hj hz => by
            by_cases e : j = k
            · subst e; rw [Hx.out] at hz; injection hz with hz; subst hz
              refine (rowB_iff _ _).2 ⟨HXL.out, fun y hy => ?_⟩
              obtain ⟨i, hi, rfl⟩ := List.getElem_of_mem hy
              exact (inT_iff _ _ _).1 (HIN.out i _ (by rw [hml, ← HXL.out]; exact hi) (List.getElem?_eq_getElem hi))
            · exact HOK.out j z (by omega) hz), HH2.out, hbo.trans (hb2.mono (by omega))⟩
          case measure => simp [intOf]; omega
    · have hkl : k = R.length := by omega
      have hlegs : legsB (S.length + 1) (gOf R) = true := (legsB_iff _ _).2 ⟨by rw [gOf_len]; exact H7.out, fun l hl => by
        obtain ⟨y, hy, rfl⟩ := List.mem_map.1 hl
        obtain ⟨j, hj, rfl⟩ := List.getElem_of_mem hy
        have := (rowB_iff _ _).1 (HOK.out j _ (by omega) (List.getElem?_eq_getElem hj))
        rw [← H7.out]; exact this⟩
      have HLEGS := Lib.hid hlegs; clear hlegs hkl
      go_wp2_with fail
      clear hc2 hc3
      have HB := Lib.hid hb; have HZ := Lib.hid hsz; clear hb hsz hbox
      rename World => wz
      go_loopw [5, 6] (fun i _ wr => ∃ m : Nat, m ≤ S.length ∧ i = .int .i64 m ∧ (∀ j s, j < m → S[j]? = some s → stopB s = true) ∧ Has wr w.heap.size 27 #[.int .i64 b, .int .i64 r, .slice AL R.length cL, .slice AS S.length cS] ∧ Below w.heap.size w wr) (fun i _ _ => S.length - (intOf i).toNat)
      case atStart => exact ⟨0, Nat.zero_le _, rfl, (fun j y hj => absurd hj (by omega)), HH.out, HB.out⟩
      case round =>
        obtain ⟨m, hm, rfl, hst, hH, hb⟩ := hrel
        have HST := Lib.hid hst; clear hst
        have hsz := hb.size
        have hbox : w.heap.size < wr.heap.size := has_lt hH
        have hc3 := has_cell hH 3 rfl
        have HH := Lib.hid hH; clear hH
        by_cases hlm : m < S.length
        · obtain ⟨b3, o3, ⟨x0, x1, x2, x3, x4⟩, rfl, hbB, hx, hc0, hc1, hc2, hd3, hc4⟩ := (HR.out.stops.later hB hb).at_ hlm
          dsimp only at hc0 hc1 hc2 hd3 hc4
          have Hx := Lib.hid hx; clear hx
          cases q1 : inT x1 0 20000
          · have C1 := Lib.hid q1; clear q1
            have HV := Lib.hid (show roundB b r (gOf R) S = false from round_no fun h => by have := h.stops _ (List.mem_of_getElem? Hx.out); simp [stopB, C1.out] at this)
            go_wp2_with (first | (go_at_call 44; refine (inT_any _ _ _ _).mono ?_; rintro e w1 ⟨rfl, hw⟩; rw [hw]; clear hw; rw [C1.out]))
            go_ret
            exact ⟨ret_bool HV.out.symm, bthen hb (balloc _ _)⟩
          have C1 := Lib.hid q1; clear q1
          cases q2 : inT x0 0 x1
          · have C2 := Lib.hid q2; clear q2
            have HV := Lib.hid (show roundB b r (gOf R) S = false from round_no fun h => by have := h.stops _ (List.mem_of_getElem? Hx.out); simp [stopB, C2.out] at this)
            go_wp2_with (first | (go_at_call 44; refine (inT_any _ _ _ _).mono ?_; rintro e w1 ⟨rfl, hw⟩; rw [hw]; clear hw; first | rw [C1.out] | rw [C2.out]))
            go_ret
            exact ⟨ret_bool HV.out.symm, bthen hb (balloc _ _)⟩
          have C2 := Lib.hid q2; clear q2
          cases q3 : inT x2 0 200
          · have C3 := Lib.hid q3; clear q3
            have HV := Lib.hid (show roundB b r (gOf R) S = false from round_no fun h => by have := h.stops _ (List.mem_of_getElem? Hx.out); simp [stopB, C3.out] at this)
            go_wp2_with (first | (go_at_call 44; refine (inT_any _ _ _ _).mono ?_; rintro e w1 ⟨rfl, hw⟩; rw [hw]; clear hw; first | rw [C1.out] | rw [C2.out] | rw [C3.out]))
            go_ret
            exact ⟨ret_bool HV.out.symm, bthen hb (balloc _ _)⟩
          have C3 := Lib.hid q3; clear q3
          cases q4 : inT x3 0 1000
          · have C4 := Lib.hid q4; clear q4
            have HV := Lib.hid (show roundB b r (gOf R) S = false from round_no fun h => by have := h.stops _ (List.mem_of_getElem? Hx.out); simp [stopB, C4.out] at this)
            go_wp2_with (first | (go_at_call 44; refine (inT_any _ _ _ _).mono ?_; rintro e w1 ⟨rfl, hw⟩; rw [hw]; clear hw; first | rw [C1.out] | rw [C2.out] | rw [C3.out] | rw [C4.out]))
            go_ret
            exact ⟨ret_bool HV.out.symm, bthen hb (balloc _ _)⟩
          have C4 := Lib.hid q4; clear q4
          cases q5 : inT x4 0 1000
          · have C5 := Lib.hid q5; clear q5
            have HV := Lib.hid (show roundB b r (gOf R) S = false from round_no fun h => by have := h.stops _ (List.mem_of_getElem? Hx.out); simp [stopB, C5.out] at this)
            go_wp2_with (first | (go_at_call 44; refine (inT_any _ _ _ _).mono ?_; rintro e w1 ⟨rfl, hw⟩; rw [hw]; clear hw; first | rw [C1.out] | rw [C2.out] | rw [C3.out] | rw [C4.out] | rw [C5.out]))
            go_ret
            exact ⟨ret_bool HV.out.symm, bthen hb (balloc _ _)⟩
          have C5 := Lib.hid q5; clear q5
          go_wp2_with (first | (go_at_call 44; refine (inT_any _ _ _ _).mono ?_; rintro e w1 ⟨rfl, hw⟩; rw [hw]; clear hw; first | rw [C1.out] | rw [C2.out] | rw [C3.out] | rw [C4.out] | rw [C5.out]))
          go_roundw
          case rel => exact ⟨m + 1, by omega, by go_num, (fun j y hj hy => by
            by_cases e : j = m
            · subst e; rw [Hx.out] at hy; injection hy with hy; subst hy; simp [stopB, C1.out, C2.out, C3.out, C4.out, C5.out]
            · exact HST.out j y (by omega) hy), has_alloc HH.out _, bthen hb (balloc _ _)⟩
          case measure => simp [intOf]; omega
        · have hml : m = S.length := by omega
          go_wp2_with fail
          go_ret
          refine ⟨ret_bool ?_, hb⟩
          have h9 : S.all stopB = true := List.all_eq_true.2 fun s hs => by
            obtain ⟨j, hj, rfl⟩ := List.getElem_of_mem hs
            exact HST.out j _ (by omega) (List.getElem?_eq_getElem hj)
          have h8 : S.length ≤ 6 := by have := H6.out; omega
          rw [roundB, H1.out, H2.out, h9, HLEGS.out]
          simp [h8]
theorem IL.take {w : World} {B : Nat} {A : Option Addr} {l : List Int} (h : IL w B A l) (k : Nat) : IL w B A (l.take k) := by
  rcases h with h | ⟨b, off, rfl, hlt, hc⟩
  · exact .inl (by rw [h]; simp)
  · exact .inr ⟨b, off, rfl, hlt, fun j x hx => hc j x (by
      rw [List.getElem?_take] at hx
      split at hx
      · exact hx
      · cases hx)⟩
set_option maxRecDepth 100000 in
set_option maxHeartbeats 4000000 in
theorem orderS_any (w : World) (B : Nat) (b r : Int) (AL AS : Option Addr) (cL cS : Nat) (R : List Rw) (S : List Sp) (AO : Option Addr) (cO : Nat) (O : List Int) (hcO : O.length ≤ cO ∧ cO ≤ maxLen) (hB : B ≤ w.heap.size) (hR : RdIn w B AL R AS S) (lO : O.length ≤ maxLen) (hO : IL w B AO O) :
    Calls Try.prog 51 #[.agg #[.int .i64 b, .int .i64 r, .slice AL R.length cL, .slice AS S.length cS], .slice AO O.length cO] w fun e w' => e = .returned (.bool (orderB b r (gOf R) S O)) ∧ Below w.heap.size w w' := by
  have HR := Lib.hid hR; have HO := Lib.hid hO; clear hR hO
  have hlo := lO; unfold maxLen at hlo
  have hls := HR.out.ls; unfold maxLen at hls
  have HLO := Lib.hid lO; clear lO
  have hco1 := hcO.1; have hco2 := hcO.2; unfold maxLen at hco2; clear hcO
  have hra : ∀ W : World, Below w.heap.size w W → Calls Try.prog 33 #[.agg #[.int .i64 b, .int .i64 r, .slice AL R.length cL, .slice AS S.length cS]] W fun e w' => e = .returned (.bool (roundB b r (gOf R) S)) ∧ Below W.heap.size W w' := fun W hb => roundS_any W B b r AL AS cL cS R S (by have := hb.size; omega) (HR.out.later hB hb)
  have HRA := Lib.hid hra; clear hra
  cases h1 : roundB b r (gOf R) S
  · have H1 := Lib.hid h1; clear h1
    go_enter Try.func51, Try.ntmps51
    go_wp2_with fail
    refine (HRA.out _ (balloc _ _)).mono ?_
    rintro e w1 ⟨rfl, hb1⟩
    rw [H1.out]
    go_wp2_with fail
    go_ret
    exact ⟨ret_bool (by rw [orderB, H1.out, Bool.false_and]), bthen (balloc _ _) hb1⟩
  have H1 := Lib.hid h1; clear h1
  have hval : orderB b r (gOf R) S O = orderT S.length O := by rw [orderB, H1.out, Bool.true_and]
  have HVAL := Lib.hid hval; clear hval
  have h6 := ((roundB_iff _ _ _ _).1 H1.out).six
  go_enter Try.func51, Try.ntmps51
  go_wp2_with fail
  refine (HRA.out _ (balloc _ _)).mono ?_
  rintro e w1 ⟨rfl, hb1⟩
  rw [H1.out]
  have hk1 := has_call (has_new w 27 #[.int .i64 b, .int .i64 r, .slice AL R.length cL, .slice AS S.length cS]) hb1
  have hbb := bthen (balloc w _) hb1
  clear hb1
  have HK := Lib.hid hk1; clear hk1
  go_wp2_with fail
  go_loopw [5] (fun i wr => ∃ k : Nat, k ≤ O.length ∧ i = .int .i64 k ∧ (O.take k).Nodup ∧ (∀ x ∈ O.take k, 0 ≤ x ∧ x < S.length) ∧ Has wr w.heap.size 27 #[.int .i64 b, .int .i64 r, .slice AL R.length cL, .slice AS S.length cS] ∧ Below w.heap.size w wr) (fun i _ => O.length - (intOf i).toNat)
  case atStart => exact ⟨0, Nat.zero_le _, rfl, by simp, by simp, HK.out, hbb⟩
  case round =>
    obtain ⟨k, hk, rfl, hnd, hin, hH, hb⟩ := hrel
    have HND := Lib.hid hnd; have HIN := Lib.hid hin; clear hnd hin
    have hsz := hb.size
    have hbox : w.heap.size < wr.heap.size := has_lt hH
    by_cases hlt : k < O.length
    · have hww : IntKind.i64.wrap ((S.length : Int) - 1) = (S.length : Int) - 1 := IntWalk.i64_in _ (by omega)
      have hol := HO.out.later hB hb
      obtain ⟨bb, off, x, hA3, hbB, hx, hc0⟩ := hol.at_ hlt
      have Hx := Lib.hid hx; have HOL := Lib.hid hol; clear hx hol
      have hc3 := has_cell hH 3 rfl
      have HH := Lib.hid hH; clear hH
      subst hA3
      cases hq : inT x 0 ((S.length : Int) - 1)
      · have HQ := Lib.hid hq; clear hq
        have hqq : inT x 0 ((S.length : Int) - 1) = false := HQ.out
        have HV := Lib.hid (show orderT S.length O = false from order_no fun h => by have h8 := h.2 x (List.mem_of_getElem? Hx.out); rw [(inT_iff _ _ _).2 (by omega)] at hqq; cases hqq)
        clear hqq
        have hin : ∀ W : World, Calls Try.prog 44 #[.int .i64 x, .int .i64 0, .int .i64 ((S.length : Int) - 1)] W fun e w' => e = .returned (.bool false) ∧ w' = W := fun W => by
          have := inT_any W x 0 ((S.length : Int) - 1)
          rwa [HQ.out] at this
        have HI0 := Lib.hid hin; clear hin
        go_wp2_with fail
        go_quiet (first | (go_at_call 44; exact Calls.quiet_of_same (HI0.out _)))
        go_wp2_with fail
        go_ret
        exact ⟨ret_bool (by rw [HVAL.out, HV.out]), below_drewN hb _⟩
      · have HQ := Lib.hid hq; clear hq
        have hqr := (inT_iff _ _ _).1 HQ.out
        have hin : ∀ W : World, Calls Try.prog 44 #[.int .i64 x, .int .i64 0, .int .i64 ((S.length : Int) - 1)] W fun e w' => e = .returned (.bool true) ∧ w' = W := fun W => by
          have := inT_any W x 0 ((S.length : Int) - 1)
          rwa [HQ.out] at this
        have HI0 := Lib.hid hin; clear hin
        have hha : ∀ W : World, IL W B (some ⟨bb, off, none⟩) O → Calls Try.prog 45 #[.slice (some ⟨bb, off, none⟩) k cO, .int .i64 x] W fun e w' => e = .returned (.bool ((O.take k).contains x)) ∧ w' = W := fun W hW =>
          hasT_any W B _ _ k (O.take k) x (by rw [List.length_take]; omega) (by rw [List.length_take]; have := HLO.out; omega) (hW.take k)
        have hil : ∀ n, IL (wr.drewN n) B (some ⟨bb, off, none⟩) O := fun n => HOL.out
        obtain ⟨sv, hsv⟩ : ∃ sv, (O.take k).contains x = sv := ⟨_, rfl⟩
        rw [hsv] at hha
        have HHA := Lib.hid hha; have HIL := Lib.hid hil; have HSV := Lib.hid hsv; clear hha hil hsv
        cases sv
        · go_wp2_with fail
          go_quiet (first | (go_at_call 44; exact Calls.quiet_of_same (HI0.out _)) | (go_at_call 45; exact Calls.quiet_of_same (HHA.out _ (HIL.out _))))
          go_wp2_with fail
          go_roundw
          case rel => exact ⟨k + 1, by omega, by go_num, by rw [take_snoc Hx.out]; exact nodup_snoc HND.out HSV.out, (fun y hy => by
            rw [take_snoc Hx.out] at hy
            rcases List.mem_append.1 hy with hy | hy
            · exact HIN.out y hy
            · simp at hy; subst hy; omega), HH.out, below_drewN hb _⟩
          case measure => simp [intOf]; omega
        · have HV := Lib.hid (show orderT S.length O = false from order_twice Hx.out HSV.out)
          go_wp2_with fail
          go_quiet (first | (go_at_call 44; exact Calls.quiet_of_same (HI0.out _)) | (go_at_call 45; exact Calls.quiet_of_same (HHA.out _ (HIL.out _))))
          go_wp2_with fail
          go_ret
          exact ⟨ret_bool (by rw [HVAL.out, HV.out]), below_drewN hb _⟩
    · go_wp2_with fail
      go_ret
      have hkl : k = O.length := by omega
      subst hkl
      refine ⟨ret_bool ?_, hb⟩
      rw [HVAL.out, (orderT_iff _ _).2]
      have h1 := HND.out; have h2 := HIN.out
      rw [List.take_length] at h1 h2
      exact ⟨h1, h2⟩
end Go.Proofs.Ytfimdhbcifjioaa
