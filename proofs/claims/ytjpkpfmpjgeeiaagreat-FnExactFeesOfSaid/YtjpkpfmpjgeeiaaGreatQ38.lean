
/- Chapter 9: the model's NetworkOk (gen_npn.py). -/
import Derived.Test.YtjpkpfmpjgeeiaaGreatQ32
import Derived.Test.YtjpkpfmpjgeeiaaGreatQ36
import Derived.Test.YtjpkpfmpjgeeiaaGreatQ37
import Derived.Test.YtjpkpfmpjgeeiaaGreatQ27
import Derived.Deep.DeepCutAuto
namespace Go.Proofs.YtjpkpfmpjgeeiaaGreat
open Go.RowKit
set_option linter.unusedVariables false
set_option maxRecDepth 100000
theorem tells_q {p : Prop} {q : Bool} (hq : q = true ↔ p) {w w' : World} {e : Ending} (h : Tells p w e w') : e = .returned (.bool q) ∧ Below w.heap.size w w' := by
  obtain ⟨b, rfl, hb, h2⟩ := h
  have : b = q := by rw [Bool.eq_iff_iff, hb, hq]
  exact ⟨by rw [this], h2⟩
theorem has_q (p : Prop) : ∃ q : Bool, q = true ↔ p := by
  by_cases h : p
  · exact ⟨true, by simp [h]⟩
  · exact ⟨false, by simp [h]⟩
theorem len_in {m : Nat} : inR (m : Int) 1 3 = (decide (1 ≤ m) && decide (m ≤ 3)) := by
  unfold inR; rw [Bool.eq_iff_iff]; simp only [Bool.and_eq_true, decide_eq_true_eq]; omega
theorem par_facts {x : Net} {i : Nat} {p : Pc} (h : parB x i p = true) : (0 ≤ p.size ∧ p.size ≤ 24) ∧ 0 ≤ p.site ∧ p.site < x.st.length := by
  unfold parB at h
  simp only [Bool.and_eq_true] at h
  obtain ⟨⟨⟨⟨⟨h1, _⟩, h2, h3⟩, _⟩, _⟩, _⟩ := h
  have := inR_iff.1 h1
  have := of_decide_eq_true h2; have := of_decide_eq_true h3
  omega
set_option maxHeartbeats 8000000 in
theorem netS9_any (w : World) (B : Nat) (n : Net) (hB : B ≤ w.heap.size) (hV : NetV w B n) :
    Calls Tryz.prog 17 #[.agg #[.int .i64 n.tm.keep, .int .i64 n.tm.free, .int .i64 n.tm.step, .int .i64 n.tm.rate, .int .i64 n.tm.cap, .int .i64 n.tm.longer, .int .i64 n.tm.price, .int .i64 n.tm.most, .int .i64 n.room, .int .i64 n.secret, .int .i64 n.now, .slice n.AS n.st.length n.cS, .slice n.AP n.pc.length n.cP, .slice n.AG n.gr.length n.cG, .slice n.AJ n.jr.length n.cJ]] w (Tells (NetP n) w) := by
  have hl1 := hV.l1; have hl2 := hV.l2; have hl3 := hV.l3; have hl4 := hV.l4
  unfold maxLen at hl1 hl2
  have HV := Lib.hid hV; clear hV
  go_enter Tryz.func17, Tryz.ntmps17
  go_upto_region 1 with fail
  generalize hW : w.alloc (.cells #[.int .i64 n.tm.keep, .int .i64 n.tm.free, .int .i64 n.tm.step, .int .i64 n.tm.rate, .int .i64 n.tm.cap, .int .i64 n.tm.longer, .int .i64 n.tm.price, .int .i64 n.tm.most, .int .i64 n.room, .int .i64 n.secret, .int .i64 n.now, .slice n.AS n.st.length n.cS, .slice n.AP n.pc.length n.cP, .slice n.AG n.gr.length n.cG, .slice n.AJ n.jr.length n.cJ] 38) = w1
  have b1 : Below w.heap.size w w1 := by rw [← hW]; exact balloc _ _
  have k0 : Has w1 w.heap.size 38 #[.int .i64 n.tm.keep, .int .i64 n.tm.free, .int .i64 n.tm.step, .int .i64 n.tm.rate, .int .i64 n.tm.cap, .int .i64 n.tm.longer, .int .i64 n.tm.price, .int .i64 n.tm.most, .int .i64 n.room, .int .i64 n.secret, .int .i64 n.now, .slice n.AS n.st.length n.cS, .slice n.AP n.pc.length n.cP, .slice n.AG n.gr.length n.cG, .slice n.AJ n.jr.length n.cJ] := by rw [← hW]; exact has_new _ _ _
  clear hW
  have hs1 := b1.size
  have BB := Lib.hid b1; have K0 := Lib.hid k0; clear k0 b1
  have z0 := has_cell K0.out 0 rfl; have z1 := has_cell K0.out 1 rfl; have z2 := has_cell K0.out 2 rfl; have z3 := has_cell K0.out 3 rfl; have z4 := has_cell K0.out 4 rfl; have z5 := has_cell K0.out 5 rfl; have z6 := has_cell K0.out 6 rfl; have z7 := has_cell K0.out 7 rfl; have z8 := has_cell K0.out 8 rfl; have z9 := has_cell K0.out 9 rfl; have z10 := has_cell K0.out 10 rfl; have z11 := has_cell K0.out 11 rfl; have z12 := has_cell K0.out 12 rfl; have z13 := has_cell K0.out 13 rfl; have z14 := has_cell K0.out 14 rfl; have zl := has_lt K0.out
  go_wp2_with fail
  clear z0 z1 z2 z3 z4 z5 z6 z7 z8 z9 z10 z11 z12 z13 z14 zl
  refine (termsS_any w1 n.tm).mono ?_
  rintro e w2 ⟨rfl, hb⟩
  have kk := bthen BB.out hb; clear BB; have BB := Lib.hid kk; clear kk
  have kk := has_call K0.out hb; clear K0; have K0 := Lib.hid kk; clear kk
  have hsw2 := hb.size; clear hb
  cases ht : termsB n.tm
  have z0 := has_cell K0.out 0 rfl; have z1 := has_cell K0.out 1 rfl; have z2 := has_cell K0.out 2 rfl; have z3 := has_cell K0.out 3 rfl; have z4 := has_cell K0.out 4 rfl; have z5 := has_cell K0.out 5 rfl; have z6 := has_cell K0.out 6 rfl; have z7 := has_cell K0.out 7 rfl; have z8 := has_cell K0.out 8 rfl; have z9 := has_cell K0.out 9 rfl; have z10 := has_cell K0.out 10 rfl; have z11 := has_cell K0.out 11 rfl; have z12 := has_cell K0.out 12 rfl; have z13 := has_cell K0.out 13 rfl; have z14 := has_cell K0.out 14 rfl; have zl := has_lt K0.out
  · go_wp2_with fail
    go_ret
    exact tells_no (fun h => by have h9 := h.frame; simp [frameB, ht] at h9) BB.out
  have z0 := has_cell K0.out 0 rfl; have z1 := has_cell K0.out 1 rfl; have z2 := has_cell K0.out 2 rfl; have z3 := has_cell K0.out 3 rfl; have z4 := has_cell K0.out 4 rfl; have z5 := has_cell K0.out 5 rfl; have z6 := has_cell K0.out 6 rfl; have z7 := has_cell K0.out 7 rfl; have z8 := has_cell K0.out 8 rfl; have z9 := has_cell K0.out 9 rfl; have z10 := has_cell K0.out 10 rfl; have z11 := has_cell K0.out 11 rfl; have z12 := has_cell K0.out 12 rfl; have z13 := has_cell K0.out 13 rfl; have z14 := has_cell K0.out 14 rfl; have zl := has_lt K0.out
  go_wp2_with fail
  refine (inR_any _ n.room 0 1000).mono ?_
  rintro e w' ⟨rfl, hw⟩
  rw [hw]; clear hw
  cases h2 : inR n.room 0 1000
  · go_wp2_with fail
    go_ret
    exact tells_no (fun h => by have h9 := h.frame; simp [frameB, h2] at h9) BB.out
  go_wp2_with fail
  refine (secS_any _ n.secret).mono ?_
  rintro e w' ⟨rfl, hw⟩
  rw [hw]; clear hw
  cases h3 : secB n.secret
  · go_wp2_with fail
    go_ret
    exact tells_no (fun h => by have h9 := h.frame; simp [frameB, h3] at h9) BB.out
  go_wp2_with fail
  refine (inR_any _ n.now 0 20000).mono ?_
  rintro e w' ⟨rfl, hw⟩
  rw [hw]; clear hw
  cases h4 : inR n.now 0 20000
  · go_wp2_with fail
    go_ret
    exact tells_no (fun h => by have h9 := h.frame; simp [frameB, h4] at h9) BB.out
  go_wp2_with fail
  refine (inR_any _ (n.st.length : Int) 1 3).mono ?_
  rintro e w' ⟨rfl, hw⟩
  rw [hw]; clear hw
  rw [len_in]
  cases h5 : (decide (1 ≤ n.st.length) && decide (n.st.length ≤ 3))
  · go_wp2_with fail
    go_ret
    exact tells_no (fun h => by have h9 := h.frame; unfold frameB at h9; rw [h5] at h9; simp at h9) BB.out
  have hln : 1 ≤ n.st.length ∧ n.st.length ≤ 3 := by simpa using h5
  by_cases h6 : 12 < n.pc.length
  · go_wp2_with fail
    go_ret
    exact tells_no (fun h => by have h9 := h.frame; simp [frameB] at h9; omega) BB.out
  go_wp2_with fail
  clear z0 z1 z2 z3 z4 z5 z6 z7 z8 z9 z10 z11 z12 z13 z14 zl
  refine (grantsS_any w2 B n.AG n.cG n.gr hl3 (by omega) (HV.out.later hB BB.out).gl).mono ?_
  rintro e w3 ⟨rfl, hb⟩
  have kk := bthen BB.out hb; clear BB; have BB := Lib.hid kk; clear kk
  have kk := has_call K0.out hb; clear K0; have K0 := Lib.hid kk; clear kk
  have hsw3 := hb.size; clear hb
  cases h7 : grantsB n.gr
  have z0 := has_cell K0.out 0 rfl; have z1 := has_cell K0.out 1 rfl; have z2 := has_cell K0.out 2 rfl; have z3 := has_cell K0.out 3 rfl; have z4 := has_cell K0.out 4 rfl; have z5 := has_cell K0.out 5 rfl; have z6 := has_cell K0.out 6 rfl; have z7 := has_cell K0.out 7 rfl; have z8 := has_cell K0.out 8 rfl; have z9 := has_cell K0.out 9 rfl; have z10 := has_cell K0.out 10 rfl; have z11 := has_cell K0.out 11 rfl; have z12 := has_cell K0.out 12 rfl; have z13 := has_cell K0.out 13 rfl; have z14 := has_cell K0.out 14 rfl; have zl := has_lt K0.out
  · go_wp2_with fail
    go_ret
    exact tells_no (fun h => by have h9 := h.frame; simp [frameB, h7] at h9) BB.out
  have z0 := has_cell K0.out 0 rfl; have z1 := has_cell K0.out 1 rfl; have z2 := has_cell K0.out 2 rfl; have z3 := has_cell K0.out 3 rfl; have z4 := has_cell K0.out 4 rfl; have z5 := has_cell K0.out 5 rfl; have z6 := has_cell K0.out 6 rfl; have z7 := has_cell K0.out 7 rfl; have z8 := has_cell K0.out 8 rfl; have z9 := has_cell K0.out 9 rfl; have z10 := has_cell K0.out 10 rfl; have z11 := has_cell K0.out 11 rfl; have z12 := has_cell K0.out 12 rfl; have z13 := has_cell K0.out 13 rfl; have z14 := has_cell K0.out 14 rfl; have zl := has_lt K0.out
  go_wp2_with fail
  clear z0 z1 z2 z3 z4 z5 z6 z7 z8 z9 z10 z11 z12 z13 z14 zl
  refine (jrnS_any w3 B n.AJ n.cJ n.jr hl4 (by omega) (HV.out.later hB BB.out).ej).mono ?_
  rintro e w4 ⟨rfl, hb⟩
  have kk := bthen BB.out hb; clear BB; have BB := Lib.hid kk; clear kk
  have kk := has_call K0.out hb; clear K0; have K0 := Lib.hid kk; clear kk
  have hsw4 := hb.size; clear hb
  cases h8 : jrnB n.jr
  · go_wp2_with fail
    go_ret
    exact tells_no (fun h => by have h9 := h.frame; simp [frameB, h8] at h9) BB.out
  have hfr : frameB n = true := by unfold frameB; rw [ht, h2, h3, h4, h5, h7, h8]; simp; omega
  have HFR := Lib.hid hfr; have HT := Lib.hid ht; clear hfr h2 h3 h4 h5 h7 h8 ht
  have hl12 : n.pc.length ≤ 12 := by omega
  clear h6
  go_wp2_with fail
  go_loopw [3] (fun i wr => ∃ k : Nat, k ≤ n.st.length ∧ i = .int .i64 (k : Int) ∧ (∀ (j : Nat) (y : Sit), j < k → n.st[j]? = some y → SiteP n.pc j y) ∧ Below w4.heap.size w4 wr) (fun i _ => n.st.length - (intOf i).toNat)
  case atStart => exact ⟨0, Nat.zero_le _, rfl, fun j y h => by omega, Below.refl _ _⟩
  case round =>
    obtain ⟨k, hk, rfl, hall, hb⟩ := hrel
    have HALL := Lib.hid hall; clear hall
    have hsz := hb.size
    have BR := Lib.hid hb; have KR := Lib.hid (has_call K0.out hb); clear hb
    by_cases hlt : k < n.st.length
    · skip
      have hy0 := List.getElem?_eq_getElem hlt
      generalize n.st[k] = y at hy0
      have HY := Lib.hid hy0; clear hy0
      have hkk0 : (0 : Int) ≤ (k : Int) := by omega
      have hkk1 : (k : Int) < (n.st.length : Int) := by omega
      have z0 := has_cell KR.out 0 rfl; have z1 := has_cell KR.out 1 rfl; have z2 := has_cell KR.out 2 rfl; have z3 := has_cell KR.out 3 rfl; have z4 := has_cell KR.out 4 rfl; have z5 := has_cell KR.out 5 rfl; have z6 := has_cell KR.out 6 rfl; have z7 := has_cell KR.out 7 rfl; have z8 := has_cell KR.out 8 rfl; have z9 := has_cell KR.out 9 rfl; have z10 := has_cell KR.out 10 rfl; have z11 := has_cell KR.out 11 rfl; have z12 := has_cell KR.out 12 rfl; have z13 := has_cell KR.out 13 rfl; have z14 := has_cell KR.out 14 rfl; have zl := has_lt KR.out
      go_wp2_with fail
      clear z0 z1 z2 z3 z4 z5 z6 z7 z8 z9 z10 z11 z12 z13 z14 zl
      refine (siteS_any wr B n k y HY.out (by omega) (HV.out.later hB (bthen BB.out BR.out))).mono ?_
      rintro e w5 ⟨q, rfl, hq, hb5⟩
      have HQ := Lib.hid hq; clear hq
      cases q
      · go_wp2_with fail
        go_ret
        exact tells_no (fun h => by have h9 := HQ.out.2 (h.sites k y HY.out); cases h9) (bthen BB.out (bthen BR.out hb5))
      have h9 := HQ.out.1 rfl
      have HN9 := Lib.hid (show ∀ (j : Nat) (x : Sit), j < k + 1 → n.st[j]? = some x → SiteP n.pc j x from fun j x hj hx => by
        by_cases e : j = k
        · subst e; rw [HY.out] at hx; injection hx with hx; subst hx; exact h9
        · exact HALL.out j x (by omega) hx)
      clear h9
      go_wp2_with fail
      go_roundw
      case rel => exact ⟨k + 1, by omega, by go_num, HN9.out, bthen BR.out hb5⟩
      case measure => simp [intOf]; omega
    have hkl : k = n.st.length := by omega
    subst hkl
    have HSA := Lib.hid (show ∀ (j : Nat) (x : Sit), n.st[j]? = some x → SiteP n.pc j x from fun j x hx => HALL.out j x (List.getElem?_eq_some_iff.1 hx).1 hx)
    clear HALL
    have hmk : ¬ (n.st.length : Int) < (n.st.length : Int) := by omega
    have z11 := has_cell KR.out 11 rfl; have zl := has_lt KR.out
    go_wp2_with fail
    clear z11 zl
    go_loopw [4] (fun i wi => ∃ k : Nat, k ≤ n.pc.length ∧ i = .int .i64 (k : Int) ∧ (∀ (j : Nat) (y : Pc), j < k → n.pc[j]? = some y → parB n j y = true) ∧ Below w4.heap.size w4 wi) (fun i _ => n.pc.length - (intOf i).toNat)
    case atStart => exact ⟨0, Nat.zero_le _, rfl, fun j y h => by omega, BR.out⟩
    case round =>
      clear hmk hlt
      obtain ⟨k, hk2, rfl, hall, hb⟩ := hrel
      have HALL := Lib.hid hall; clear hall
      have hszi := hb.size
      have BI := Lib.hid hb; have KI := Lib.hid (has_call K0.out hb); clear hb KR
      have KR := KI.out; clear KI; have KI := Lib.hid KR; clear KR; have KR := KI
      by_cases hlt : k < n.pc.length
      · skip
        have hy0 := List.getElem?_eq_getElem hlt
        generalize n.pc[k] = p at hy0
        have HY := Lib.hid hy0; clear hy0
        have hkk0 : (0 : Int) ≤ (k : Int) := by omega
        have hkk1 : (k : Int) < (n.pc.length : Int) := by omega
        have z0 := has_cell KR.out 0 rfl; have z1 := has_cell KR.out 1 rfl; have z2 := has_cell KR.out 2 rfl; have z3 := has_cell KR.out 3 rfl; have z4 := has_cell KR.out 4 rfl; have z5 := has_cell KR.out 5 rfl; have z6 := has_cell KR.out 6 rfl; have z7 := has_cell KR.out 7 rfl; have z8 := has_cell KR.out 8 rfl; have z9 := has_cell KR.out 9 rfl; have z10 := has_cell KR.out 10 rfl; have z11 := has_cell KR.out 11 rfl; have z12 := has_cell KR.out 12 rfl; have z13 := has_cell KR.out 13 rfl; have z14 := has_cell KR.out 14 rfl; have zl := has_lt KR.out
        go_wp2_with fail
        clear z0 z1 z2 z3 z4 z5 z6 z7 z8 z9 z10 z11 z12 z13 z14 zl
        refine (parS_any wr B n k p HY.out (by omega) (HV.out.later hB (bthen BB.out BI.out)) HT.out hl12 hln.2).mono ?_
        rintro e w5 ⟨rfl, hb5⟩
        cases hq : parB n k p
        · go_wp2_with fail
          go_ret
          exact tells_no (fun h => by have h9 := h.pars k p HY.out; rw [hq] at h9; cases h9) (bthen BB.out (bthen BI.out hb5))
        have HN9 := Lib.hid (show ∀ (j : Nat) (x : Pc), j < k + 1 → n.pc[j]? = some x → parB n j x = true from fun j x hj hx => by
          by_cases e : j = k
          · subst e; rw [HY.out] at hx; injection hx with hx; subst hx; exact hq
          · exact HALL.out j x (by omega) hx)
        clear hq
        go_wp2_with fail
        go_roundw
        case rel => exact ⟨k + 1, by omega, by go_num, HN9.out, bthen BI.out hb5⟩
        case measure => simp [intOf]; omega
      have hkl : k = n.pc.length := by omega
      subst hkl
      have HPA := Lib.hid (show ∀ (j : Nat) (x : Pc), n.pc[j]? = some x → parB n j x = true from fun j x hx => HALL.out j x (List.getElem?_eq_some_iff.1 hx).1 hx)
      clear HALL
      have hmk : ¬ (n.pc.length : Int) < (n.pc.length : Int) := by omega
      have hpf : ∀ p ∈ n.pc, (0 ≤ p.size ∧ p.size ≤ 24) ∧ 0 ≤ p.site ∧ p.site < n.st.length := fun p hp => by
        obtain ⟨i, hi⟩ := List.getElem?_of_mem hp
        exact par_facts (HPA.out i p hi)
      have HPF := Lib.hid hpf; clear hpf
      have hbk : ∀ s ∈ n.st, BankP s.bk := fun s hs => by
        obtain ⟨i, hi⟩ := List.getElem?_of_mem hs
        exact (HSA.out i s hi).2.1
      have HBK := Lib.hid hbk; clear hbk
      obtain ⟨q, hq⟩ := has_q (BoxesB n ∧ cntN n.st = kepN n.pc)
      have hkc : BoxesB n → (KeptP n ↔ cntN n.st = kepN n.pc) := fun h => kept_count HBK.out (fun p hp => (HPF.out p hp).2) h
      have HBX := Lib.hid (fun W (hb9 : Below w.heap.size w W) => (boxesS9_any W B n (Nat.le_trans hB hb9.size) (HV.out.later hB hb9) HBK.out hln.2 hl12).mono fun e w' h => tells_q hq h)
      have HLD := Lib.hid (fun W (hb9 : Below w.heap.size w W) => loadS_any W B n (Nat.le_trans hB hb9.size) (HV.out.later hB hb9) (fun p hp => (HPF.out p hp).1) (fun p hp _ => (HPF.out p hp).2) hl12)
      have HKC := Lib.hid hkc; have HQ := Lib.hid hq; clear hkc hq
      have z12 := has_cell KR.out 12 rfl; have zl := has_lt KR.out
      go_upto_region 13 with fail
      clear z12 zl
      have BW := Lib.hid (bthen BB.out BI.out)
      generalize hld : loadL n.st n.pc = ld at HLD
      cases q
      · skip
        have hln2 := has_lt KR.out
        have nc0 := has_cell (has_drew KR.out) 0 rfl; have nc1 := has_cell (has_drew KR.out) 1 rfl; have nc2 := has_cell (has_drew KR.out) 2 rfl; have nc3 := has_cell (has_drew KR.out) 3 rfl; have nc4 := has_cell (has_drew KR.out) 4 rfl; have nc5 := has_cell (has_drew KR.out) 5 rfl; have nc6 := has_cell (has_drew KR.out) 6 rfl; have nc7 := has_cell (has_drew KR.out) 7 rfl; have nc8 := has_cell (has_drew KR.out) 8 rfl; have nc9 := has_cell (has_drew KR.out) 9 rfl; have nc10 := has_cell (has_drew KR.out) 10 rfl; have nc11 := has_cell (has_drew KR.out) 11 rfl; have nc12 := has_cell (has_drew KR.out) 12 rfl; have nc13 := has_cell (has_drew KR.out) 13 rfl; have nc14 := has_cell (has_drew KR.out) 14 rfl
        have S0 : (fun W : World => (W.cell? ⟨w.heap.size, 0, none⟩ = some (.int .i64 n.tm.keep) ∧ W.cell? ⟨w.heap.size, 1, none⟩ = some (.int .i64 n.tm.free) ∧ W.cell? ⟨w.heap.size, 2, none⟩ = some (.int .i64 n.tm.step) ∧ W.cell? ⟨w.heap.size, 3, none⟩ = some (.int .i64 n.tm.rate) ∧ W.cell? ⟨w.heap.size, 4, none⟩ = some (.int .i64 n.tm.cap) ∧ W.cell? ⟨w.heap.size, 5, none⟩ = some (.int .i64 n.tm.longer) ∧ W.cell? ⟨w.heap.size, 6, none⟩ = some (.int .i64 n.tm.price) ∧ W.cell? ⟨w.heap.size, 7, none⟩ = some (.int .i64 n.tm.most) ∧ W.cell? ⟨w.heap.size, 8, none⟩ = some (.int .i64 n.room) ∧ W.cell? ⟨w.heap.size, 9, none⟩ = some (.int .i64 n.secret) ∧ W.cell? ⟨w.heap.size, 10, none⟩ = some (.int .i64 n.now) ∧ W.cell? ⟨w.heap.size, 11, none⟩ = some (.slice n.AS n.st.length n.cS) ∧ W.cell? ⟨w.heap.size, 12, none⟩ = some (.slice n.AP n.pc.length n.cP) ∧ W.cell? ⟨w.heap.size, 13, none⟩ = some (.slice n.AG n.gr.length n.cG) ∧ W.cell? ⟨w.heap.size, 14, none⟩ = some (.slice n.AJ n.jr.length n.cJ)) ∧ Below wr.heap.size wr W) wr.drew := ⟨⟨nc0, nc1, nc2, nc3, nc4, nc5, nc6, nc7, nc8, nc9, nc10, nc11, nc12, nc13, nc14⟩, (Below.refl _ _).drew⟩
        clear nc0 nc1 nc2 nc3 nc4 nc5 nc6 nc7 nc8 nc9 nc10 nc11 nc12 nc13 nc14
        refine wp_region_held_drew (S := (fun W : World => (W.cell? ⟨w.heap.size, 0, none⟩ = some (.int .i64 n.tm.keep) ∧ W.cell? ⟨w.heap.size, 1, none⟩ = some (.int .i64 n.tm.free) ∧ W.cell? ⟨w.heap.size, 2, none⟩ = some (.int .i64 n.tm.step) ∧ W.cell? ⟨w.heap.size, 3, none⟩ = some (.int .i64 n.tm.rate) ∧ W.cell? ⟨w.heap.size, 4, none⟩ = some (.int .i64 n.tm.cap) ∧ W.cell? ⟨w.heap.size, 5, none⟩ = some (.int .i64 n.tm.longer) ∧ W.cell? ⟨w.heap.size, 6, none⟩ = some (.int .i64 n.tm.price) ∧ W.cell? ⟨w.heap.size, 7, none⟩ = some (.int .i64 n.tm.most) ∧ W.cell? ⟨w.heap.size, 8, none⟩ = some (.int .i64 n.room) ∧ W.cell? ⟨w.heap.size, 9, none⟩ = some (.int .i64 n.secret) ∧ W.cell? ⟨w.heap.size, 10, none⟩ = some (.int .i64 n.now) ∧ W.cell? ⟨w.heap.size, 11, none⟩ = some (.slice n.AS n.st.length n.cS) ∧ W.cell? ⟨w.heap.size, 12, none⟩ = some (.slice n.AP n.pc.length n.cP) ∧ W.cell? ⟨w.heap.size, 13, none⟩ = some (.slice n.AG n.gr.length n.cG) ∧ W.cell? ⟨w.heap.size, 14, none⟩ = some (.slice n.AJ n.jr.length n.cJ)) ∧ Below wr.heap.size wr W)) (by kernel_rfl) S0 (fun _ => ?_)
        refine tk9 (i := 0) (some 74) (.agg #[.int .i64 n.tm.keep, .int .i64 n.tm.free, .int .i64 n.tm.step, .int .i64 n.tm.rate, .int .i64 n.tm.cap, .int .i64 n.tm.longer, .int .i64 n.tm.price, .int .i64 n.tm.most, .int .i64 n.room, .int .i64 n.secret, .int .i64 n.now, .slice n.AS n.st.length n.cS, .slice n.AP n.pc.length n.cP, .slice n.AG n.gr.length n.cG, .slice n.AJ n.jr.length n.cJ]) rfl rfl (fun W hSw => ?_) S0 ?_
        · (try dsimp only at hSw); go_simp <;> with_reducible rfl
        try simp only [Act.put, l9a, l9z, l9s]
        refine wpAnyH_ready (rs := [1]) (by kernel_rfl) (by simp) ?_
        refine AllReadyH.cons rfl (fun K hK => ?_) AllReadyH.nil
        go_simp
        go_at_call 39
        refine (HBX.out _ (bthen BW.out S0.2)).mono ?_
        rintro e wa ⟨rfl, hb8⟩
        have hb9wa : Below wr.heap.size wr wa := bthen ((Below.refl _ _).drew : Below wr.heap.size wr wr.drew) hb8
        have Swa : (fun W : World => (W.cell? ⟨w.heap.size, 0, none⟩ = some (.int .i64 n.tm.keep) ∧ W.cell? ⟨w.heap.size, 1, none⟩ = some (.int .i64 n.tm.free) ∧ W.cell? ⟨w.heap.size, 2, none⟩ = some (.int .i64 n.tm.step) ∧ W.cell? ⟨w.heap.size, 3, none⟩ = some (.int .i64 n.tm.rate) ∧ W.cell? ⟨w.heap.size, 4, none⟩ = some (.int .i64 n.tm.cap) ∧ W.cell? ⟨w.heap.size, 5, none⟩ = some (.int .i64 n.tm.longer) ∧ W.cell? ⟨w.heap.size, 6, none⟩ = some (.int .i64 n.tm.price) ∧ W.cell? ⟨w.heap.size, 7, none⟩ = some (.int .i64 n.tm.most) ∧ W.cell? ⟨w.heap.size, 8, none⟩ = some (.int .i64 n.room) ∧ W.cell? ⟨w.heap.size, 9, none⟩ = some (.int .i64 n.secret) ∧ W.cell? ⟨w.heap.size, 10, none⟩ = some (.int .i64 n.now) ∧ W.cell? ⟨w.heap.size, 11, none⟩ = some (.slice n.AS n.st.length n.cS) ∧ W.cell? ⟨w.heap.size, 12, none⟩ = some (.slice n.AP n.pc.length n.cP) ∧ W.cell? ⟨w.heap.size, 13, none⟩ = some (.slice n.AG n.gr.length n.cG) ∧ W.cell? ⟨w.heap.size, 14, none⟩ = some (.slice n.AJ n.jr.length n.cJ)) ∧ Below wr.heap.size wr W) wa := ⟨⟨(bold hb9wa _ _ (by omega)).trans S0.1.1, (bold hb9wa _ _ (by omega)).trans S0.1.2.1, (bold hb9wa _ _ (by omega)).trans S0.1.2.2.1, (bold hb9wa _ _ (by omega)).trans S0.1.2.2.2.1, (bold hb9wa _ _ (by omega)).trans S0.1.2.2.2.2.1, (bold hb9wa _ _ (by omega)).trans S0.1.2.2.2.2.2.1, (bold hb9wa _ _ (by omega)).trans S0.1.2.2.2.2.2.2.1, (bold hb9wa _ _ (by omega)).trans S0.1.2.2.2.2.2.2.2.1, (bold hb9wa _ _ (by omega)).trans S0.1.2.2.2.2.2.2.2.2.1, (bold hb9wa _ _ (by omega)).trans S0.1.2.2.2.2.2.2.2.2.2.1, (bold hb9wa _ _ (by omega)).trans S0.1.2.2.2.2.2.2.2.2.2.2.1, (bold hb9wa _ _ (by omega)).trans S0.1.2.2.2.2.2.2.2.2.2.2.2.1, (bold hb9wa _ _ (by omega)).trans S0.1.2.2.2.2.2.2.2.2.2.2.2.2.1, (bold hb9wa _ _ (by omega)).trans S0.1.2.2.2.2.2.2.2.2.2.2.2.2.2.1, (bold hb9wa _ _ (by omega)).trans S0.1.2.2.2.2.2.2.2.2.2.2.2.2.2.2⟩, hb9wa⟩
        clear hb8
        go_wp2_with fail
        refine hK.out _ _ Swa (fun _ => ?_)
        clear hK K
        try simp only [Act.put, l9a, l9z, l9s]
        refine tk9 (i := 2) (some 76) (.bool false) rfl rfl (fun W hSw => ?_) Swa ?_
        · (try dsimp only at hSw); go_simp <;> with_reducible rfl
        try simp only [Act.put, l9a, l9z, l9s]
        refine sk9 (i := 3) (some 77) rfl rfl Swa ?_
        try simp only [Act.put, l9a, l9z, l9s]
        refine sk9 (i := 4) (some 78) rfl rfl Swa ?_
        try simp only [Act.put, l9a, l9z, l9s]
        refine sk9 (i := 5) (some 79) rfl rfl Swa ?_
        try simp only [Act.put, l9a, l9z, l9s]
        refine sk9 (i := 6) (some 80) rfl rfl Swa ?_
        try simp only [Act.put, l9a, l9z, l9s]
        refine sk9 (i := 7) (some 81) rfl rfl Swa ?_
        try simp only [Act.put, l9a, l9z, l9s]
        refine tk9 (i := 8) (some 82) (.bool false) rfl rfl (fun W hSw => ?_) Swa ?_
        · (try dsimp only at hSw); go_simp <;> with_reducible rfl
        try simp only [Act.put, l9a, l9z, l9s]
        refine tk9 (i := 9) (some 2) (.bool false) rfl rfl (fun W hSw => ?_) Swa ?_
        · (try dsimp only at hSw); go_simp <;> with_reducible rfl
        try simp only [Act.put, l9a, l9z, l9s]
        refine wpAnyH_done (by kernel_rfl) ?_ _
        have hbreg : Below wr.heap.size wr wa := Swa.2
        clear S0 Swa hb9wa
        go_wp2_with fail
        go_ret
        exact tells_no (fun h => by have h9 := HQ.out.2 ⟨h.boxes, (HKC.out h.boxes).1 h.kept⟩; cases h9) (bthen BW.out hbreg)
      have hqt := HQ.out.1 rfl
      have HQT := Lib.hid hqt; clear hqt
      by_cases hle : ld ≤ n.room
      · skip
        have hln2 := has_lt KR.out
        have nc0 := has_cell (has_drew KR.out) 0 rfl; have nc1 := has_cell (has_drew KR.out) 1 rfl; have nc2 := has_cell (has_drew KR.out) 2 rfl; have nc3 := has_cell (has_drew KR.out) 3 rfl; have nc4 := has_cell (has_drew KR.out) 4 rfl; have nc5 := has_cell (has_drew KR.out) 5 rfl; have nc6 := has_cell (has_drew KR.out) 6 rfl; have nc7 := has_cell (has_drew KR.out) 7 rfl; have nc8 := has_cell (has_drew KR.out) 8 rfl; have nc9 := has_cell (has_drew KR.out) 9 rfl; have nc10 := has_cell (has_drew KR.out) 10 rfl; have nc11 := has_cell (has_drew KR.out) 11 rfl; have nc12 := has_cell (has_drew KR.out) 12 rfl; have nc13 := has_cell (has_drew KR.out) 13 rfl; have nc14 := has_cell (has_drew KR.out) 14 rfl
        have S0 : (fun W : World => (W.cell? ⟨w.heap.size, 0, none⟩ = some (.int .i64 n.tm.keep) ∧ W.cell? ⟨w.heap.size, 1, none⟩ = some (.int .i64 n.tm.free) ∧ W.cell? ⟨w.heap.size, 2, none⟩ = some (.int .i64 n.tm.step) ∧ W.cell? ⟨w.heap.size, 3, none⟩ = some (.int .i64 n.tm.rate) ∧ W.cell? ⟨w.heap.size, 4, none⟩ = some (.int .i64 n.tm.cap) ∧ W.cell? ⟨w.heap.size, 5, none⟩ = some (.int .i64 n.tm.longer) ∧ W.cell? ⟨w.heap.size, 6, none⟩ = some (.int .i64 n.tm.price) ∧ W.cell? ⟨w.heap.size, 7, none⟩ = some (.int .i64 n.tm.most) ∧ W.cell? ⟨w.heap.size, 8, none⟩ = some (.int .i64 n.room) ∧ W.cell? ⟨w.heap.size, 9, none⟩ = some (.int .i64 n.secret) ∧ W.cell? ⟨w.heap.size, 10, none⟩ = some (.int .i64 n.now) ∧ W.cell? ⟨w.heap.size, 11, none⟩ = some (.slice n.AS n.st.length n.cS) ∧ W.cell? ⟨w.heap.size, 12, none⟩ = some (.slice n.AP n.pc.length n.cP) ∧ W.cell? ⟨w.heap.size, 13, none⟩ = some (.slice n.AG n.gr.length n.cG) ∧ W.cell? ⟨w.heap.size, 14, none⟩ = some (.slice n.AJ n.jr.length n.cJ)) ∧ Below wr.heap.size wr W) wr.drew := ⟨⟨nc0, nc1, nc2, nc3, nc4, nc5, nc6, nc7, nc8, nc9, nc10, nc11, nc12, nc13, nc14⟩, (Below.refl _ _).drew⟩
        clear nc0 nc1 nc2 nc3 nc4 nc5 nc6 nc7 nc8 nc9 nc10 nc11 nc12 nc13 nc14
        refine wp_region_held_drew (S := (fun W : World => (W.cell? ⟨w.heap.size, 0, none⟩ = some (.int .i64 n.tm.keep) ∧ W.cell? ⟨w.heap.size, 1, none⟩ = some (.int .i64 n.tm.free) ∧ W.cell? ⟨w.heap.size, 2, none⟩ = some (.int .i64 n.tm.step) ∧ W.cell? ⟨w.heap.size, 3, none⟩ = some (.int .i64 n.tm.rate) ∧ W.cell? ⟨w.heap.size, 4, none⟩ = some (.int .i64 n.tm.cap) ∧ W.cell? ⟨w.heap.size, 5, none⟩ = some (.int .i64 n.tm.longer) ∧ W.cell? ⟨w.heap.size, 6, none⟩ = some (.int .i64 n.tm.price) ∧ W.cell? ⟨w.heap.size, 7, none⟩ = some (.int .i64 n.tm.most) ∧ W.cell? ⟨w.heap.size, 8, none⟩ = some (.int .i64 n.room) ∧ W.cell? ⟨w.heap.size, 9, none⟩ = some (.int .i64 n.secret) ∧ W.cell? ⟨w.heap.size, 10, none⟩ = some (.int .i64 n.now) ∧ W.cell? ⟨w.heap.size, 11, none⟩ = some (.slice n.AS n.st.length n.cS) ∧ W.cell? ⟨w.heap.size, 12, none⟩ = some (.slice n.AP n.pc.length n.cP) ∧ W.cell? ⟨w.heap.size, 13, none⟩ = some (.slice n.AG n.gr.length n.cG) ∧ W.cell? ⟨w.heap.size, 14, none⟩ = some (.slice n.AJ n.jr.length n.cJ)) ∧ Below wr.heap.size wr W)) (by kernel_rfl) S0 (fun _ => ?_)
        refine tk9 (i := 0) (some 74) (.agg #[.int .i64 n.tm.keep, .int .i64 n.tm.free, .int .i64 n.tm.step, .int .i64 n.tm.rate, .int .i64 n.tm.cap, .int .i64 n.tm.longer, .int .i64 n.tm.price, .int .i64 n.tm.most, .int .i64 n.room, .int .i64 n.secret, .int .i64 n.now, .slice n.AS n.st.length n.cS, .slice n.AP n.pc.length n.cP, .slice n.AG n.gr.length n.cG, .slice n.AJ n.jr.length n.cJ]) rfl rfl (fun W hSw => ?_) S0 ?_
        · (try dsimp only at hSw); go_simp <;> with_reducible rfl
        try simp only [Act.put, l9a, l9z, l9s]
        refine wpAnyH_ready (rs := [1]) (by kernel_rfl) (by simp) ?_
        refine AllReadyH.cons rfl (fun K hK => ?_) AllReadyH.nil
        go_simp
        go_at_call 39
        refine (HBX.out _ (bthen BW.out S0.2)).mono ?_
        rintro e wa ⟨rfl, hb8⟩
        have hb9wa : Below wr.heap.size wr wa := bthen ((Below.refl _ _).drew : Below wr.heap.size wr wr.drew) hb8
        have Swa : (fun W : World => (W.cell? ⟨w.heap.size, 0, none⟩ = some (.int .i64 n.tm.keep) ∧ W.cell? ⟨w.heap.size, 1, none⟩ = some (.int .i64 n.tm.free) ∧ W.cell? ⟨w.heap.size, 2, none⟩ = some (.int .i64 n.tm.step) ∧ W.cell? ⟨w.heap.size, 3, none⟩ = some (.int .i64 n.tm.rate) ∧ W.cell? ⟨w.heap.size, 4, none⟩ = some (.int .i64 n.tm.cap) ∧ W.cell? ⟨w.heap.size, 5, none⟩ = some (.int .i64 n.tm.longer) ∧ W.cell? ⟨w.heap.size, 6, none⟩ = some (.int .i64 n.tm.price) ∧ W.cell? ⟨w.heap.size, 7, none⟩ = some (.int .i64 n.tm.most) ∧ W.cell? ⟨w.heap.size, 8, none⟩ = some (.int .i64 n.room) ∧ W.cell? ⟨w.heap.size, 9, none⟩ = some (.int .i64 n.secret) ∧ W.cell? ⟨w.heap.size, 10, none⟩ = some (.int .i64 n.now) ∧ W.cell? ⟨w.heap.size, 11, none⟩ = some (.slice n.AS n.st.length n.cS) ∧ W.cell? ⟨w.heap.size, 12, none⟩ = some (.slice n.AP n.pc.length n.cP) ∧ W.cell? ⟨w.heap.size, 13, none⟩ = some (.slice n.AG n.gr.length n.cG) ∧ W.cell? ⟨w.heap.size, 14, none⟩ = some (.slice n.AJ n.jr.length n.cJ)) ∧ Below wr.heap.size wr W) wa := ⟨⟨(bold hb9wa _ _ (by omega)).trans S0.1.1, (bold hb9wa _ _ (by omega)).trans S0.1.2.1, (bold hb9wa _ _ (by omega)).trans S0.1.2.2.1, (bold hb9wa _ _ (by omega)).trans S0.1.2.2.2.1, (bold hb9wa _ _ (by omega)).trans S0.1.2.2.2.2.1, (bold hb9wa _ _ (by omega)).trans S0.1.2.2.2.2.2.1, (bold hb9wa _ _ (by omega)).trans S0.1.2.2.2.2.2.2.1, (bold hb9wa _ _ (by omega)).trans S0.1.2.2.2.2.2.2.2.1, (bold hb9wa _ _ (by omega)).trans S0.1.2.2.2.2.2.2.2.2.1, (bold hb9wa _ _ (by omega)).trans S0.1.2.2.2.2.2.2.2.2.2.1, (bold hb9wa _ _ (by omega)).trans S0.1.2.2.2.2.2.2.2.2.2.2.1, (bold hb9wa _ _ (by omega)).trans S0.1.2.2.2.2.2.2.2.2.2.2.2.1, (bold hb9wa _ _ (by omega)).trans S0.1.2.2.2.2.2.2.2.2.2.2.2.2.1, (bold hb9wa _ _ (by omega)).trans S0.1.2.2.2.2.2.2.2.2.2.2.2.2.2.1, (bold hb9wa _ _ (by omega)).trans S0.1.2.2.2.2.2.2.2.2.2.2.2.2.2.2⟩, hb9wa⟩
        clear hb8
        go_wp2_with fail
        refine hK.out _ _ Swa (fun _ => ?_)
        clear hK K
        try simp only [Act.put, l9a, l9z, l9s]
        refine tk9 (i := 2) (some 76) (.bool true) rfl rfl (fun W hSw => ?_) Swa ?_
        · (try dsimp only at hSw); go_simp <;> with_reducible rfl
        try simp only [Act.put, l9a, l9z, l9s]
        refine tk9 (i := 3) (some 77) (.agg #[.int .i64 n.tm.keep, .int .i64 n.tm.free, .int .i64 n.tm.step, .int .i64 n.tm.rate, .int .i64 n.tm.cap, .int .i64 n.tm.longer, .int .i64 n.tm.price, .int .i64 n.tm.most, .int .i64 n.room, .int .i64 n.secret, .int .i64 n.now, .slice n.AS n.st.length n.cS, .slice n.AP n.pc.length n.cP, .slice n.AG n.gr.length n.cG, .slice n.AJ n.jr.length n.cJ]) rfl rfl (fun W hSw => ?_) Swa ?_
        · (try dsimp only at hSw); go_simp <;> with_reducible rfl
        try simp only [Act.put, l9a, l9z, l9s]
        refine tk9 (i := 5) (some 79) (.pointer (some ⟨w.heap.size, 8, none⟩)) rfl rfl (fun W hSw => ?_) Swa ?_
        · (try dsimp only at hSw); go_simp <;> with_reducible rfl
        try simp only [Act.put, l9a, l9z, l9s]
        refine tk9 (i := 6) (some 80) (.int .i64 n.room) rfl rfl (fun W hSw => ?_) Swa ?_
        · (try dsimp only at hSw); go_simp <;> with_reducible rfl
        try simp only [Act.put, l9a, l9z, l9s]
        refine wpAnyH_ready (rs := [4]) (by kernel_rfl) (by simp) ?_
        refine AllReadyH.cons rfl (fun K hK => ?_) AllReadyH.nil
        go_simp
        go_at_call 40
        refine (HLD.out _ (bthen BW.out Swa.2)).mono ?_
        rintro e wb ⟨rfl, hb8⟩
        have hb9wb : Below wr.heap.size wr wb := bthen Swa.2 hb8
        have Swb : (fun W : World => (W.cell? ⟨w.heap.size, 0, none⟩ = some (.int .i64 n.tm.keep) ∧ W.cell? ⟨w.heap.size, 1, none⟩ = some (.int .i64 n.tm.free) ∧ W.cell? ⟨w.heap.size, 2, none⟩ = some (.int .i64 n.tm.step) ∧ W.cell? ⟨w.heap.size, 3, none⟩ = some (.int .i64 n.tm.rate) ∧ W.cell? ⟨w.heap.size, 4, none⟩ = some (.int .i64 n.tm.cap) ∧ W.cell? ⟨w.heap.size, 5, none⟩ = some (.int .i64 n.tm.longer) ∧ W.cell? ⟨w.heap.size, 6, none⟩ = some (.int .i64 n.tm.price) ∧ W.cell? ⟨w.heap.size, 7, none⟩ = some (.int .i64 n.tm.most) ∧ W.cell? ⟨w.heap.size, 8, none⟩ = some (.int .i64 n.room) ∧ W.cell? ⟨w.heap.size, 9, none⟩ = some (.int .i64 n.secret) ∧ W.cell? ⟨w.heap.size, 10, none⟩ = some (.int .i64 n.now) ∧ W.cell? ⟨w.heap.size, 11, none⟩ = some (.slice n.AS n.st.length n.cS) ∧ W.cell? ⟨w.heap.size, 12, none⟩ = some (.slice n.AP n.pc.length n.cP) ∧ W.cell? ⟨w.heap.size, 13, none⟩ = some (.slice n.AG n.gr.length n.cG) ∧ W.cell? ⟨w.heap.size, 14, none⟩ = some (.slice n.AJ n.jr.length n.cJ)) ∧ Below wr.heap.size wr W) wb := ⟨⟨(bold hb9wb _ _ (by omega)).trans S0.1.1, (bold hb9wb _ _ (by omega)).trans S0.1.2.1, (bold hb9wb _ _ (by omega)).trans S0.1.2.2.1, (bold hb9wb _ _ (by omega)).trans S0.1.2.2.2.1, (bold hb9wb _ _ (by omega)).trans S0.1.2.2.2.2.1, (bold hb9wb _ _ (by omega)).trans S0.1.2.2.2.2.2.1, (bold hb9wb _ _ (by omega)).trans S0.1.2.2.2.2.2.2.1, (bold hb9wb _ _ (by omega)).trans S0.1.2.2.2.2.2.2.2.1, (bold hb9wb _ _ (by omega)).trans S0.1.2.2.2.2.2.2.2.2.1, (bold hb9wb _ _ (by omega)).trans S0.1.2.2.2.2.2.2.2.2.2.1, (bold hb9wb _ _ (by omega)).trans S0.1.2.2.2.2.2.2.2.2.2.2.1, (bold hb9wb _ _ (by omega)).trans S0.1.2.2.2.2.2.2.2.2.2.2.2.1, (bold hb9wb _ _ (by omega)).trans S0.1.2.2.2.2.2.2.2.2.2.2.2.2.1, (bold hb9wb _ _ (by omega)).trans S0.1.2.2.2.2.2.2.2.2.2.2.2.2.2.1, (bold hb9wb _ _ (by omega)).trans S0.1.2.2.2.2.2.2.2.2.2.2.2.2.2.2⟩, hb9wb⟩
        clear hb8
        go_wp2_with fail
        refine hK.out _ _ Swb (fun _ => ?_)
        clear hK K
        try simp only [Act.put, l9a, l9z, l9s]
        refine tk9 (i := 7) (some 81) (.bool true) rfl rfl (fun W hSw => ?_) Swb ?_
        · (try dsimp only at hSw); go_simp <;> first | with_reducible rfl | simp [hle]
        try simp only [Act.put, l9a, l9z, l9s]
        refine tk9 (i := 8) (some 82) (.bool true) rfl rfl (fun W hSw => ?_) Swb ?_
        · (try dsimp only at hSw); go_simp <;> with_reducible rfl
        try simp only [Act.put, l9a, l9z, l9s]
        refine tk9 (i := 9) (some 2) (.bool true) rfl rfl (fun W hSw => ?_) Swb ?_
        · (try dsimp only at hSw); go_simp <;> with_reducible rfl
        try simp only [Act.put, l9a, l9z, l9s]
        refine wpAnyH_done (by kernel_rfl) ?_ _
        have hbreg : Below wr.heap.size wr wb := Swb.2
        clear S0 Swa hb9wa Swb hb9wb
        go_wp2_with fail
        go_ret
        exact tells_yes ⟨HFR.out, HSA.out, HPA.out, HQT.out.1, (HKC.out HQT.out.1).2 HQT.out.2, by rw [hld]; exact hle⟩ (bthen BW.out hbreg)
      · skip
        have hln2 := has_lt KR.out
        have nc0 := has_cell (has_drew KR.out) 0 rfl; have nc1 := has_cell (has_drew KR.out) 1 rfl; have nc2 := has_cell (has_drew KR.out) 2 rfl; have nc3 := has_cell (has_drew KR.out) 3 rfl; have nc4 := has_cell (has_drew KR.out) 4 rfl; have nc5 := has_cell (has_drew KR.out) 5 rfl; have nc6 := has_cell (has_drew KR.out) 6 rfl; have nc7 := has_cell (has_drew KR.out) 7 rfl; have nc8 := has_cell (has_drew KR.out) 8 rfl; have nc9 := has_cell (has_drew KR.out) 9 rfl; have nc10 := has_cell (has_drew KR.out) 10 rfl; have nc11 := has_cell (has_drew KR.out) 11 rfl; have nc12 := has_cell (has_drew KR.out) 12 rfl; have nc13 := has_cell (has_drew KR.out) 13 rfl; have nc14 := has_cell (has_drew KR.out) 14 rfl
        have S0 : (fun W : World => (W.cell? ⟨w.heap.size, 0, none⟩ = some (.int .i64 n.tm.keep) ∧ W.cell? ⟨w.heap.size, 1, none⟩ = some (.int .i64 n.tm.free) ∧ W.cell? ⟨w.heap.size, 2, none⟩ = some (.int .i64 n.tm.step) ∧ W.cell? ⟨w.heap.size, 3, none⟩ = some (.int .i64 n.tm.rate) ∧ W.cell? ⟨w.heap.size, 4, none⟩ = some (.int .i64 n.tm.cap) ∧ W.cell? ⟨w.heap.size, 5, none⟩ = some (.int .i64 n.tm.longer) ∧ W.cell? ⟨w.heap.size, 6, none⟩ = some (.int .i64 n.tm.price) ∧ W.cell? ⟨w.heap.size, 7, none⟩ = some (.int .i64 n.tm.most) ∧ W.cell? ⟨w.heap.size, 8, none⟩ = some (.int .i64 n.room) ∧ W.cell? ⟨w.heap.size, 9, none⟩ = some (.int .i64 n.secret) ∧ W.cell? ⟨w.heap.size, 10, none⟩ = some (.int .i64 n.now) ∧ W.cell? ⟨w.heap.size, 11, none⟩ = some (.slice n.AS n.st.length n.cS) ∧ W.cell? ⟨w.heap.size, 12, none⟩ = some (.slice n.AP n.pc.length n.cP) ∧ W.cell? ⟨w.heap.size, 13, none⟩ = some (.slice n.AG n.gr.length n.cG) ∧ W.cell? ⟨w.heap.size, 14, none⟩ = some (.slice n.AJ n.jr.length n.cJ)) ∧ Below wr.heap.size wr W) wr.drew := ⟨⟨nc0, nc1, nc2, nc3, nc4, nc5, nc6, nc7, nc8, nc9, nc10, nc11, nc12, nc13, nc14⟩, (Below.refl _ _).drew⟩
        clear nc0 nc1 nc2 nc3 nc4 nc5 nc6 nc7 nc8 nc9 nc10 nc11 nc12 nc13 nc14
        refine wp_region_held_drew (S := (fun W : World => (W.cell? ⟨w.heap.size, 0, none⟩ = some (.int .i64 n.tm.keep) ∧ W.cell? ⟨w.heap.size, 1, none⟩ = some (.int .i64 n.tm.free) ∧ W.cell? ⟨w.heap.size, 2, none⟩ = some (.int .i64 n.tm.step) ∧ W.cell? ⟨w.heap.size, 3, none⟩ = some (.int .i64 n.tm.rate) ∧ W.cell? ⟨w.heap.size, 4, none⟩ = some (.int .i64 n.tm.cap) ∧ W.cell? ⟨w.heap.size, 5, none⟩ = some (.int .i64 n.tm.longer) ∧ W.cell? ⟨w.heap.size, 6, none⟩ = some (.int .i64 n.tm.price) ∧ W.cell? ⟨w.heap.size, 7, none⟩ = some (.int .i64 n.tm.most) ∧ W.cell? ⟨w.heap.size, 8, none⟩ = some (.int .i64 n.room) ∧ W.cell? ⟨w.heap.size, 9, none⟩ = some (.int .i64 n.secret) ∧ W.cell? ⟨w.heap.size, 10, none⟩ = some (.int .i64 n.now) ∧ W.cell? ⟨w.heap.size, 11, none⟩ = some (.slice n.AS n.st.length n.cS) ∧ W.cell? ⟨w.heap.size, 12, none⟩ = some (.slice n.AP n.pc.length n.cP) ∧ W.cell? ⟨w.heap.size, 13, none⟩ = some (.slice n.AG n.gr.length n.cG) ∧ W.cell? ⟨w.heap.size, 14, none⟩ = some (.slice n.AJ n.jr.length n.cJ)) ∧ Below wr.heap.size wr W)) (by kernel_rfl) S0 (fun _ => ?_)
        refine tk9 (i := 0) (some 74) (.agg #[.int .i64 n.tm.keep, .int .i64 n.tm.free, .int .i64 n.tm.step, .int .i64 n.tm.rate, .int .i64 n.tm.cap, .int .i64 n.tm.longer, .int .i64 n.tm.price, .int .i64 n.tm.most, .int .i64 n.room, .int .i64 n.secret, .int .i64 n.now, .slice n.AS n.st.length n.cS, .slice n.AP n.pc.length n.cP, .slice n.AG n.gr.length n.cG, .slice n.AJ n.jr.length n.cJ]) rfl rfl (fun W hSw => ?_) S0 ?_
        · (try dsimp only at hSw); go_simp <;> with_reducible rfl
        try simp only [Act.put, l9a, l9z, l9s]
        refine wpAnyH_ready (rs := [1]) (by kernel_rfl) (by simp) ?_
        refine AllReadyH.cons rfl (fun K hK => ?_) AllReadyH.nil
        go_simp
        go_at_call 39
        refine (HBX.out _ (bthen BW.out S0.2)).mono ?_
        rintro e wa ⟨rfl, hb8⟩
        have hb9wa : Below wr.heap.size wr wa := bthen ((Below.refl _ _).drew : Below wr.heap.size wr wr.drew) hb8
        have Swa : (fun W : World => (W.cell? ⟨w.heap.size, 0, none⟩ = some (.int .i64 n.tm.keep) ∧ W.cell? ⟨w.heap.size, 1, none⟩ = some (.int .i64 n.tm.free) ∧ W.cell? ⟨w.heap.size, 2, none⟩ = some (.int .i64 n.tm.step) ∧ W.cell? ⟨w.heap.size, 3, none⟩ = some (.int .i64 n.tm.rate) ∧ W.cell? ⟨w.heap.size, 4, none⟩ = some (.int .i64 n.tm.cap) ∧ W.cell? ⟨w.heap.size, 5, none⟩ = some (.int .i64 n.tm.longer) ∧ W.cell? ⟨w.heap.size, 6, none⟩ = some (.int .i64 n.tm.price) ∧ W.cell? ⟨w.heap.size, 7, none⟩ = some (.int .i64 n.tm.most) ∧ W.cell? ⟨w.heap.size, 8, none⟩ = some (.int .i64 n.room) ∧ W.cell? ⟨w.heap.size, 9, none⟩ = some (.int .i64 n.secret) ∧ W.cell? ⟨w.heap.size, 10, none⟩ = some (.int .i64 n.now) ∧ W.cell? ⟨w.heap.size, 11, none⟩ = some (.slice n.AS n.st.length n.cS) ∧ W.cell? ⟨w.heap.size, 12, none⟩ = some (.slice n.AP n.pc.length n.cP) ∧ W.cell? ⟨w.heap.size, 13, none⟩ = some (.slice n.AG n.gr.length n.cG) ∧ W.cell? ⟨w.heap.size, 14, none⟩ = some (.slice n.AJ n.jr.length n.cJ)) ∧ Below wr.heap.size wr W) wa := ⟨⟨(bold hb9wa _ _ (by omega)).trans S0.1.1, (bold hb9wa _ _ (by omega)).trans S0.1.2.1, (bold hb9wa _ _ (by omega)).trans S0.1.2.2.1, (bold hb9wa _ _ (by omega)).trans S0.1.2.2.2.1, (bold hb9wa _ _ (by omega)).trans S0.1.2.2.2.2.1, (bold hb9wa _ _ (by omega)).trans S0.1.2.2.2.2.2.1, (bold hb9wa _ _ (by omega)).trans S0.1.2.2.2.2.2.2.1, (bold hb9wa _ _ (by omega)).trans S0.1.2.2.2.2.2.2.2.1, (bold hb9wa _ _ (by omega)).trans S0.1.2.2.2.2.2.2.2.2.1, (bold hb9wa _ _ (by omega)).trans S0.1.2.2.2.2.2.2.2.2.2.1, (bold hb9wa _ _ (by omega)).trans S0.1.2.2.2.2.2.2.2.2.2.2.1, (bold hb9wa _ _ (by omega)).trans S0.1.2.2.2.2.2.2.2.2.2.2.2.1, (bold hb9wa _ _ (by omega)).trans S0.1.2.2.2.2.2.2.2.2.2.2.2.2.1, (bold hb9wa _ _ (by omega)).trans S0.1.2.2.2.2.2.2.2.2.2.2.2.2.2.1, (bold hb9wa _ _ (by omega)).trans S0.1.2.2.2.2.2.2.2.2.2.2.2.2.2.2⟩, hb9wa⟩
        clear hb8
        go_wp2_with fail
        refine hK.out _ _ Swa (fun _ => ?_)
        clear hK K
        try simp only [Act.put, l9a, l9z, l9s]
        refine tk9 (i := 2) (some 76) (.bool true) rfl rfl (fun W hSw => ?_) Swa ?_
        · (try dsimp only at hSw); go_simp <;> with_reducible rfl
        try simp only [Act.put, l9a, l9z, l9s]
        refine tk9 (i := 3) (some 77) (.agg #[.int .i64 n.tm.keep, .int .i64 n.tm.free, .int .i64 n.tm.step, .int .i64 n.tm.rate, .int .i64 n.tm.cap, .int .i64 n.tm.longer, .int .i64 n.tm.price, .int .i64 n.tm.most, .int .i64 n.room, .int .i64 n.secret, .int .i64 n.now, .slice n.AS n.st.length n.cS, .slice n.AP n.pc.length n.cP, .slice n.AG n.gr.length n.cG, .slice n.AJ n.jr.length n.cJ]) rfl rfl (fun W hSw => ?_) Swa ?_
        · (try dsimp only at hSw); go_simp <;> with_reducible rfl
        try simp only [Act.put, l9a, l9z, l9s]
        refine tk9 (i := 5) (some 79) (.pointer (some ⟨w.heap.size, 8, none⟩)) rfl rfl (fun W hSw => ?_) Swa ?_
        · (try dsimp only at hSw); go_simp <;> with_reducible rfl
        try simp only [Act.put, l9a, l9z, l9s]
        refine tk9 (i := 6) (some 80) (.int .i64 n.room) rfl rfl (fun W hSw => ?_) Swa ?_
        · (try dsimp only at hSw); go_simp <;> with_reducible rfl
        try simp only [Act.put, l9a, l9z, l9s]
        refine wpAnyH_ready (rs := [4]) (by kernel_rfl) (by simp) ?_
        refine AllReadyH.cons rfl (fun K hK => ?_) AllReadyH.nil
        go_simp
        go_at_call 40
        refine (HLD.out _ (bthen BW.out Swa.2)).mono ?_
        rintro e wb ⟨rfl, hb8⟩
        have hb9wb : Below wr.heap.size wr wb := bthen Swa.2 hb8
        have Swb : (fun W : World => (W.cell? ⟨w.heap.size, 0, none⟩ = some (.int .i64 n.tm.keep) ∧ W.cell? ⟨w.heap.size, 1, none⟩ = some (.int .i64 n.tm.free) ∧ W.cell? ⟨w.heap.size, 2, none⟩ = some (.int .i64 n.tm.step) ∧ W.cell? ⟨w.heap.size, 3, none⟩ = some (.int .i64 n.tm.rate) ∧ W.cell? ⟨w.heap.size, 4, none⟩ = some (.int .i64 n.tm.cap) ∧ W.cell? ⟨w.heap.size, 5, none⟩ = some (.int .i64 n.tm.longer) ∧ W.cell? ⟨w.heap.size, 6, none⟩ = some (.int .i64 n.tm.price) ∧ W.cell? ⟨w.heap.size, 7, none⟩ = some (.int .i64 n.tm.most) ∧ W.cell? ⟨w.heap.size, 8, none⟩ = some (.int .i64 n.room) ∧ W.cell? ⟨w.heap.size, 9, none⟩ = some (.int .i64 n.secret) ∧ W.cell? ⟨w.heap.size, 10, none⟩ = some (.int .i64 n.now) ∧ W.cell? ⟨w.heap.size, 11, none⟩ = some (.slice n.AS n.st.length n.cS) ∧ W.cell? ⟨w.heap.size, 12, none⟩ = some (.slice n.AP n.pc.length n.cP) ∧ W.cell? ⟨w.heap.size, 13, none⟩ = some (.slice n.AG n.gr.length n.cG) ∧ W.cell? ⟨w.heap.size, 14, none⟩ = some (.slice n.AJ n.jr.length n.cJ)) ∧ Below wr.heap.size wr W) wb := ⟨⟨(bold hb9wb _ _ (by omega)).trans S0.1.1, (bold hb9wb _ _ (by omega)).trans S0.1.2.1, (bold hb9wb _ _ (by omega)).trans S0.1.2.2.1, (bold hb9wb _ _ (by omega)).trans S0.1.2.2.2.1, (bold hb9wb _ _ (by omega)).trans S0.1.2.2.2.2.1, (bold hb9wb _ _ (by omega)).trans S0.1.2.2.2.2.2.1, (bold hb9wb _ _ (by omega)).trans S0.1.2.2.2.2.2.2.1, (bold hb9wb _ _ (by omega)).trans S0.1.2.2.2.2.2.2.2.1, (bold hb9wb _ _ (by omega)).trans S0.1.2.2.2.2.2.2.2.2.1, (bold hb9wb _ _ (by omega)).trans S0.1.2.2.2.2.2.2.2.2.2.1, (bold hb9wb _ _ (by omega)).trans S0.1.2.2.2.2.2.2.2.2.2.2.1, (bold hb9wb _ _ (by omega)).trans S0.1.2.2.2.2.2.2.2.2.2.2.2.1, (bold hb9wb _ _ (by omega)).trans S0.1.2.2.2.2.2.2.2.2.2.2.2.2.1, (bold hb9wb _ _ (by omega)).trans S0.1.2.2.2.2.2.2.2.2.2.2.2.2.2.1, (bold hb9wb _ _ (by omega)).trans S0.1.2.2.2.2.2.2.2.2.2.2.2.2.2.2⟩, hb9wb⟩
        clear hb8
        go_wp2_with fail
        refine hK.out _ _ Swb (fun _ => ?_)
        clear hK K
        try simp only [Act.put, l9a, l9z, l9s]
        refine tk9 (i := 7) (some 81) (.bool false) rfl rfl (fun W hSw => ?_) Swb ?_
        · (try dsimp only at hSw); go_simp <;> first | with_reducible rfl | simp [hle]
        try simp only [Act.put, l9a, l9z, l9s]
        refine tk9 (i := 8) (some 82) (.bool false) rfl rfl (fun W hSw => ?_) Swb ?_
        · (try dsimp only at hSw); go_simp <;> with_reducible rfl
        try simp only [Act.put, l9a, l9z, l9s]
        refine tk9 (i := 9) (some 2) (.bool false) rfl rfl (fun W hSw => ?_) Swb ?_
        · (try dsimp only at hSw); go_simp <;> with_reducible rfl
        try simp only [Act.put, l9a, l9z, l9s]
        refine wpAnyH_done (by kernel_rfl) ?_ _
        have hbreg : Below wr.heap.size wr wb := Swb.2
        clear S0 Swa hb9wa Swb hb9wb
        go_wp2_with fail
        go_ret
        exact tells_no (fun h => by have h9 := h.load; rw [hld] at h9; omega) (bthen BW.out hbreg)
end Go.Proofs.YtjpkpfmpjgeeiaaGreat
