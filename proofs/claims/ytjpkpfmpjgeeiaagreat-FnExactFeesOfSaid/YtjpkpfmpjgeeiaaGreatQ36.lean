
/- Chapter 9: the model's l09ParcelOk (gen_npt.py). -/
import Derived.Test.YtjpkpfmpjgeeiaaGreatQ34
import Derived.Test.YtjpkpfmpjgeeiaaGreatQ35
import Derived.Deep.DeepCutAuto
import Derived.Test.YtjpkpfmpjgeeiaaGreatQ31
import Derived.Test.YtjpkpfmpjgeeiaaGreatQ20
import Derived.Test.YtjpkpfmpjgeeiaaGreatQ15
namespace Go.Proofs.YtjpkpfmpjgeeiaaGreat
open Go.RowKit
set_option linter.unusedVariables false
set_option maxRecDepth 100000
theorem parS_any (w : World) (B : Nat) (n : Net) (k : Nat) (p : Pc) (hp : n.pc[k]? = some p) (hB : B ≤ w.heap.size) (hV : NetV w B n) (ht : termsB n.tm = true) (hl12 : n.pc.length ≤ 12) (hl3 : n.st.length ≤ 3) :
    Calls Tryz.prog 38 #[.agg #[.int .i64 n.tm.keep, .int .i64 n.tm.free, .int .i64 n.tm.step, .int .i64 n.tm.rate, .int .i64 n.tm.cap, .int .i64 n.tm.longer, .int .i64 n.tm.price, .int .i64 n.tm.most, .int .i64 n.room, .int .i64 n.secret, .int .i64 n.now, .slice n.AS n.st.length n.cS, .slice n.AP n.pc.length n.cP, .slice n.AG n.gr.length n.cG, .slice n.AJ n.jr.length n.cJ], .int .i64 (k : Int)] w fun e w' => e = .returned (.bool (parB n k p)) ∧ Below w.heap.size w w' := by
  cases hn : (inR p.size 1 24 && perB p.owner && (decide (0 ≤ p.site) && decide (p.site < (n.st.length : Int))) && inR p.stage 0 5 && (!(p.stage == 2) || parAt n.st p.site == (k : Int) + 1))
  · exact parS_no w B n k p hp hB hV ht hl12 hl3 hn
  · have hn2 := hn
    rw [Bool.and_eq_true, Bool.and_eq_true, Bool.and_eq_true, Bool.and_eq_true] at hn2
    obtain ⟨⟨⟨⟨h1, h2⟩, h3⟩, h4⟩, h5⟩ := hn2
    by_cases h6 : p.stage = 2
    · exact parS_two w B n k p hp hB hV ht hl12 hl3 h1 h2 h3 h4 (by simpa using h6) (by simpa [h6] using h5)
    · exact parS_oth w B n k p hp hB hV ht hl12 hl3 h1 h2 h3 h4 (by simpa using h6)
end Go.Proofs.YtjpkpfmpjgeeiaaGreat
namespace Go.Proofs.YtjpkpfmpjgeeiaaGreat
open Go.RowKit
set_option linter.unusedVariables false
set_option maxRecDepth 100000
set_option maxHeartbeats 4000000 in
theorem loadS_any (w : World) (B : Nat) (n : Net) (hB : B ≤ w.heap.size) (hV : NetV w B n) (hz : ∀ p ∈ n.pc, 0 ≤ p.size ∧ p.size ≤ 24) (hs : ∀ p ∈ n.pc, p.stage = 2 → 0 ≤ p.site ∧ p.site < n.st.length) (hl : n.pc.length ≤ 12) :
    Calls Tryz.prog 40 #[.agg #[.int .i64 n.tm.keep, .int .i64 n.tm.free, .int .i64 n.tm.step, .int .i64 n.tm.rate, .int .i64 n.tm.cap, .int .i64 n.tm.longer, .int .i64 n.tm.price, .int .i64 n.tm.most, .int .i64 n.room, .int .i64 n.secret, .int .i64 n.now, .slice n.AS n.st.length n.cS, .slice n.AP n.pc.length n.cP, .slice n.AG n.gr.length n.cG, .slice n.AJ n.jr.length n.cJ]] w fun e w' => e = .returned (.int .i64 (loadL n.st n.pc)) ∧ Below w.heap.size w w' := by
  have HV := Lib.hid hV; have HZ := Lib.hid (load_bd (S := n.st) hz); have HSS := Lib.hid hs; have HSZ := Lib.hid hz; clear hV hz hs
  go_enter Tryz.func40, Tryz.ntmps40
  go_upto_region 1 with fail
  generalize hW : w.alloc (.cells #[.int .i64 n.tm.keep, .int .i64 n.tm.free, .int .i64 n.tm.step, .int .i64 n.tm.rate, .int .i64 n.tm.cap, .int .i64 n.tm.longer, .int .i64 n.tm.price, .int .i64 n.tm.most, .int .i64 n.room, .int .i64 n.secret, .int .i64 n.now, .slice n.AS n.st.length n.cS, .slice n.AP n.pc.length n.cP, .slice n.AG n.gr.length n.cG, .slice n.AJ n.jr.length n.cJ] 38) = w1
  have b1 : Below w.heap.size w w1 := by rw [← hW]; exact balloc _ _
  have k0 : Has w1 w.heap.size 38 #[.int .i64 n.tm.keep, .int .i64 n.tm.free, .int .i64 n.tm.step, .int .i64 n.tm.rate, .int .i64 n.tm.cap, .int .i64 n.tm.longer, .int .i64 n.tm.price, .int .i64 n.tm.most, .int .i64 n.room, .int .i64 n.secret, .int .i64 n.now, .slice n.AS n.st.length n.cS, .slice n.AP n.pc.length n.cP, .slice n.AG n.gr.length n.cG, .slice n.AJ n.jr.length n.cJ] := by rw [← hW]; exact has_new _ _ _
  clear hW
  have hs1 := b1.size
  have BB := Lib.hid b1; have K0 := Lib.hid k0; clear k0 b1
  go_wp2_with fail
  go_loopw [3, 4] (fun sv i wr => ∃ k : Nat, k ≤ n.pc.length ∧ i = .int .i64 (k : Int) ∧ sv = .int .i64 (loadL n.st (n.pc.take k)) ∧ Below w1.heap.size w1 wr) (fun _ i _ => n.pc.length - (intOf i).toNat)
  case atStart => exact ⟨0, Nat.zero_le _, rfl, rfl, Below.refl _ _⟩
  case round =>
    obtain ⟨k, hk, rfl, rfl, hb⟩ := hrel
    have hsz := hb.size
    have hbw1 := bthen BB.out hb
    have BW := Lib.hid hbw1; have BR := Lib.hid hb
    have KR := Lib.hid (has_call K0.out hb)
    clear hb hbw1
    have kl := has_lt KR.out
    by_cases hlt : k < n.pc.length
    · obtain ⟨b, off, p, hA, hbB, hp, hc0, hc1, hc2, hc3, hc4, hc5, hc6, hc7, hc8, hc9, hc10, hc11, hc12⟩ := ((HV.out.later hB BW.out).pl).at_ hlt
      have hst := load_succ (S := n.st) hp
      have h1 := HZ.out k; have h2 := HZ.out (k + 1)
      have hpz := HSZ.out p (List.mem_of_getElem? hp)
      have hss := HSS.out p (List.mem_of_getElem? hp)
      push_cast at h2
      rw [hst] at h2
      have HST := Lib.hid hst; clear hst
      have hun := unplS_any wr B n k p hp (by omega) (HV.out.later hB BW.out) hss
      have HUN := Lib.hid hun; clear hun hp hss
      have hkk0 : (0 : Int) ≤ (k : Int) := by omega
      have hkk1 : (k : Int) < (n.pc.length : Int) := by omega
      have hbw : b < wr.heap.size := by omega
      generalize loadL n.st (n.pc.take k) = sm at *
      have zA := has_cell KR.out 12 rfl
      simp only [List.getElem_toArray, List.getElem_cons_succ, List.getElem_cons_zero] at zA
      rw [hA] at zA
      by_cases h0 : p.stage = 0
      · have e0 : (p.stage != 0) = false := by simpa using h0
        rw [if_neg (by simp [h0])] at h2 HST
        clear h0
        go_wp2_with fail
        go_roundw
        case rel => exact ⟨k + 1, by omega, by go_num, by rw [HST.out, Int.add_zero], BR.out⟩
        case measure => simp [intOf]; omega
      · have e0 : (p.stage != 0) = true := by simpa using h0
        have HU2 := HUN.out
        rw [hA] at HU2
        have HU3 := Lib.hid HU2; clear HU2 HUN
        have z0 := has_cell KR.out 0 rfl; have z1 := has_cell KR.out 1 rfl; have z2 := has_cell KR.out 2 rfl; have z3 := has_cell KR.out 3 rfl; have z4 := has_cell KR.out 4 rfl; have z5 := has_cell KR.out 5 rfl; have z6 := has_cell KR.out 6 rfl; have z7 := has_cell KR.out 7 rfl; have z8 := has_cell KR.out 8 rfl; have z9 := has_cell KR.out 9 rfl; have z10 := has_cell KR.out 10 rfl; have z11 := has_cell KR.out 11 rfl; have z13 := has_cell KR.out 13 rfl; have z14 := has_cell KR.out 14 rfl
        have hAZ := Lib.hid hA; clear h0 hA
        go_wp2_with fail
        refine (HU3.out).mono ?_
        rintro e w2 ⟨rfl, hb2⟩
        have kk := bthen BR.out hb2; clear BR; have BR := Lib.hid kk; clear kk
        have z12 := has_cell (has_call KR.out hb2) 12 rfl
        have kl2 := has_lt (has_call KR.out hb2)
        simp only [List.getElem_toArray, List.getElem_cons_succ, List.getElem_cons_zero] at z12
        clear z0 z1 z2 z3 z4 z5 z6 z7 z8 z9 z10 z11 z13 z14 zA kl
        cases hu : unplB n.st p
        · rw [if_neg (by simp [hu])] at h2 HST
          go_wp2_with fail
          go_roundw
          case rel => exact ⟨k + 1, by omega, by go_num, by rw [HST.out, Int.add_zero], BR.out⟩
          case measure => simp [intOf]; omega
        · have hi1 : (!(p.stage == 0) && unplB n.st p) = true := by rw [hu]; simpa using e0
          rw [if_pos hi1] at h2 HST
          have hpc := hb2.cell (p := ⟨b, off + k * 13, none⟩) hbw
          have hpd := hpc.trans hc0; clear hpc hc0
          have hw1 : IntKind.i64.wrap (sm + p.size) = sm + p.size := IntWalk.i64_in _ (by omega)
          rw [hAZ.out] at z12
          go_wp2_with fail
          try rw [hw1]
          go_roundw
          case rel => exact ⟨k + 1, by omega, by go_num, by rw [HST.out], BR.out⟩
          case measure => simp [intOf]; omega
    · have hkl : k = n.pc.length := by omega
      subst hkl
      rw [List.take_length]
      have zA := has_cell KR.out 12 rfl
      have hkk : ¬ (n.pc.length : Int) < (n.pc.length : Int) := by omega
      go_wp2_with fail
      go_ret
      exact ⟨rfl, bthen BB.out BR.out⟩
end Go.Proofs.YtjpkpfmpjgeeiaaGreat
namespace Go.Proofs.YtjpkpfmpjgeeiaaGreat
open Go.RowKit
set_option linter.unusedVariables false
def freeB (o c : List (Int × Int)) (t : Tm) (a : Int) : Option Int := if termsB t = true then beforeB o c a t.free else none
theorem fbool {a b : Bool} (h : a = b) : Ending.returned (.bool a) = .returned (.bool b) := by rw [h]
set_option maxRecDepth 100000 in
set_option maxHeartbeats 4000000 in
theorem termsI_any (w : World) (t : Tm) : Calls Tryz.prog 73 #[.agg #[.int .i64 t.keep, .int .i64 t.free, .int .i64 t.step, .int .i64 t.rate, .int .i64 t.cap, .int .i64 t.longer, .int .i64 t.price, .int .i64 t.most]] w fun e w' => e = .returned (.bool (termsB t)) ∧ Below w.heap.size w w' := by
  go_enter Tryz.func73, Tryz.ntmps73
  go_wp2
  all_goals
    go_ret
    refine ⟨fbool ?_, balloc _ _⟩
    cases hv : termsB t with
    | false => first | rfl | exact decide_eq_false (fun hm => by rw [(terms_iff t).2 (by omega)] at hv; cases hv)
    | true => first | exact decide_eq_true (by have := (terms_iff t).1 hv; omega) | (exfalso; have := (terms_iff t).1 hv; omega)
end Go.Proofs.YtjpkpfmpjgeeiaaGreat
