/- Chapter 2: the law FnBanks: the walk (gen_ddd.py). -/
import Derived.Test.YthfpjfekemelaaaQ25
import Derived.Test.YthfpjfekemelaaaQ28
import Derived.Test.YthfpjfekemelaaaQ26
import Derived.BigQuiet
namespace Go.Proofs.Ythfpjfekemelaaa
open Go.RowKit
set_option linter.unusedVariables false
theorem BankAt.klw {w : World} {lo hi : Nat} {A : Option Addr} {l : List Cl} (h : BankAt w lo hi A l) (hs : SmallK l) : KL w w.heap.size A l ∧ ∀ x ∈ l, CV w w.heap.size x := ⟨h.kl, h.cv hs⟩
/-- a bank that can be read -/
def BK (w : World) (A : Option Addr) (l : List Cl) : Prop := KL w w.heap.size A l ∧ ∀ x ∈ l, CV w w.heap.size x
theorem BK.below {w w' : World} {A : Option Addr} {l : List Cl} (h : BK w A l) (hb : Below w.heap.size w w') : BK w' A l := ⟨(h.1.later (Nat.le_refl _) hb).more hb.size, fun x hx => ((h.2 x hx).later (Nat.le_refl _) hb).more hb.size⟩
theorem gbd_gsum {l : List Cl} : ∀ g ∈ bgO l, 0 ≤ g.size ∧ g.size ≤ 24 := fun g hg => by have := bgO_bd g hg; omega
theorem len_contK {l l' : List Cl} (h : l'.map cont = l.map cont) : l'.length = l.length := by have := congrArg List.length h; simpa using this
theorem bkPt_len {l l1 : List Cl} {p size : Int} {g : Gp} {b : Bool} (h : bkPt l p size (l1.map cont) g b) : l1.length = l.length := by
  rcases h with ⟨_, ⟨k, x, _, _, h⟩, _⟩ | ⟨_, h, _⟩ <;> (have := congrArg List.length h; simpa using this)
set_option maxRecDepth 100000 in
set_option maxHeartbeats 16000000 in
theorem banks_walk (w : World) (A : Option Addr) (na ca : Nat) (hn : na ≤ maxLen) (hS : BS w w.heap.size A na) : Calls Try.prog 3 #[.slice A na ca] w fun e w' => e = .returned (.bool true) ∧ Below w.heap.size w w' := by
  have HS := Lib.hid hS; clear hS
  have HBG := Lib.hid (fun W => big_any W A na ca hn)
  have HDR := Lib.hid (fun W (h : BS W W.heap.size A na) => drawBP_any W A na ca hn h)
  clear hn
  by_cases hbig : (1048576 : Int) < na
  · have hd : decide ((1048576 : Int) < na) = true := by simpa using hbig
    have HD := Lib.hid hd; clear hd
    go_enter Try.func3, Try.ntmps3
    go_wp2_with (refine (HBG.out _).mono ?_; rintro e w' ⟨rfl, hw⟩; rw [hw, HD.out]; clear hw)
    go_ret
    exact ⟨rfl, Below.refl _ _⟩
  have hd : decide ((1048576 : Int) < na) = false := by simpa using hbig
  have HD := Lib.hid hd; clear hd hbig
  go_enter Try.func3, Try.ntmps3
  go_wp2_with (go_at_call 5; refine (HBG.out _).mono ?_; rintro e w' ⟨rfl, hw⟩; rw [hw, HD.out]; clear hw)
  refine (HDR.out w HS.out).mono ?_
  rintro e w1 ⟨l, AL, cL, p, s, rfl, hs0, hs1, hak, hkl, hcv, hb0⟩
  have HL := Lib.hid (show BK w1 AL l from ⟨hkl, hcv⟩); have hsm := anyK_small hak; have HSM := Lib.hid hsm; have hl7 := hak.1; have HZ := Lib.hid hb0; clear hkl hcv hb0 HBG HDR HS HD hsm
  have hlm : l.length ≤ maxLen := by unfold maxLen; omega
  have hl1 : l.length ≤ 1048576 := by omega
  clear hak
  go_wp2_with fail
  refine (bptI_any w1 w1.heap.size AL l.length cL p s l rfl hl1 HSM.out (Nat.le_refl _) HL.out.1 HL.out.2).mono ?_
  rintro e w2 ⟨A2, c2, l2, g, fl, rfl, hR1, hsm2, hba, hb⟩
  have HR1 := Lib.hid hR1; have HSM2 := Lib.hid hsm2; have HB2 := Lib.hid (show BK w2 A2 l2 from hba.klw hsm2); have e2 := bkPt_len hR1; rw [e2]; have E2 := Lib.hid e2; clear e2 hR1 hsm2 hba
  have kk := HL.out.below hb; clear HL; have HL := Lib.hid kk; clear kk
  have kk := HZ.out.trans (hb.mono HZ.out.size); clear HZ; have HZ := Lib.hid kk; clear kk
  have hsw2 := hb.size; clear hb
  go_wp2_with fail
  generalize hX : w2.alloc (.cells #[.int .i64 g.col, .int .i64 g.low, .int .i64 g.size] 28) = w3
  have hb : Below w2.heap.size w2 w3 := by rw [← hX]; exact balloc _ _
  have hk : Has w3 w2.heap.size 28 #[.int .i64 g.col, .int .i64 g.low, .int .i64 g.size] := by rw [← hX]; exact has_new _ _ _
  clear hX
  have kk := HL.out.below hb; clear HL; have HL := Lib.hid kk; clear kk
  have kk := HB2.out.below hb; clear HB2; have HB2 := Lib.hid kk; clear kk
  have kk := HZ.out.trans (hb.mono HZ.out.size); clear HZ; have HZ := Lib.hid kk; clear kk
  have hsw3 := hb.size; clear hb
  have ZG := Lib.hid hk; clear hk
  refine (bptS_any w3 w3.heap.size AL l.length cL p s l rfl hl1 HSM.out (Nat.le_refl _) HL.out.1 HL.out.2).mono ?_
  rintro e w4 ⟨A4, c4, l4, g4, fl4, rfl, hR2, hsm4, hba, hb⟩
  have HSM4 := Lib.hid hsm4; have HB4 := Lib.hid (show BK w4 A4 l4 from hba.klw hsm4); clear hsm4 hba
  obtain ⟨hc24, rfl, rfl⟩ := bkPt_det HR1.out hR2
  have kk := HL.out.below hb; clear HL; have HL := Lib.hid kk; clear kk
  have kk := HB2.out.below hb; clear HB2; have HB2 := Lib.hid kk; clear kk
  have kk := has_call ZG.out hb; clear ZG; have ZG := Lib.hid kk; clear kk
  have kk := HZ.out.trans (hb.mono HZ.out.size); clear HZ; have HZ := Lib.hid kk; clear kk
  have hsw4 := hb.size; clear hb
  have HCT := Lib.hid hc24.symm; clear hc24
  have e4 := bkPt_len hR2
  rw [e4]
  have E4 := Lib.hid e4; clear e4
  have HR2 := Lib.hid hR2; clear hR2 HR1
  have zgc0 := has_cell ZG.out 0 rfl; have zgc1 := has_cell ZG.out 1 rfl; have zgc2 := has_cell ZG.out 2 rfl; have zglt := has_lt ZG.out
  go_wp2_with fail
  clear zgc0 zgc1 zgc2 zglt
  generalize hX : w4.alloc (.cells #[.int .i64 g.col, .int .i64 g.low, .int .i64 g.size] 28) = w5
  have hb : Below w4.heap.size w4 w5 := by rw [← hX]; exact balloc _ _
  have hk : Has w5 w4.heap.size 28 #[.int .i64 g.col, .int .i64 g.low, .int .i64 g.size] := by rw [← hX]; exact has_new _ _ _
  clear hX
  have kk := HL.out.below hb; clear HL; have HL := Lib.hid kk; clear kk
  have kk := HB2.out.below hb; clear HB2; have HB2 := Lib.hid kk; clear kk
  have kk := HB4.out.below hb; clear HB4; have HB4 := Lib.hid kk; clear kk
  have kk := has_call ZG.out hb; clear ZG; have ZG := Lib.hid kk; clear kk
  have kk := HZ.out.trans (hb.mono HZ.out.size); clear HZ; have HZ := Lib.hid kk; clear kk
  have hsw5 := hb.size; clear hb
  have ZH := Lib.hid hk; clear hk
  have zgc0 := has_cell ZG.out 0 rfl; have zgc1 := has_cell ZG.out 1 rfl; have zgc2 := has_cell ZG.out 2 rfl; have zglt := has_lt ZG.out
  have zhc0 := has_cell ZH.out 0 rfl; have zhc1 := has_cell ZH.out 1 rfl; have zhc2 := has_cell ZH.out 2 rfl; have zhlt := has_lt ZH.out
  have nf : (fl != fl) = false := by simp
  go_wp2_with fail
  have SM2 := Lib.hid (fun x hx => HSM2.out x hx : SmallK l2)
  have hK := sameK_any w5 w5.heap.size w5.heap.size A2 A4 c2 c4 l.length l2 l4 (by rw [E2.out]; omega) E2.out.symm HSM2.out HCT.out (Nat.le_refl _) (Nat.le_refl _) HB2.out.1 HB2.out.2 HB4.out.1 HB4.out.2
  refine hK.mono ?_
  clear hK
  rintro e w6 ⟨rfl, hb⟩
  clear zgc0 zgc1 zgc2 zhc0 zhc1 zhc2 zglt zhlt
  have kk := HL.out.below hb; clear HL; have HL := Lib.hid kk; clear kk
  have kk := HB2.out.below hb; clear HB2; have HB2 := Lib.hid kk; clear kk
  have kk := HB4.out.below hb; clear HB4; have HB4 := Lib.hid kk; clear kk
  have kk := has_call ZG.out hb; clear ZG; have ZG := Lib.hid kk; clear kk
  have kk := has_call ZH.out hb; clear ZH; have ZH := Lib.hid kk; clear kk
  have kk := HZ.out.trans (hb.mono HZ.out.size); clear HZ; have HZ := Lib.hid kk; clear kk
  have hsw6 := hb.size; clear hb
  go_wp2_with fail
  refine (bankI_any w6 w6.heap.size AL l.length cL l rfl hlm (Nat.le_refl _) HL.out.1 HL.out.2).mono ?_
  rintro e w7 ⟨q1, rfl, hq1, hb⟩
  have kk := HL.out.below hb; clear HL; have HL := Lib.hid kk; clear kk
  have kk := HB2.out.below hb; clear HB2; have HB2 := Lib.hid kk; clear kk
  have kk := HB4.out.below hb; clear HB4; have HB4 := Lib.hid kk; clear kk
  have kk := has_call ZG.out hb; clear ZG; have ZG := Lib.hid kk; clear kk
  have kk := has_call ZH.out hb; clear ZH; have ZH := Lib.hid kk; clear kk
  have kk := HZ.out.trans (hb.mono HZ.out.size); clear HZ; have HZ := Lib.hid kk; clear kk
  have hsw7 := hb.size; clear hb
  go_wp2_with fail
  refine (bankS_any w7 w7.heap.size AL l.length cL l rfl hlm (Nat.le_refl _) HL.out.1 HL.out.2).mono ?_
  rintro e w8 ⟨q2, rfl, hq2, hb⟩
  have kk := HL.out.below hb; clear HL; have HL := Lib.hid kk; clear kk
  have kk := HB2.out.below hb; clear HB2; have HB2 := Lib.hid kk; clear kk
  have kk := HB4.out.below hb; clear HB4; have HB4 := Lib.hid kk; clear kk
  have kk := has_call ZG.out hb; clear ZG; have ZG := Lib.hid kk; clear kk
  have kk := has_call ZH.out hb; clear ZH; have ZH := Lib.hid kk; clear kk
  have kk := HZ.out.trans (hb.mono HZ.out.size); clear HZ; have HZ := Lib.hid kk; clear kk
  have hsw8 := hb.size; clear hb
  obtain rfl : q1 = q2 := by cases q1 <;> cases q2 <;> first | rfl | (exfalso; have a := hq1; have b := hq2; simp at a b; exact absurd a b) | (exfalso; have a := hq1; have b := hq2; simp at a b; exact absurd b a)
  have nq : (q1 != q1) = false := by simp
  clear hq1 hq2 nf
  cases fl
  · skip
    go_wp2_with fail
    have hK := sameK_any w8 w8.heap.size w8.heap.size A2 AL c2 cL l.length l2 l (by rw [E2.out]; omega) E2.out.symm HSM2.out ((bank_no HR2.out).symm.trans HCT.out) (Nat.le_refl _) (Nat.le_refl _) HB2.out.1 HB2.out.2 HL.out.1 HL.out.2
    refine hK.mono ?_
    clear hK
    rintro e w9 ⟨rfl, hb⟩
    go_wp2_with fail
    go_ret
    exact ⟨rfl, HZ.out.trans (hb.mono HZ.out.size)⟩
  obtain ⟨f, hfit, rfl, hsf, hbp, hbp4, hbox, htake⟩ := bank_facts HR2.out
  have hfl := fit_least hfit
  have HFIT := Lib.hid hfit; have HBOX := Lib.hid hbox; have HTK := Lib.hid htake; have HFL := Lib.hid hfl; have HBP4 := Lib.hid hbp4; clear hfit hbp hbp4 hbox htake hfl HR2
  clear nq; go_wp2_with fail
  refine (bfitI_any w8 w8.heap.size AL l.length cL s l rfl hlm (Nat.le_refl _) HL.out.1 HL.out.2).mono ?_
  rintro e w9 ⟨rfl, hb⟩
  rw [HFIT.out]
  have kk := HL.out.below hb; clear HL; have HL := Lib.hid kk; clear kk
  have kk := HB2.out.below hb; clear HB2; have HB2 := Lib.hid kk; clear kk
  have kk := HB4.out.below hb; clear HB4; have HB4 := Lib.hid kk; clear kk
  have kk := has_call ZG.out hb; clear ZG; have ZG := Lib.hid kk; clear kk
  have kk := has_call ZH.out hb; clear ZH; have ZH := Lib.hid kk; clear kk
  have kk := HZ.out.trans (hb.mono HZ.out.size); clear HZ; have HZ := Lib.hid kk; clear kk
  have hsw9 := hb.size; clear hb
  clear ZG ZH HB2
  go_wp2_with fail
  generalize hX : w9.alloc (.cells #[.int .i64 f.col, .int .i64 f.low, .int .i64 f.size] 28) = w10
  have hb : Below w9.heap.size w9 w10 := by rw [← hX]; exact balloc _ _
  have hk : Has w10 w9.heap.size 28 #[.int .i64 f.col, .int .i64 f.low, .int .i64 f.size] := by rw [← hX]; exact has_new _ _ _
  clear hX
  have kk := HL.out.below hb; clear HL; have HL := Lib.hid kk; clear kk
  have kk := HB4.out.below hb; clear HB4; have HB4 := Lib.hid kk; clear kk
  have kk := HZ.out.trans (hb.mono HZ.out.size); clear HZ; have HZ := Lib.hid kk; clear kk
  have hsw10 := hb.size; clear hb
  have ZF := Lib.hid hk; clear hk
  refine (bgI_any w10 w10.heap.size AL l.length cL l rfl hlm (Nat.le_refl _) HL.out.1 HL.out.2).mono ?_
  rintro e w11 ⟨AG, cG, rfl, hgo, hb⟩
  have HG := Lib.hid hgo.gp; clear hgo
  have kk := HL.out.below hb; clear HL; have HL := Lib.hid kk; clear kk
  have kk := HB4.out.below hb; clear HB4; have HB4 := Lib.hid kk; clear kk
  have kk := has_call ZF.out hb; clear ZF; have ZF := Lib.hid kk; clear kk
  have kk := HZ.out.trans (hb.mono HZ.out.size); clear HZ; have HZ := Lib.hid kk; clear kk
  have hsw11 := hb.size; clear hb
  have hgl := bgO_len l
  obtain ⟨G, hG⟩ : ∃ G, bgO l = G := ⟨_, rfl⟩
  rw [hG] at HG hgl ⊢
  rw [hG] at HFL
  have hGS := hG
  have HGE := Lib.hid hGS; clear hG hGS
  go_wp2_with fail
  go_loopw [15] (fun i wr => ∃ k : Nat, k ≤ G.length ∧ i = .int .i64 (k : Int) ∧ Below w11.heap.size w11 wr) (fun i _ => G.length - (intOf i).toNat)
  case atStart => exact ⟨0, Nat.zero_le _, rfl, Below.refl _ _⟩
  case round =>
    obtain ⟨k, hk, rfl, hb⟩ := hrel
    have hbr := hb
    have kk := HL.out.below hb; clear HL; have HL := Lib.hid kk; clear kk
    have kk := HB4.out.below hb; clear HB4; have HB4 := Lib.hid kk; clear kk
    have kk := has_call ZF.out hb; clear ZF; have ZF := Lib.hid kk; clear kk
    have kk := (HG.out.later (Nat.le_refl _) hb).more hb.size; clear HG; have HG := Lib.hid kk; clear kk
    have kk := HZ.out.trans (hb.mono HZ.out.size); clear HZ; have HZ := Lib.hid kk; clear kk
    have hswr := hb.size; clear hb
    by_cases hlt : k < G.length
    · obtain ⟨b, off, x, rfl, hbB, hx, hc0, hc1, hc2⟩ := HG.out.at_ hlt
      have zfc0 := has_cell ZF.out 0 rfl; have zfc1 := has_cell ZF.out 1 rfl; have zfc2 := has_cell ZF.out 2 rfl; have zflt := has_lt ZF.out
      have hkk0 : (0 : Int) ≤ (k : Int) := by omega
      have hkk1 : (k : Int) < (G.length : Int) := by omega
      have hle := HFL.out x (List.mem_of_getElem? hx)
      have HX := Lib.hid hx; clear hx
      by_cases hsz : s ≤ x.size
      · have d1 : decide (s ≤ x.size) = true := by simpa using hsz
        have d2 : decide (x.size < f.size) = false := by simpa using hle hsz
        have hc3 : wr.drew.cell? ⟨b, off + k * 3 + 2, none⟩ = some (.int .i64 x.size) := hc2
        clear hle
        go_upto_region 15 with fail
        go_quiet (fail)
        go_wp2_with fail
        go_roundw
        case rel => exact ⟨k + 1, by omega, by go_num, below_drewN hbr _⟩
        case measure => simp [intOf]; omega
      · have d1 : decide (s ≤ x.size) = false := by simpa using hsz
        clear hle
        go_upto_region 15 with fail
        go_quiet (fail)
        go_wp2_with fail
        go_roundw
        case rel => exact ⟨k + 1, by omega, by go_num, below_drewN hbr _⟩
        case measure => simp [intOf]; omega
    · have hkk : ¬ (k : Int) < (G.length : Int) := by omega
      skip
      go_wp2_with fail
      clear hkk hlt hk
      have hw11 := hbr.size; clear hbr
      go_loopw [16] (fun i wr2 => ∃ k : Nat, 1 ≤ k ∧ k ≤ 31 ∧ i = .int .i64 (k : Int) ∧ Below wr.heap.size wr wr2) (fun i _ => 31 - (intOf i).toNat)
      case atStart => exact ⟨1, Nat.le_refl _, by omega, rfl, Below.refl _ _⟩
      case round =>
        rename World => wq
        obtain ⟨q, hq1, hq31, rfl, hb⟩ := hrel
        have hbr := hb
        have kk := HL.out.below hb; clear HL; have HL := Lib.hid kk; clear kk
        have kk := HB4.out.below hb; clear HB4; have HB4 := Lib.hid kk; clear kk
        have kk := has_call ZF.out hb; clear ZF; have ZF := Lib.hid kk; clear kk
        have kk := (HG.out.later (Nat.le_refl _) hb).more hb.size; clear HG; have HG := Lib.hid kk; clear kk
        have kk := HZ.out.trans (hb.mono HZ.out.size); clear HZ; have HZ := Lib.hid kk; clear kk
        have hswq := hb.size; clear hb
        by_cases hlt : q ≤ 30
        · have hlt2 : (q : Int) ≤ 30 := by omega
          go_wp2_with fail
          refine (bofI_any wq wq.heap.size AL l.length cL q l rfl hlm (Nat.le_refl _) HL.out.1 HL.out.2).mono ?_
          rintro e u1 ⟨a, b, rfl, hr1, hb⟩
          have hbr2 := hbr.trans (hb.mono hbr.size); clear hbr
          have kk := HL.out.below hb; clear HL; have HL := Lib.hid kk; clear kk
          have kk := HB4.out.below hb; clear HB4; have HB4 := Lib.hid kk; clear kk
          have kk := has_call ZF.out hb; clear ZF; have ZF := Lib.hid kk; clear kk
          have kk := (HG.out.later (Nat.le_refl _) hb).more hb.size; clear HG; have HG := Lib.hid kk; clear kk
          have kk := HZ.out.trans (hb.mono HZ.out.size); clear HZ; have HZ := Lib.hid kk; clear kk
          have hsu1 := hb.size; clear hb
          go_wp2_with fail
          have hbo := bofI_any u1 u1.heap.size A4 l4.length c4 q l4 rfl (by rw [E4.out]; exact hlm) (Nat.le_refl _) HB4.out.1 HB4.out.2
          rw [E4.out] at hbo
          refine hbo.mono ?_
          clear hbo
          rintro e u2 ⟨c, d, rfl, hr2, hb⟩
          have hbr3 := hbr2.trans (hb.mono hbr2.size); clear hbr2
          have kk := HL.out.below hb; clear HL; have HL := Lib.hid kk; clear kk
          have kk := HB4.out.below hb; clear HB4; have HB4 := Lib.hid kk; clear kk
          have kk := has_call ZF.out hb; clear ZF; have ZF := Lib.hid kk; clear kk
          have kk := (HG.out.later (Nat.le_refl _) hb).more hb.size; clear HG; have HG := Lib.hid kk; clear kk
          have kk := HZ.out.trans (hb.mono HZ.out.size); clear HZ; have HZ := Lib.hid kk; clear kk
          have hsu2 := hb.size; clear hb
          obtain ⟨hne, heq⟩ := HBOX.out q a b c d (by omega) hr1 hr2
          clear hr1 hr2
          by_cases hqp : (q : Int) = p
          · obtain ⟨rfl, rfl, rfl⟩ := heq hqp
            have e1 : ((q : Int) != p) = false := by simpa using hqp
            have e2 : ((q : Int) == p) = true := by simpa using hqp
            clear hqp hne heq
            have n1 : (f.col != f.col) = false := by simp
            have n2 : (f.low != f.low) = false := by simp
            have zfc0 := has_cell ZF.out 0 rfl; have zfc1 := has_cell ZF.out 1 rfl; have zfc2 := has_cell ZF.out 2 rfl; have zflt := has_lt ZF.out
            go_wp2_with fail
            go_roundw
            case rel => exact ⟨q + 1, by omega, by omega, by go_num, hbr3⟩
            case measure => simp [intOf]; omega
          · obtain ⟨rfl, rfl⟩ := hne hqp
            have e1 : ((q : Int) != p) = true := by simpa using hqp
            have e2 : ((q : Int) == p) = false := by simpa using hqp
            clear hqp hne heq
            have n1 : (a != a) = false := by simp
            have n2 : (b != b) = false := by simp
            go_wp2_with fail
            go_roundw
            case rel => exact ⟨q + 1, by omega, by omega, by go_num, hbr3⟩
            case measure => simp [intOf]; omega
        · have hlt2 : ¬ (q : Int) ≤ 30 := by omega
          clear hlt hq1 hq31 hbr
          go_wp2_with fail
          have hbt := btkI_any wq wq.heap.size A4 l4.length c4 p l4 rfl (by rw [E4.out]; exact hl1) HSM4.out (Nat.le_refl _) HB4.out.1 HB4.out.2
          rw [E4.out] at hbt
          refine hbt.mono ?_
          clear hbt
          rintro e u1 ⟨A5, c5, l5, q5, rfl, ht, hsm5, hba, hb⟩
          obtain ⟨rfl, hbp5, hgs⟩ := HTK.out l5 q5 ht
          have HB5 := Lib.hid (show BK u1 A5 l5 from hba.klw hsm5); have hl5 := hbp5.1.2; have HBP5 := Lib.hid hbp5; have HGS := Lib.hid hgs; clear ht hsm5 hba hbp5 hgs
          have kk := HL.out.below hb; clear HL; have HL := Lib.hid kk; clear kk
          have kk := HB4.out.below hb; clear HB4; have HB4 := Lib.hid kk; clear kk
          have kk := has_call ZF.out hb; clear ZF; have ZF := Lib.hid kk; clear kk
          have kk := (HG.out.later (Nat.le_refl _) hb).more hb.size; clear HG; have HG := Lib.hid kk; clear kk
          have kk := HZ.out.trans (hb.mono HZ.out.size); clear HZ; have HZ := Lib.hid kk; clear kk
          have hsu1 := hb.size; clear hb
          have hl5m : l5.length ≤ maxLen := by unfold maxLen; omega
          have d3 : decide (s ≤ f.size) = true := by simpa using hsf
          have zfc0 := has_cell ZF.out 0 rfl; have zfc1 := has_cell ZF.out 1 rfl; have zfc2 := has_cell ZF.out 2 rfl; have zflt := has_lt ZF.out
          go_wp2_with fail
          clear zfc0 zfc1 zfc2 zflt
          have hbk := bankI_any u1 u1.heap.size A4 l4.length c4 l4 rfl (by rw [E4.out]; exact hlm) (Nat.le_refl _) HB4.out.1 HB4.out.2
          rw [E4.out] at hbk
          refine hbk.mono ?_
          clear hbk
          rintro e u2 ⟨q6, rfl, hq6, hb⟩
          obtain rfl := hq6.2 HBP4.out
          clear hq6
          have kk := HL.out.below hb; clear HL; have HL := Lib.hid kk; clear kk
          have kk := HB4.out.below hb; clear HB4; have HB4 := Lib.hid kk; clear kk
          have kk := HB5.out.below hb; clear HB5; have HB5 := Lib.hid kk; clear kk
          have kk := has_call ZF.out hb; clear ZF; have ZF := Lib.hid kk; clear kk
          have kk := (HG.out.later (Nat.le_refl _) hb).more hb.size; clear HG; have HG := Lib.hid kk; clear kk
          have kk := HZ.out.trans (hb.mono HZ.out.size); clear HZ; have HZ := Lib.hid kk; clear kk
          have hsu2 := hb.size; clear hb
          go_wp2_with fail
          refine (bankI_any u2 u2.heap.size A5 l5.length c5 l5 rfl hl5m (Nat.le_refl _) HB5.out.1 HB5.out.2).mono ?_
          rintro e u3 ⟨q7, rfl, hq7, hb⟩
          obtain rfl := hq7.2 HBP5.out
          clear hq7
          have kk := HL.out.below hb; clear HL; have HL := Lib.hid kk; clear kk
          have kk := HB4.out.below hb; clear HB4; have HB4 := Lib.hid kk; clear kk
          have kk := HB5.out.below hb; clear HB5; have HB5 := Lib.hid kk; clear kk
          have kk := has_call ZF.out hb; clear ZF; have ZF := Lib.hid kk; clear kk
          have kk := (HG.out.later (Nat.le_refl _) hb).more hb.size; clear HG; have HG := Lib.hid kk; clear kk
          have kk := HZ.out.trans (hb.mono HZ.out.size); clear HZ; have HZ := Lib.hid kk; clear kk
          have hsu3 := hb.size; clear hb
          go_wp2_with fail
          refine (bgS_any u3 u3.heap.size A5 l5.length c5 l5 rfl hl5m (Nat.le_refl _) HB5.out.1 HB5.out.2).mono ?_
          rintro e u4 ⟨A6, c6, rfl, hg6, hb⟩
          have HG6 := Lib.hid hg6.gp; clear hg6
          have kk := HL.out.below hb; clear HL; have HL := Lib.hid kk; clear kk
          have kk := HB4.out.below hb; clear HB4; have HB4 := Lib.hid kk; clear kk
          have kk := HB5.out.below hb; clear HB5; have HB5 := Lib.hid kk; clear kk
          have kk := has_call ZF.out hb; clear ZF; have ZF := Lib.hid kk; clear kk
          have kk := (HG.out.later (Nat.le_refl _) hb).more hb.size; clear HG; have HG := Lib.hid kk; clear kk
          have kk := HZ.out.trans (hb.mono HZ.out.size); clear HZ; have HZ := Lib.hid kk; clear kk
          have hsu4 := hb.size; clear hb
          go_wp2_with fail
          refine (room_any u4 u4.heap.size A6 c6 (bgO l5) (by have := bgO_len l5; omega) (Nat.le_refl _) HG6.out gbd_gsum).mono ?_
          rintro e u5 ⟨rfl, hb⟩
          rw [HGS.out]
          have kk := HL.out.below hb; clear HL; have HL := Lib.hid kk; clear kk
          have kk := HB4.out.below hb; clear HB4; have HB4 := Lib.hid kk; clear kk
          have kk := HB5.out.below hb; clear HB5; have HB5 := Lib.hid kk; clear kk
          have kk := has_call ZF.out hb; clear ZF; have ZF := Lib.hid kk; clear kk
          have kk := (HG.out.later (Nat.le_refl _) hb).more hb.size; clear HG; have HG := Lib.hid kk; clear kk
          have kk := HZ.out.trans (hb.mono HZ.out.size); clear HZ; have HZ := Lib.hid kk; clear kk
          have hsu5 := hb.size; clear hb
          go_wp2_with fail
          refine (bgS_any u5 u5.heap.size AL l.length cL l rfl hlm (Nat.le_refl _) HL.out.1 HL.out.2).mono ?_
          rintro e u6 ⟨A7, c7, rfl, hg7, hb⟩
          have HG7 := Lib.hid hg7.gp; clear hg7
          have kk := HL.out.below hb; clear HL; have HL := Lib.hid kk; clear kk
          have kk := HB4.out.below hb; clear HB4; have HB4 := Lib.hid kk; clear kk
          have kk := HB5.out.below hb; clear HB5; have HB5 := Lib.hid kk; clear kk
          have kk := has_call ZF.out hb; clear ZF; have ZF := Lib.hid kk; clear kk
          have kk := (HG.out.later (Nat.le_refl _) hb).more hb.size; clear HG; have HG := Lib.hid kk; clear kk
          have kk := HZ.out.trans (hb.mono HZ.out.size); clear HZ; have HZ := Lib.hid kk; clear kk
          have hsu6 := hb.size; clear hb
          go_wp2_with fail
          refine (room_any u6 u6.heap.size A7 c7 (bgO l) (by have := bgO_len l; omega) (Nat.le_refl _) HG7.out gbd_gsum).mono ?_
          rintro e u7 ⟨rfl, hb⟩
          have kk := HL.out.below hb; clear HL; have HL := Lib.hid kk; clear kk
          have kk := HB4.out.below hb; clear HB4; have HB4 := Lib.hid kk; clear kk
          have kk := HB5.out.below hb; clear HB5; have HB5 := Lib.hid kk; clear kk
          have kk := has_call ZF.out hb; clear ZF; have ZF := Lib.hid kk; clear kk
          have kk := (HG.out.later (Nat.le_refl _) hb).more hb.size; clear HG; have HG := Lib.hid kk; clear kk
          have kk := HZ.out.trans (hb.mono HZ.out.size); clear HZ; have HZ := Lib.hid kk; clear kk
          have hsu7 := hb.size; clear hb
          have ng : (gsum (bgO l) == gsum (bgO l)) = true := by simp
          go_wp2_with fail
          go_ret
          exact ⟨rfl, HZ.out⟩
end Go.Proofs.Ythfpjfekemelaaa
