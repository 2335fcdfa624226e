/- Chapter 6: the walk of the law FnBills (gen_bill.py). -/
import Derived.Test.YtfkhhefphbhppaaBilC
import Derived.Test.YtfkhhefphbhppaaBilQ
import Derived.Test.YtfkhhefphbhppaaFeeG
import Derived.Deep.RegionHeld3
import Derived.Deep.DeepMust
namespace Go.Proofs.Ytfkhhefphbhppaa
open Go.RowKit
set_option linter.unusedVariables false
set_option maxRecDepth 100000 in
set_option maxHeartbeats 16000000 in
theorem bills_walk (w : World) (A : Option Addr) (na ca : Nat) (hn : na ≤ maxLen) (hS : BS w w.heap.size A na) : Calls Try.prog 3 #[.slice A na ca] w fun e w' => e = .returned (.bool true) ∧ Below w.heap.size w w' := by
  have HS := Lib.hid hS; clear hS
  have HBG := Lib.hid (fun W => big_any W A na ca hn)
  have HDR := Lib.hid (fun W (h : BS W W.heap.size A na) => billD_any W A na ca hn h)
  clear hn
  by_cases hbig : (1048576 : Int) < na
  · have hd : decide ((1048576 : Int) < na) = true := by simpa using hbig
    have HD := Lib.hid hd; clear hd
    go_enter Try.func3, Try.ntmps3
    go_wp2_with (refine (HBG.out _).mono ?_; rintro e w' ⟨rfl, hw⟩; rw [hw, HD.out]; clear hw)
    go_ret
    exact ⟨rfl, Below.refl _ _⟩
  have hd : decide ((1048576 : Int) < na) = false := by simpa using hbig
  have HD := Lib.hid hd; clear hd hbig
  go_enter Try.func3, Try.ntmps3
  go_wp2_with (go_at_call 4; refine (HBG.out _).mono ?_; rintro e w' ⟨rfl, hw⟩; rw [hw, HD.out]; clear hw)
  refine (HDR.out w HS.out).mono ?_
  rintro e w1 ⟨A1, A2, m, m', o, c, AT, cT, T, AF, cF, L, rfl, hlo, hlc, hT, hL, sA, sC, sT, sL, hb1⟩
  have hlo' : o.length ≤ maxLen := by unfold maxLen; omega
  have hlc' : c.length ≤ maxLen := by unfold maxLen; omega
  have hT' : T.length ≤ maxLen := by unfold maxLen; omega
  have hL' : L.length ≤ maxLen := by unfold maxLen; omega
  have H1 := Lib.hid sA; have H2 := Lib.hid sC; have H3 := Lib.hid sT; have H4 := Lib.hid sL; have HB1 := Lib.hid hb1; clear sA sC sT sL hb1
  obtain ⟨b, hbst⟩ : ∃ b, bestB o c T L = b := ⟨_, rfl⟩
  have hbr := best_range (o := o) (c := c) (L := L) (T := T) (by omega)
  rw [hbst] at hbr
  obtain ⟨hbr0, hbr1⟩ := hbr
  have HBS := Lib.hid hbst
  have HLAW := Lib.hid (fun (i : Nat) (t : Tm) (y : Int) (h1 : T[i]? = some t) (h2 : billB o c t L = some y) => best_law (o := o) (c := c) (L := L) (T := T) (by omega) h1 h2)
  rw [hbst] at HLAW
  clear hbst
  have nb : (b != b) = false := by simp
  go_wp2_with fail
  generalize hX : (w1.alloc (.cells #[.slice A1 o.length m, .slice A2 c.length m'] 26)) = w2
  have hb2 : Below w1.heap.size w1 w2 := by rw [← hX]; exact balloc _ _
  have KW := Lib.hid (show Has w2 w1.heap.size 26 #[.slice A1 o.length m, .slice A2 c.length m'] by rw [← hX]; exact has_new _ _ _)
  clear hX
  have hz2 := hb2.size
  have HA := Lib.hid (H1.out.below hb2); have HC := Lib.hid (H2.out.below hb2); have HT := Lib.hid (H3.out.below hb2); have HL := Lib.hid (H4.out.below hb2)
  have Z2 := Lib.hid (bthen HB1.out hb2); clear hb2 H1 H2 H3 H4 HB1
  have XR := Lib.hid (Below.refl w2.heap.size w2)
  have wac0 := has_cell KW.out 0 rfl; have wac1 := has_cell KW.out 1 rfl
  go_wp2_with fail
  clear wac0 wac1
  refine (cheapI_any w2 w1.heap.size A1 A2 m m' o c AT cT T AF cF L hlo' hlc' (by have := XR.out.size; omega) (SL.later HA.out hz2 XR.out) (SL.later HC.out hz2 XR.out) hT' (tmL.later HT.out hz2 XR.out) hL' (stL.later HL.out hz2 XR.out)).mono ?_
  rintro e w3 ⟨rfl, hb⟩
  rw [HBS.out]
  have kw := has_call KW.out hb; clear KW; have KW := Lib.hid kw; clear kw
  have xr := bthen XR.out hb; clear XR; have XR := Lib.hid xr; clear xr hb
  have wac0 := has_cell KW.out 0 rfl; have wac1 := has_cell KW.out 1 rfl
  go_wp2_with fail
  clear wac0 wac1
  refine (cheapS_any w3 w1.heap.size A1 A2 m m' o c AT cT T AF cF L hlo' hlc' (by have := XR.out.size; omega) (SL.later HA.out hz2 XR.out) (SL.later HC.out hz2 XR.out) hT' (tmL.later HT.out hz2 XR.out) hL' (stL.later HL.out hz2 XR.out)).mono ?_
  rintro e w4 ⟨rfl, hb⟩
  rw [HBS.out]
  have kw := has_call KW.out hb; clear KW; have KW := Lib.hid kw; clear kw
  have xr := bthen XR.out hb; clear XR; have XR := Lib.hid xr; clear xr hb
  go_wp2_with fail
  have KW4 := Lib.hid KW.out; have XR4 := Lib.hid XR.out; clear KW XR nb
  have hk4 : w1.heap.size < w4.heap.size := has_lt KW4.out
  go_loopw [7] (fun iv wr => ∃ i : Nat, i ≤ T.length ∧ iv = .int .i64 i ∧ Below w4.heap.size w4 wr) (fun iv _ => T.length - (intOf iv).toNat)
  case atStart => exact ⟨0, Nat.zero_le _, rfl, Below.refl _ _⟩
  case round =>
    obtain ⟨i, hi, rfl, hbr⟩ := hrel
    have hsr := hbr.size
    have KW := Lib.hid (has_call KW4.out hbr); have XR := Lib.hid (bthen XR4.out hbr); have LR := Lib.hid hbr; clear hbr
    by_cases hlt : i < T.length
    rotate_left
    · have hbt : (b < (T.length : Int)) := hbr1
      have hil : i = T.length := by omega
      go_wp2_with fail
      go_ret
      exact ⟨rfl, bthen Z2.out XR.out⟩
    obtain ⟨bb, off, t, rfl, hbB, hx, hc0, hc1, hc2, hc3, hc4, hc5, hc6, hc7⟩ := (tmL.later HT.out hz2 XR.out).at_ hlt
    rename World => wr0
    have hbl : bb < wr0.heap.size := by have := XR.out.size; omega
    have hi0 : (0 : Int) ≤ (i : Int) := by omega
    have hi1 : (i : Int) < (T.length : Int) := by omega
    obtain ⟨q, hq⟩ : ∃ q, billB o c t L = q := ⟨_, rfl⟩
    cases q with
    | none =>
      have HQ := Lib.hid hq; clear hq hx
      have wac0 := has_cell KW.out 0 rfl; have wac1 := has_cell KW.out 1 rfl
      go_wp2_with fail
      have S0 : (fun W : World => (W.cell? ⟨w1.heap.size, 0, none⟩ = some (.slice A1 o.length m) ∧ W.cell? ⟨w1.heap.size, 1, none⟩ = some (.slice A2 c.length m')) ∧ (W.cell? ⟨bb, off + i * 8, none⟩ = some (.int .i64 t.keep) ∧ W.cell? ⟨bb, off + i * 8 + 1, none⟩ = some (.int .i64 t.free) ∧ W.cell? ⟨bb, off + i * 8 + 2, none⟩ = some (.int .i64 t.step) ∧ W.cell? ⟨bb, off + i * 8 + 3, none⟩ = some (.int .i64 t.rate) ∧ W.cell? ⟨bb, off + i * 8 + 4, none⟩ = some (.int .i64 t.cap) ∧ W.cell? ⟨bb, off + i * 8 + 5, none⟩ = some (.int .i64 t.longer) ∧ W.cell? ⟨bb, off + i * 8 + 6, none⟩ = some (.int .i64 t.price) ∧ W.cell? ⟨bb, off + i * 8 + 7, none⟩ = some (.int .i64 t.most)) ∧ Below wr0.heap.size wr0 W) wr0.drew := ⟨⟨wac0, wac1⟩, ⟨hc0, hc1, hc2, hc3, hc4, hc5, hc6, hc7⟩, (Below.refl _ _).drew⟩
      have xd := XR.out.drew; have hwl : w1.heap.size < wr0.drew.heap.size := has_lt KW.out; have hblw : bb < wr0.drew.heap.size := hbl
      clear wac0 wac1 hc0 hc1 hc2 hc3 hc4 hc5 hc6 hc7
      go_region_held3 (fun W : World => (W.cell? ⟨w1.heap.size, 0, none⟩ = some (.slice A1 o.length m) ∧ W.cell? ⟨w1.heap.size, 1, none⟩ = some (.slice A2 c.length m')) ∧ (W.cell? ⟨bb, off + i * 8, none⟩ = some (.int .i64 t.keep) ∧ W.cell? ⟨bb, off + i * 8 + 1, none⟩ = some (.int .i64 t.free) ∧ W.cell? ⟨bb, off + i * 8 + 2, none⟩ = some (.int .i64 t.step) ∧ W.cell? ⟨bb, off + i * 8 + 3, none⟩ = some (.int .i64 t.rate) ∧ W.cell? ⟨bb, off + i * 8 + 4, none⟩ = some (.int .i64 t.cap) ∧ W.cell? ⟨bb, off + i * 8 + 5, none⟩ = some (.int .i64 t.longer) ∧ W.cell? ⟨bb, off + i * 8 + 6, none⟩ = some (.int .i64 t.price) ∧ W.cell? ⟨bb, off + i * 8 + 7, none⟩ = some (.int .i64 t.most)) ∧ Below wr0.heap.size wr0 W) (first | assumption) (first
        | (go_at_call 8; go_must (refine (billI_any wr0.drew w1.heap.size A1 A2 m m' o c t AF cF L hlo' hlc' (by have := xd.size; omega) (SL.later HA.out hz2 xd) (SL.later HC.out hz2 xd) hL' (stL.later HL.out hz2 xd)).mono ?_); rintro e wr5 ⟨rfl, hh⟩; rw [HQ.out]; unfold pairV; have S1 : (fun W : World => (W.cell? ⟨w1.heap.size, 0, none⟩ = some (.slice A1 o.length m) ∧ W.cell? ⟨w1.heap.size, 1, none⟩ = some (.slice A2 c.length m')) ∧ (W.cell? ⟨bb, off + i * 8, none⟩ = some (.int .i64 t.keep) ∧ W.cell? ⟨bb, off + i * 8 + 1, none⟩ = some (.int .i64 t.free) ∧ W.cell? ⟨bb, off + i * 8 + 2, none⟩ = some (.int .i64 t.step) ∧ W.cell? ⟨bb, off + i * 8 + 3, none⟩ = some (.int .i64 t.rate) ∧ W.cell? ⟨bb, off + i * 8 + 4, none⟩ = some (.int .i64 t.cap) ∧ W.cell? ⟨bb, off + i * 8 + 5, none⟩ = some (.int .i64 t.longer) ∧ W.cell? ⟨bb, off + i * 8 + 6, none⟩ = some (.int .i64 t.price) ∧ W.cell? ⟨bb, off + i * 8 + 7, none⟩ = some (.int .i64 t.most)) ∧ Below wr0.heap.size wr0 W) wr5 := ⟨⟨(bold hh _ _ hwl).trans S0.1.1, (bold hh _ _ hwl).trans S0.1.2⟩, ⟨(bold hh _ _ hblw).trans S0.2.1.1, (bold hh _ _ hblw).trans S0.2.1.2.1, (bold hh _ _ hblw).trans S0.2.1.2.2.1, (bold hh _ _ hblw).trans S0.2.1.2.2.2.1, (bold hh _ _ hblw).trans S0.2.1.2.2.2.2.1, (bold hh _ _ hblw).trans S0.2.1.2.2.2.2.2.1, (bold hh _ _ hblw).trans S0.2.1.2.2.2.2.2.2.1, (bold hh _ _ hblw).trans S0.2.1.2.2.2.2.2.2.2⟩, bthen S0.2.2 hh⟩))
      have hb := S1.2.2
      have hcs := S1.2.1; obtain ⟨hc0, hc1, hc2, hc3, hc4, hc5, hc6, hc7⟩ := hcs
      have kw := has_call KW.out hb; clear KW; have KW := Lib.hid kw; clear kw
      have xr := bthen XR.out hb; clear XR; have XR := Lib.hid xr; clear xr
      have hbl : bb < wr5.heap.size := by have := hb.size; omega
      clear S0 S1 xd hwl hblw hh
      have lr := bthen LR.out hb; clear LR; have LR := Lib.hid lr; clear lr hb
      have wac0 := has_cell KW.out 0 rfl; have wac1 := has_cell KW.out 1 rfl
      go_wp2_with fail
      have S0 : (fun W : World => (W.cell? ⟨w1.heap.size, 0, none⟩ = some (.slice A1 o.length m) ∧ W.cell? ⟨w1.heap.size, 1, none⟩ = some (.slice A2 c.length m')) ∧ (W.cell? ⟨bb, off + i * 8, none⟩ = some (.int .i64 t.keep) ∧ W.cell? ⟨bb, off + i * 8 + 1, none⟩ = some (.int .i64 t.free) ∧ W.cell? ⟨bb, off + i * 8 + 2, none⟩ = some (.int .i64 t.step) ∧ W.cell? ⟨bb, off + i * 8 + 3, none⟩ = some (.int .i64 t.rate) ∧ W.cell? ⟨bb, off + i * 8 + 4, none⟩ = some (.int .i64 t.cap) ∧ W.cell? ⟨bb, off + i * 8 + 5, none⟩ = some (.int .i64 t.longer) ∧ W.cell? ⟨bb, off + i * 8 + 6, none⟩ = some (.int .i64 t.price) ∧ W.cell? ⟨bb, off + i * 8 + 7, none⟩ = some (.int .i64 t.most)) ∧ Below wr5.heap.size wr5 W) wr5.drew := ⟨⟨wac0, wac1⟩, ⟨hc0, hc1, hc2, hc3, hc4, hc5, hc6, hc7⟩, (Below.refl _ _).drew⟩
      have xd := XR.out.drew; have hwl : w1.heap.size < wr5.drew.heap.size := has_lt KW.out; have hblw : bb < wr5.drew.heap.size := hbl
      clear wac0 wac1 hc0 hc1 hc2 hc3 hc4 hc5 hc6 hc7
      go_region_held3 (fun W : World => (W.cell? ⟨w1.heap.size, 0, none⟩ = some (.slice A1 o.length m) ∧ W.cell? ⟨w1.heap.size, 1, none⟩ = some (.slice A2 c.length m')) ∧ (W.cell? ⟨bb, off + i * 8, none⟩ = some (.int .i64 t.keep) ∧ W.cell? ⟨bb, off + i * 8 + 1, none⟩ = some (.int .i64 t.free) ∧ W.cell? ⟨bb, off + i * 8 + 2, none⟩ = some (.int .i64 t.step) ∧ W.cell? ⟨bb, off + i * 8 + 3, none⟩ = some (.int .i64 t.rate) ∧ W.cell? ⟨bb, off + i * 8 + 4, none⟩ = some (.int .i64 t.cap) ∧ W.cell? ⟨bb, off + i * 8 + 5, none⟩ = some (.int .i64 t.longer) ∧ W.cell? ⟨bb, off + i * 8 + 6, none⟩ = some (.int .i64 t.price) ∧ W.cell? ⟨bb, off + i * 8 + 7, none⟩ = some (.int .i64 t.most)) ∧ Below wr5.heap.size wr5 W) (first | assumption) (first
        | (go_at_call 9; go_must (refine (billS_any wr5.drew w1.heap.size A1 A2 m m' o c t AF cF L hlo' hlc' (by have := xd.size; omega) (SL.later HA.out hz2 xd) (SL.later HC.out hz2 xd) hL' (stL.later HL.out hz2 xd)).mono ?_); rintro e wr6 ⟨rfl, hh⟩; rw [HQ.out]; unfold pairV; have S1 : (fun W : World => (W.cell? ⟨w1.heap.size, 0, none⟩ = some (.slice A1 o.length m) ∧ W.cell? ⟨w1.heap.size, 1, none⟩ = some (.slice A2 c.length m')) ∧ (W.cell? ⟨bb, off + i * 8, none⟩ = some (.int .i64 t.keep) ∧ W.cell? ⟨bb, off + i * 8 + 1, none⟩ = some (.int .i64 t.free) ∧ W.cell? ⟨bb, off + i * 8 + 2, none⟩ = some (.int .i64 t.step) ∧ W.cell? ⟨bb, off + i * 8 + 3, none⟩ = some (.int .i64 t.rate) ∧ W.cell? ⟨bb, off + i * 8 + 4, none⟩ = some (.int .i64 t.cap) ∧ W.cell? ⟨bb, off + i * 8 + 5, none⟩ = some (.int .i64 t.longer) ∧ W.cell? ⟨bb, off + i * 8 + 6, none⟩ = some (.int .i64 t.price) ∧ W.cell? ⟨bb, off + i * 8 + 7, none⟩ = some (.int .i64 t.most)) ∧ Below wr5.heap.size wr5 W) wr6 := ⟨⟨(bold hh _ _ hwl).trans S0.1.1, (bold hh _ _ hwl).trans S0.1.2⟩, ⟨(bold hh _ _ hblw).trans S0.2.1.1, (bold hh _ _ hblw).trans S0.2.1.2.1, (bold hh _ _ hblw).trans S0.2.1.2.2.1, (bold hh _ _ hblw).trans S0.2.1.2.2.2.1, (bold hh _ _ hblw).trans S0.2.1.2.2.2.2.1, (bold hh _ _ hblw).trans S0.2.1.2.2.2.2.2.1, (bold hh _ _ hblw).trans S0.2.1.2.2.2.2.2.2.1, (bold hh _ _ hblw).trans S0.2.1.2.2.2.2.2.2.2⟩, bthen S0.2.2 hh⟩))
      have hb := S1.2.2
      have hcs := S1.2.1; obtain ⟨hc0, hc1, hc2, hc3, hc4, hc5, hc6, hc7⟩ := hcs
      have kw := has_call KW.out hb; clear KW; have KW := Lib.hid kw; clear kw
      have xr := bthen XR.out hb; clear XR; have XR := Lib.hid xr; clear xr
      have hbl : bb < wr6.heap.size := by have := hb.size; omega
      clear S0 S1 xd hwl hblw hh
      have lr := bthen LR.out hb; clear LR; have LR := Lib.hid lr; clear lr hb
      clear hc0 hc1 hc2 hc3 hc4 hc5 hc6 hc7
      go_wp2_with fail
      go_loopw [12, 13] (fun sv kv wr => kv = .int .i64 0 ∧ sv = .int .i64 0 ∧ Below wr6.heap.size wr6 wr) (fun _ _ _ => 0)
      case atStart => exact ⟨rfl, rfl, Below.refl _ _⟩
      case round =>
        obtain ⟨rfl, rfl, hb⟩ := hrel
        have lr := Lib.hid (bthen LR.out hb)
        go_wp2_with fail
        all_goals (go_roundw <;> first | exact ⟨i + 1, by omega, by go_num, lr.out⟩ | (simp [intOf]; omega))
    | some y =>
      obtain ⟨n, u, z, hbn, hnT, hnu, hzb, hzy, hzi⟩ := HLAW.out i t y hx hq
      have hsm := bill_sum hq
      have hyr := bill_range hq; have hzr := bill_range hzb
      obtain ⟨hyr0, hyr1⟩ := hyr; obtain ⟨hzr0, hzr1⟩ := hzr
      have ny : (y != y) = false := by simp
      have hb0 : ¬ b < 0 := by omega
      have HQ := Lib.hid hq; have HSM := Lib.hid hsm; have HBN := Lib.hid hbn; have HNU := Lib.hid hnu; have HZB := Lib.hid hzb; have HZI := Lib.hid hzi; have HX := Lib.hid hx; clear hq hsm hbn hnu hzb hzi hx
      have wac0 := has_cell KW.out 0 rfl; have wac1 := has_cell KW.out 1 rfl
      go_wp2_with fail
      have S0 : (fun W : World => (W.cell? ⟨w1.heap.size, 0, none⟩ = some (.slice A1 o.length m) ∧ W.cell? ⟨w1.heap.size, 1, none⟩ = some (.slice A2 c.length m')) ∧ (W.cell? ⟨bb, off + i * 8, none⟩ = some (.int .i64 t.keep) ∧ W.cell? ⟨bb, off + i * 8 + 1, none⟩ = some (.int .i64 t.free) ∧ W.cell? ⟨bb, off + i * 8 + 2, none⟩ = some (.int .i64 t.step) ∧ W.cell? ⟨bb, off + i * 8 + 3, none⟩ = some (.int .i64 t.rate) ∧ W.cell? ⟨bb, off + i * 8 + 4, none⟩ = some (.int .i64 t.cap) ∧ W.cell? ⟨bb, off + i * 8 + 5, none⟩ = some (.int .i64 t.longer) ∧ W.cell? ⟨bb, off + i * 8 + 6, none⟩ = some (.int .i64 t.price) ∧ W.cell? ⟨bb, off + i * 8 + 7, none⟩ = some (.int .i64 t.most)) ∧ Below wr0.heap.size wr0 W) wr0.drew := ⟨⟨wac0, wac1⟩, ⟨hc0, hc1, hc2, hc3, hc4, hc5, hc6, hc7⟩, (Below.refl _ _).drew⟩
      have xd := XR.out.drew; have hwl : w1.heap.size < wr0.drew.heap.size := has_lt KW.out; have hblw : bb < wr0.drew.heap.size := hbl
      clear wac0 wac1 hc0 hc1 hc2 hc3 hc4 hc5 hc6 hc7
      go_region_held3 (fun W : World => (W.cell? ⟨w1.heap.size, 0, none⟩ = some (.slice A1 o.length m) ∧ W.cell? ⟨w1.heap.size, 1, none⟩ = some (.slice A2 c.length m')) ∧ (W.cell? ⟨bb, off + i * 8, none⟩ = some (.int .i64 t.keep) ∧ W.cell? ⟨bb, off + i * 8 + 1, none⟩ = some (.int .i64 t.free) ∧ W.cell? ⟨bb, off + i * 8 + 2, none⟩ = some (.int .i64 t.step) ∧ W.cell? ⟨bb, off + i * 8 + 3, none⟩ = some (.int .i64 t.rate) ∧ W.cell? ⟨bb, off + i * 8 + 4, none⟩ = some (.int .i64 t.cap) ∧ W.cell? ⟨bb, off + i * 8 + 5, none⟩ = some (.int .i64 t.longer) ∧ W.cell? ⟨bb, off + i * 8 + 6, none⟩ = some (.int .i64 t.price) ∧ W.cell? ⟨bb, off + i * 8 + 7, none⟩ = some (.int .i64 t.most)) ∧ Below wr0.heap.size wr0 W) (first | assumption) (first
        | (go_at_call 8; go_must (refine (billI_any wr0.drew w1.heap.size A1 A2 m m' o c t AF cF L hlo' hlc' (by have := xd.size; omega) (SL.later HA.out hz2 xd) (SL.later HC.out hz2 xd) hL' (stL.later HL.out hz2 xd)).mono ?_); rintro e wr5 ⟨rfl, hh⟩; rw [HQ.out]; unfold pairV; have S1 : (fun W : World => (W.cell? ⟨w1.heap.size, 0, none⟩ = some (.slice A1 o.length m) ∧ W.cell? ⟨w1.heap.size, 1, none⟩ = some (.slice A2 c.length m')) ∧ (W.cell? ⟨bb, off + i * 8, none⟩ = some (.int .i64 t.keep) ∧ W.cell? ⟨bb, off + i * 8 + 1, none⟩ = some (.int .i64 t.free) ∧ W.cell? ⟨bb, off + i * 8 + 2, none⟩ = some (.int .i64 t.step) ∧ W.cell? ⟨bb, off + i * 8 + 3, none⟩ = some (.int .i64 t.rate) ∧ W.cell? ⟨bb, off + i * 8 + 4, none⟩ = some (.int .i64 t.cap) ∧ W.cell? ⟨bb, off + i * 8 + 5, none⟩ = some (.int .i64 t.longer) ∧ W.cell? ⟨bb, off + i * 8 + 6, none⟩ = some (.int .i64 t.price) ∧ W.cell? ⟨bb, off + i * 8 + 7, none⟩ = some (.int .i64 t.most)) ∧ Below wr0.heap.size wr0 W) wr5 := ⟨⟨(bold hh _ _ hwl).trans S0.1.1, (bold hh _ _ hwl).trans S0.1.2⟩, ⟨(bold hh _ _ hblw).trans S0.2.1.1, (bold hh _ _ hblw).trans S0.2.1.2.1, (bold hh _ _ hblw).trans S0.2.1.2.2.1, (bold hh _ _ hblw).trans S0.2.1.2.2.2.1, (bold hh _ _ hblw).trans S0.2.1.2.2.2.2.1, (bold hh _ _ hblw).trans S0.2.1.2.2.2.2.2.1, (bold hh _ _ hblw).trans S0.2.1.2.2.2.2.2.2.1, (bold hh _ _ hblw).trans S0.2.1.2.2.2.2.2.2.2⟩, bthen S0.2.2 hh⟩))
      have hb := S1.2.2
      have hcs := S1.2.1; obtain ⟨hc0, hc1, hc2, hc3, hc4, hc5, hc6, hc7⟩ := hcs
      have kw := has_call KW.out hb; clear KW; have KW := Lib.hid kw; clear kw
      have xr := bthen XR.out hb; clear XR; have XR := Lib.hid xr; clear xr
      have hbl : bb < wr5.heap.size := by have := hb.size; omega
      clear S0 S1 xd hwl hblw hh
      have lr := bthen LR.out hb; clear LR; have LR := Lib.hid lr; clear lr hb
      have wac0 := has_cell KW.out 0 rfl; have wac1 := has_cell KW.out 1 rfl
      go_wp2_with fail
      have S0 : (fun W : World => (W.cell? ⟨w1.heap.size, 0, none⟩ = some (.slice A1 o.length m) ∧ W.cell? ⟨w1.heap.size, 1, none⟩ = some (.slice A2 c.length m')) ∧ (W.cell? ⟨bb, off + i * 8, none⟩ = some (.int .i64 t.keep) ∧ W.cell? ⟨bb, off + i * 8 + 1, none⟩ = some (.int .i64 t.free) ∧ W.cell? ⟨bb, off + i * 8 + 2, none⟩ = some (.int .i64 t.step) ∧ W.cell? ⟨bb, off + i * 8 + 3, none⟩ = some (.int .i64 t.rate) ∧ W.cell? ⟨bb, off + i * 8 + 4, none⟩ = some (.int .i64 t.cap) ∧ W.cell? ⟨bb, off + i * 8 + 5, none⟩ = some (.int .i64 t.longer) ∧ W.cell? ⟨bb, off + i * 8 + 6, none⟩ = some (.int .i64 t.price) ∧ W.cell? ⟨bb, off + i * 8 + 7, none⟩ = some (.int .i64 t.most)) ∧ Below wr5.heap.size wr5 W) wr5.drew := ⟨⟨wac0, wac1⟩, ⟨hc0, hc1, hc2, hc3, hc4, hc5, hc6, hc7⟩, (Below.refl _ _).drew⟩
      have xd := XR.out.drew; have hwl : w1.heap.size < wr5.drew.heap.size := has_lt KW.out; have hblw : bb < wr5.drew.heap.size := hbl
      clear wac0 wac1 hc0 hc1 hc2 hc3 hc4 hc5 hc6 hc7
      go_region_held3 (fun W : World => (W.cell? ⟨w1.heap.size, 0, none⟩ = some (.slice A1 o.length m) ∧ W.cell? ⟨w1.heap.size, 1, none⟩ = some (.slice A2 c.length m')) ∧ (W.cell? ⟨bb, off + i * 8, none⟩ = some (.int .i64 t.keep) ∧ W.cell? ⟨bb, off + i * 8 + 1, none⟩ = some (.int .i64 t.free) ∧ W.cell? ⟨bb, off + i * 8 + 2, none⟩ = some (.int .i64 t.step) ∧ W.cell? ⟨bb, off + i * 8 + 3, none⟩ = some (.int .i64 t.rate) ∧ W.cell? ⟨bb, off + i * 8 + 4, none⟩ = some (.int .i64 t.cap) ∧ W.cell? ⟨bb, off + i * 8 + 5, none⟩ = some (.int .i64 t.longer) ∧ W.cell? ⟨bb, off + i * 8 + 6, none⟩ = some (.int .i64 t.price) ∧ W.cell? ⟨bb, off + i * 8 + 7, none⟩ = some (.int .i64 t.most)) ∧ Below wr5.heap.size wr5 W) (first | assumption) (first
        | (go_at_call 9; go_must (refine (billS_any wr5.drew w1.heap.size A1 A2 m m' o c t AF cF L hlo' hlc' (by have := xd.size; omega) (SL.later HA.out hz2 xd) (SL.later HC.out hz2 xd) hL' (stL.later HL.out hz2 xd)).mono ?_); rintro e wr6 ⟨rfl, hh⟩; rw [HQ.out]; unfold pairV; have S1 : (fun W : World => (W.cell? ⟨w1.heap.size, 0, none⟩ = some (.slice A1 o.length m) ∧ W.cell? ⟨w1.heap.size, 1, none⟩ = some (.slice A2 c.length m')) ∧ (W.cell? ⟨bb, off + i * 8, none⟩ = some (.int .i64 t.keep) ∧ W.cell? ⟨bb, off + i * 8 + 1, none⟩ = some (.int .i64 t.free) ∧ W.cell? ⟨bb, off + i * 8 + 2, none⟩ = some (.int .i64 t.step) ∧ W.cell? ⟨bb, off + i * 8 + 3, none⟩ = some (.int .i64 t.rate) ∧ W.cell? ⟨bb, off + i * 8 + 4, none⟩ = some (.int .i64 t.cap) ∧ W.cell? ⟨bb, off + i * 8 + 5, none⟩ = some (.int .i64 t.longer) ∧ W.cell? ⟨bb, off + i * 8 + 6, none⟩ = some (.int .i64 t.price) ∧ W.cell? ⟨bb, off + i * 8 + 7, none⟩ = some (.int .i64 t.most)) ∧ Below wr5.heap.size wr5 W) wr6 := ⟨⟨(bold hh _ _ hwl).trans S0.1.1, (bold hh _ _ hwl).trans S0.1.2⟩, ⟨(bold hh _ _ hblw).trans S0.2.1.1, (bold hh _ _ hblw).trans S0.2.1.2.1, (bold hh _ _ hblw).trans S0.2.1.2.2.1, (bold hh _ _ hblw).trans S0.2.1.2.2.2.1, (bold hh _ _ hblw).trans S0.2.1.2.2.2.2.1, (bold hh _ _ hblw).trans S0.2.1.2.2.2.2.2.1, (bold hh _ _ hblw).trans S0.2.1.2.2.2.2.2.2.1, (bold hh _ _ hblw).trans S0.2.1.2.2.2.2.2.2.2⟩, bthen S0.2.2 hh⟩))
      have hb := S1.2.2
      have hcs := S1.2.1; obtain ⟨hc0, hc1, hc2, hc3, hc4, hc5, hc6, hc7⟩ := hcs
      have kw := has_call KW.out hb; clear KW; have KW := Lib.hid kw; clear kw
      have xr := bthen XR.out hb; clear XR; have XR := Lib.hid xr; clear xr
      have hbl : bb < wr6.heap.size := by have := hb.size; omega
      clear S0 S1 xd hwl hblw hh
      have lr := bthen LR.out hb; clear LR; have LR := Lib.hid lr; clear lr hb
      have HCS := Lib.hid (show (wr6.cell? ⟨bb, off + i * 8, none⟩ = some (.int .i64 t.keep) ∧ wr6.cell? ⟨bb, off + i * 8 + 1, none⟩ = some (.int .i64 t.free) ∧ wr6.cell? ⟨bb, off + i * 8 + 2, none⟩ = some (.int .i64 t.step) ∧ wr6.cell? ⟨bb, off + i * 8 + 3, none⟩ = some (.int .i64 t.rate) ∧ wr6.cell? ⟨bb, off + i * 8 + 4, none⟩ = some (.int .i64 t.cap) ∧ wr6.cell? ⟨bb, off + i * 8 + 5, none⟩ = some (.int .i64 t.longer) ∧ wr6.cell? ⟨bb, off + i * 8 + 6, none⟩ = some (.int .i64 t.price) ∧ wr6.cell? ⟨bb, off + i * 8 + 7, none⟩ = some (.int .i64 t.most)) from ⟨hc0, hc1, hc2, hc3, hc4, hc5, hc6, hc7⟩)
      clear hc0 hc1 hc2 hc3 hc4 hc5 hc6 hc7
      go_wp2_with fail
      clear ny
      have HBL6 := Lib.hid hbl; have KW6 := Lib.hid KW.out; have XR6 := Lib.hid XR.out; have LR6 := Lib.hid LR.out; clear KW XR LR
      go_loopw [12, 13] (fun sv kv wr => ∃ (k : Nat) (s : Int), k ≤ L.length ∧ kv = .int .i64 k ∧ sv = .int .i64 s ∧ 0 ≤ s ∧ s ≤ 3000000 * k ∧ sumB o c t (L.drop k) s = some y ∧ Below wr6.heap.size wr6 wr) (fun _ kv _ => L.length - (intOf kv).toNat)
      case atStart => exact ⟨0, 0, Nat.zero_le _, rfl, rfl, by omega, by omega, HSM.out, Below.refl _ _⟩
      case round =>
        obtain ⟨k, s, hk, rfl, rfl, hs0, hs1, hsu, hb⟩ := hrel
        have HSU := Lib.hid hsu; clear hsu
        have hsz := hb.size
        have KW := Lib.hid (has_call KW6.out hb); have XR := Lib.hid (bthen XR6.out hb); have LR := Lib.hid (bthen LR6.out hb); have MR := Lib.hid hb
        have hbl : bb < wr.heap.size := by omega
        by_cases hkl : k < L.length
        · skip
          obtain ⟨b2, of2, ⟨x0, x1, x2, x3⟩, rfl, hb2B, hx2, hd0, hd1, hd2, hd3⟩ := (stL.later HL.out hz2 XR.out).at_ hkl
          dsimp only at hd0 hd1 hd2 hd3
          have hsn := sum_next hx2 HSU.out
          dsimp only at hsn
          obtain ⟨v, hv⟩ : ∃ v, feeB o c t x0 x1 x2 x3 = v := ⟨_, rfl⟩
          rw [hv] at hsn
          obtain ⟨hsn1, hsn2⟩ := hsn
          have hvr : 0 ≤ v ∧ v ≤ 3000000 := by rcases fee_range o c t x0 x1 x2 x3 with h9 | h9 <;> omega
          obtain ⟨hv0, hv1⟩ := hvr
          have HV := Lib.hid hv; have HN2 := Lib.hid hsn2; clear hv hsn2 hx2 hsn1
          have hk0 : (0 : Int) ≤ (k : Int) := by omega
          have hk1 : (k : Int) < (L.length : Int) := by omega
          have hb2l : b2 < wr.heap.size := by have := XR.out.size; omega
          have hsw : IntKind.i64.wrap (s + v) = s + v := IntWalk.i64_in _ (by omega)
          have hcs := HCS.out
          obtain ⟨hc0, hc1, hc2, hc3, hc4, hc5, hc6, hc7⟩ : wr.cell? ⟨bb, off + i * 8, none⟩ = some (.int .i64 t.keep) ∧ wr.cell? ⟨bb, off + i * 8 + 1, none⟩ = some (.int .i64 t.free) ∧ wr.cell? ⟨bb, off + i * 8 + 2, none⟩ = some (.int .i64 t.step) ∧ wr.cell? ⟨bb, off + i * 8 + 3, none⟩ = some (.int .i64 t.rate) ∧ wr.cell? ⟨bb, off + i * 8 + 4, none⟩ = some (.int .i64 t.cap) ∧ wr.cell? ⟨bb, off + i * 8 + 5, none⟩ = some (.int .i64 t.longer) ∧ wr.cell? ⟨bb, off + i * 8 + 6, none⟩ = some (.int .i64 t.price) ∧ wr.cell? ⟨bb, off + i * 8 + 7, none⟩ = some (.int .i64 t.most) := ⟨(bold hb bb _ HBL6.out).trans hcs.1, (bold hb bb _ HBL6.out).trans hcs.2.1, (bold hb bb _ HBL6.out).trans hcs.2.2.1, (bold hb bb _ HBL6.out).trans hcs.2.2.2.1, (bold hb bb _ HBL6.out).trans hcs.2.2.2.2.1, (bold hb bb _ HBL6.out).trans hcs.2.2.2.2.2.1, (bold hb bb _ HBL6.out).trans hcs.2.2.2.2.2.2.1, (bold hb bb _ HBL6.out).trans hcs.2.2.2.2.2.2.2⟩
          clear hcs
          have wac0 := has_cell KW.out 0 rfl; have wac1 := has_cell KW.out 1 rfl
          go_wp2_with fail
          have S0 : (fun W : World => (W.cell? ⟨w1.heap.size, 0, none⟩ = some (.slice A1 o.length m) ∧ W.cell? ⟨w1.heap.size, 1, none⟩ = some (.slice A2 c.length m')) ∧ (W.cell? ⟨bb, off + i * 8, none⟩ = some (.int .i64 t.keep) ∧ W.cell? ⟨bb, off + i * 8 + 1, none⟩ = some (.int .i64 t.free) ∧ W.cell? ⟨bb, off + i * 8 + 2, none⟩ = some (.int .i64 t.step) ∧ W.cell? ⟨bb, off + i * 8 + 3, none⟩ = some (.int .i64 t.rate) ∧ W.cell? ⟨bb, off + i * 8 + 4, none⟩ = some (.int .i64 t.cap) ∧ W.cell? ⟨bb, off + i * 8 + 5, none⟩ = some (.int .i64 t.longer) ∧ W.cell? ⟨bb, off + i * 8 + 6, none⟩ = some (.int .i64 t.price) ∧ W.cell? ⟨bb, off + i * 8 + 7, none⟩ = some (.int .i64 t.most)) ∧ (W.cell? ⟨b2, of2 + k * 4, none⟩ = some (.int .i64 x0) ∧ W.cell? ⟨b2, of2 + k * 4 + 1, none⟩ = some (.int .i64 x1) ∧ W.cell? ⟨b2, of2 + k * 4 + 2, none⟩ = some (.int .i64 x2) ∧ W.cell? ⟨b2, of2 + k * 4 + 3, none⟩ = some (.int .i64 x3)) ∧ Below wr.heap.size wr W) wr.drew := ⟨⟨wac0, wac1⟩, ⟨hc0, hc1, hc2, hc3, hc4, hc5, hc6, hc7⟩, ⟨hd0, hd1, hd2, hd3⟩, (Below.refl _ _).drew⟩
          have xd := XR.out.drew; have hwl : w1.heap.size < wr.drew.heap.size := has_lt KW.out; have hblw : bb < wr.drew.heap.size := hbl
          clear wac0 wac1 hc0 hc1 hc2 hc3 hc4 hc5 hc6 hc7
          go_region_held3 (fun W : World => (W.cell? ⟨w1.heap.size, 0, none⟩ = some (.slice A1 o.length m) ∧ W.cell? ⟨w1.heap.size, 1, none⟩ = some (.slice A2 c.length m')) ∧ (W.cell? ⟨bb, off + i * 8, none⟩ = some (.int .i64 t.keep) ∧ W.cell? ⟨bb, off + i * 8 + 1, none⟩ = some (.int .i64 t.free) ∧ W.cell? ⟨bb, off + i * 8 + 2, none⟩ = some (.int .i64 t.step) ∧ W.cell? ⟨bb, off + i * 8 + 3, none⟩ = some (.int .i64 t.rate) ∧ W.cell? ⟨bb, off + i * 8 + 4, none⟩ = some (.int .i64 t.cap) ∧ W.cell? ⟨bb, off + i * 8 + 5, none⟩ = some (.int .i64 t.longer) ∧ W.cell? ⟨bb, off + i * 8 + 6, none⟩ = some (.int .i64 t.price) ∧ W.cell? ⟨bb, off + i * 8 + 7, none⟩ = some (.int .i64 t.most)) ∧ (W.cell? ⟨b2, of2 + k * 4, none⟩ = some (.int .i64 x0) ∧ W.cell? ⟨b2, of2 + k * 4 + 1, none⟩ = some (.int .i64 x1) ∧ W.cell? ⟨b2, of2 + k * 4 + 2, none⟩ = some (.int .i64 x2) ∧ W.cell? ⟨b2, of2 + k * 4 + 3, none⟩ = some (.int .i64 x3)) ∧ Below wr.heap.size wr W) (first | assumption) (first
            | (go_at_call 10; go_must (refine (feeI_any wr.drew w1.heap.size A1 A2 m m' o c t x0 x1 x2 x3 hlo' hlc' (by have := xd.size; omega) (SL.later HA.out hz2 xd) (SL.later HC.out hz2 xd)).mono ?_); rintro e wr7 ⟨rfl, hh⟩; rw [HV.out]; have S1 : (fun W : World => (W.cell? ⟨w1.heap.size, 0, none⟩ = some (.slice A1 o.length m) ∧ W.cell? ⟨w1.heap.size, 1, none⟩ = some (.slice A2 c.length m')) ∧ (W.cell? ⟨bb, off + i * 8, none⟩ = some (.int .i64 t.keep) ∧ W.cell? ⟨bb, off + i * 8 + 1, none⟩ = some (.int .i64 t.free) ∧ W.cell? ⟨bb, off + i * 8 + 2, none⟩ = some (.int .i64 t.step) ∧ W.cell? ⟨bb, off + i * 8 + 3, none⟩ = some (.int .i64 t.rate) ∧ W.cell? ⟨bb, off + i * 8 + 4, none⟩ = some (.int .i64 t.cap) ∧ W.cell? ⟨bb, off + i * 8 + 5, none⟩ = some (.int .i64 t.longer) ∧ W.cell? ⟨bb, off + i * 8 + 6, none⟩ = some (.int .i64 t.price) ∧ W.cell? ⟨bb, off + i * 8 + 7, none⟩ = some (.int .i64 t.most)) ∧ (W.cell? ⟨b2, of2 + k * 4, none⟩ = some (.int .i64 x0) ∧ W.cell? ⟨b2, of2 + k * 4 + 1, none⟩ = some (.int .i64 x1) ∧ W.cell? ⟨b2, of2 + k * 4 + 2, none⟩ = some (.int .i64 x2) ∧ W.cell? ⟨b2, of2 + k * 4 + 3, none⟩ = some (.int .i64 x3)) ∧ Below wr.heap.size wr W) wr7 := ⟨⟨(bold hh _ _ hwl).trans S0.1.1, (bold hh _ _ hwl).trans S0.1.2⟩, ⟨(bold hh _ _ hblw).trans S0.2.1.1, (bold hh _ _ hblw).trans S0.2.1.2.1, (bold hh _ _ hblw).trans S0.2.1.2.2.1, (bold hh _ _ hblw).trans S0.2.1.2.2.2.1, (bold hh _ _ hblw).trans S0.2.1.2.2.2.2.1, (bold hh _ _ hblw).trans S0.2.1.2.2.2.2.2.1, (bold hh _ _ hblw).trans S0.2.1.2.2.2.2.2.2.1, (bold hh _ _ hblw).trans S0.2.1.2.2.2.2.2.2.2⟩, ⟨(bold hh _ _ hb2l).trans S0.2.2.1.1, (bold hh _ _ hb2l).trans S0.2.2.1.2.1, (bold hh _ _ hb2l).trans S0.2.2.1.2.2.1, (bold hh _ _ hb2l).trans S0.2.2.1.2.2.2⟩, bthen S0.2.2.2 hh⟩))
          have hb := S1.2.2.2
          have hcs := S1.2.1; obtain ⟨hc0, hc1, hc2, hc3, hc4, hc5, hc6, hc7⟩ := hcs
          have kw := has_call KW.out hb; clear KW; have KW := Lib.hid kw; clear kw
          have xr := bthen XR.out hb; clear XR; have XR := Lib.hid xr; clear xr
          have hbl : bb < wr7.heap.size := by have := hb.size; omega
          clear S0 S1 xd hwl hblw hh
          have mr := Lib.hid (bthen MR.out hb)
          go_wp2_with fail
          go_roundw
          case rel => exact ⟨k + 1, s + v, by omega, by go_num, rfl, by omega, by omega, HN2.out, mr.out⟩
          case measure => simp [intOf]; omega
        · skip
          have hsy : s = y := by have h9 := HSU.out; rw [sum_end (by omega) s] at h9; injection h9
          subst hsy
          have nsy : (s != s) = false := by simp
          obtain ⟨b3, of3, u3, hA3, hb3B, hu3, hd0, hd1, hd2, hd3, hd4, hd5, hd6, hd7⟩ := (tmL.later HT.out hz2 XR.out).at_ (k := n) hnT
          injection hA3 with hA3; injection hA3 with hA3 hA4; subst hA3 hA4
          rw [HNU.out] at hu3; injection hu3 with hu3; subst hu3
          have hbn := HBN.out
          subst hbn
          have hn0 : (0 : Int) ≤ (n : Int) := by omega
          have hn1 : (n : Int) < (T.length : Int) := by omega
          have wac0 := has_cell KW.out 0 rfl; have wac1 := has_cell KW.out 1 rfl
          go_wp2_with fail
          have S0 : (fun W : World => (W.cell? ⟨w1.heap.size, 0, none⟩ = some (.slice A1 o.length m) ∧ W.cell? ⟨w1.heap.size, 1, none⟩ = some (.slice A2 c.length m')) ∧ (W.cell? ⟨bb, off + n * 8, none⟩ = some (.int .i64 u.keep) ∧ W.cell? ⟨bb, off + n * 8 + 1, none⟩ = some (.int .i64 u.free) ∧ W.cell? ⟨bb, off + n * 8 + 2, none⟩ = some (.int .i64 u.step) ∧ W.cell? ⟨bb, off + n * 8 + 3, none⟩ = some (.int .i64 u.rate) ∧ W.cell? ⟨bb, off + n * 8 + 4, none⟩ = some (.int .i64 u.cap) ∧ W.cell? ⟨bb, off + n * 8 + 5, none⟩ = some (.int .i64 u.longer) ∧ W.cell? ⟨bb, off + n * 8 + 6, none⟩ = some (.int .i64 u.price) ∧ W.cell? ⟨bb, off + n * 8 + 7, none⟩ = some (.int .i64 u.most)) ∧ Below wr.heap.size wr W) wr.drew := ⟨⟨wac0, wac1⟩, ⟨hd0, hd1, hd2, hd3, hd4, hd5, hd6, hd7⟩, (Below.refl _ _).drew⟩
          have xd := XR.out.drew; have hwl : w1.heap.size < wr.drew.heap.size := has_lt KW.out; have hblw : bb < wr.drew.heap.size := hbl
          clear wac0 wac1 hd0 hd1 hd2 hd3 hd4 hd5 hd6 hd7
          go_region_held3 (fun W : World => (W.cell? ⟨w1.heap.size, 0, none⟩ = some (.slice A1 o.length m) ∧ W.cell? ⟨w1.heap.size, 1, none⟩ = some (.slice A2 c.length m')) ∧ (W.cell? ⟨bb, off + n * 8, none⟩ = some (.int .i64 u.keep) ∧ W.cell? ⟨bb, off + n * 8 + 1, none⟩ = some (.int .i64 u.free) ∧ W.cell? ⟨bb, off + n * 8 + 2, none⟩ = some (.int .i64 u.step) ∧ W.cell? ⟨bb, off + n * 8 + 3, none⟩ = some (.int .i64 u.rate) ∧ W.cell? ⟨bb, off + n * 8 + 4, none⟩ = some (.int .i64 u.cap) ∧ W.cell? ⟨bb, off + n * 8 + 5, none⟩ = some (.int .i64 u.longer) ∧ W.cell? ⟨bb, off + n * 8 + 6, none⟩ = some (.int .i64 u.price) ∧ W.cell? ⟨bb, off + n * 8 + 7, none⟩ = some (.int .i64 u.most)) ∧ Below wr.heap.size wr W) (first | assumption) (first
            | (go_at_call 9; go_must (refine (billS_any wr.drew w1.heap.size A1 A2 m m' o c u AF cF L hlo' hlc' (by have := xd.size; omega) (SL.later HA.out hz2 xd) (SL.later HC.out hz2 xd) hL' (stL.later HL.out hz2 xd)).mono ?_); rintro e wr7 ⟨rfl, hh⟩; rw [HZB.out]; unfold pairV; have S1 : (fun W : World => (W.cell? ⟨w1.heap.size, 0, none⟩ = some (.slice A1 o.length m) ∧ W.cell? ⟨w1.heap.size, 1, none⟩ = some (.slice A2 c.length m')) ∧ (W.cell? ⟨bb, off + n * 8, none⟩ = some (.int .i64 u.keep) ∧ W.cell? ⟨bb, off + n * 8 + 1, none⟩ = some (.int .i64 u.free) ∧ W.cell? ⟨bb, off + n * 8 + 2, none⟩ = some (.int .i64 u.step) ∧ W.cell? ⟨bb, off + n * 8 + 3, none⟩ = some (.int .i64 u.rate) ∧ W.cell? ⟨bb, off + n * 8 + 4, none⟩ = some (.int .i64 u.cap) ∧ W.cell? ⟨bb, off + n * 8 + 5, none⟩ = some (.int .i64 u.longer) ∧ W.cell? ⟨bb, off + n * 8 + 6, none⟩ = some (.int .i64 u.price) ∧ W.cell? ⟨bb, off + n * 8 + 7, none⟩ = some (.int .i64 u.most)) ∧ Below wr.heap.size wr W) wr7 := ⟨⟨(bold hh _ _ hwl).trans S0.1.1, (bold hh _ _ hwl).trans S0.1.2⟩, ⟨(bold hh _ _ hblw).trans S0.2.1.1, (bold hh _ _ hblw).trans S0.2.1.2.1, (bold hh _ _ hblw).trans S0.2.1.2.2.1, (bold hh _ _ hblw).trans S0.2.1.2.2.2.1, (bold hh _ _ hblw).trans S0.2.1.2.2.2.2.1, (bold hh _ _ hblw).trans S0.2.1.2.2.2.2.2.1, (bold hh _ _ hblw).trans S0.2.1.2.2.2.2.2.2.1, (bold hh _ _ hblw).trans S0.2.1.2.2.2.2.2.2.2⟩, bthen S0.2.2 hh⟩))
          have hb := S1.2.2
          have hds := S1.2.1; obtain ⟨hd0, hd1, hd2, hd3, hd4, hd5, hd6, hd7⟩ := hds
          have kw := has_call KW.out hb; clear KW; have KW := Lib.hid kw; clear kw
          have xr := bthen XR.out hb; clear XR; have XR := Lib.hid xr; clear xr
          have hbl : bb < wr7.heap.size := by have := hb.size; omega
          clear S0 S1 xd hwl hblw hh
          have lr := Lib.hid (bthen LR.out hb)
          clear hd0 hd1 hd2 hd3 hd4 hd5 hd6 hd7
          by_cases hze : z = s
          · have hni := HZI.out hze
            have hni2 : ¬ ((i : Int) < (n : Int)) := by omega
            have hzb2 : (z == s) = true := by rw [hze]; simp
            clear hni
            go_wp2_with fail
            go_roundw
            case rel => exact ⟨i + 1, by omega, by go_num, lr.out⟩
            case measure => simp [intOf]; omega
          · have hzb2 : (z == s) = false := by simpa using hze
            go_wp2_with fail
            go_roundw
            case rel => exact ⟨i + 1, by omega, by go_num, lr.out⟩
            case measure => simp [intOf]; omega
end Go.Proofs.Ytfkhhefphbhppaa
