/- Chapter 6: contracts of NextRise, by the program and by the model (gen_feeb.py). -/
import Derived.Test.YtpooffekjealhaaFeeC
import Derived.Deep.RegionHeld3
import Derived.Deep.DeepMust
import Derived.WalkLawsBesides
namespace Go.Proofs.Ytpooffekjealhaa
open Go.RowKit
set_option linter.unusedVariables false
set_option maxRecDepth 100000 in
set_option maxHeartbeats 4000000 in
theorem nextI_any (w : World) (B : Nat) (A A' : Option Addr) (n n' : Nat) (o c : List (Int × Int)) (t : Tm) (z a b e : Int) (ho : o.length ≤ maxLen) (hc : c.length ≤ maxLen) (hB : B ≤ w.heap.size) (hS : SL w B A o) (hS' : SL w B A' c) : Calls Try.prog 20 #[.agg #[.slice A o.length n, .slice A' c.length n'], .agg #[.int .i64 t.keep, .int .i64 t.free, .int .i64 t.step, .int .i64 t.rate, .int .i64 t.cap, .int .i64 t.longer, .int .i64 t.price, .int .i64 t.most], .int .i64 z, .int .i64 a, .int .i64 b, .int .i64 e] w fun r w' => r = .returned (pairV (nextB o c t z a b e)) ∧ Below w.heap.size w w' := by
  have HS := Lib.hid hS; clear hS
  have HS' := Lib.hid hS'; clear hS'
  rcases fee_range o c t z a b e with ⟨hok, hf0, hf1⟩ | ⟨hok, hf⟩
  rotate_left
  · have HN := Lib.hid hok; have HF := Lib.hid hf; clear hok hf
    go_enter Try.func20, Try.ntmps20
    go_wp2_with fail
    generalize hX : (w.alloc (.cells #[.slice A o.length n, .slice A' c.length n'] 26)) = w1
    have hb : Below w.heap.size w w1 := by rw [← hX]; exact balloc _ _
    have hk : Has w1 w.heap.size 26 #[.slice A o.length n, .slice A' c.length n'] := by rw [← hX]; exact has_new _ _ _
    have hzw1 : w1.heap.size = w.heap.size + 1 := by rw [← hX]; simp
    clear hX
    have zb := hb; clear hb
    have wa := hk; clear hk
    generalize hX : (w1.alloc (.cells #[.int .i64 t.keep, .int .i64 t.free, .int .i64 t.step, .int .i64 t.rate, .int .i64 t.cap, .int .i64 t.longer, .int .i64 t.price, .int .i64 t.most] 29)) = w2
    have hb : Below w1.heap.size w1 w2 := by rw [← hX]; exact balloc _ _
    have hk : Has w2 w1.heap.size 29 #[.int .i64 t.keep, .int .i64 t.free, .int .i64 t.step, .int .i64 t.rate, .int .i64 t.cap, .int .i64 t.longer, .int .i64 t.price, .int .i64 t.most] := by rw [← hX]; exact has_new _ _ _
    have hzw2 : w2.heap.size = w.heap.size + 2 := by rw [← hX]; simp [hzw1]
    clear hX
    rw [hzw1] at hk
    replace wa := has_call wa hb
    replace zb := bthen zb hb; clear hb
    have ta := hk; clear hk
    clear hzw1 hzw2
    have wac0 := has_cell wa 0 rfl; have wac1 := has_cell wa 1 rfl
    have walt := has_lt wa
    have tac0 := has_cell ta 0 rfl; have tac1 := has_cell ta 1 rfl; have tac2 := has_cell ta 2 rfl; have tac3 := has_cell ta 3 rfl; have tac4 := has_cell ta 4 rfl; have tac5 := has_cell ta 5 rfl; have tac6 := has_cell ta 6 rfl; have tac7 := has_cell ta 7 rfl
    have talt := has_lt ta
    have WAH := Lib.hid wa; clear wa
    have TAH := Lib.hid ta; clear ta
    have ZB := Lib.hid zb; clear zb
    go_wp2_with fail
    clear wac0 wac1 walt tac0 tac1 tac2 tac3 tac4 tac5 tac6 tac7 talt
    have wa := WAH.out; clear WAH
    have ta := TAH.out; clear TAH
    have zb := ZB.out; clear ZB
    refine (feeI_any _ B A A' n n' o c t z a b e ho hc (by have := zb.size; omega) (HS.out.later hB zb) (HS'.out.later hB zb)).mono ?_
    rintro e w3 ⟨rfl, hb⟩
    rw [HF.out]
    replace wa := has_call wa hb
    replace ta := has_call ta hb
    replace zb := bthen zb hb; clear hb
    have wac0 := has_cell wa 0 rfl; have wac1 := has_cell wa 1 rfl
    have walt := has_lt wa
    have tac0 := has_cell ta 0 rfl; have tac1 := has_cell ta 1 rfl; have tac2 := has_cell ta 2 rfl; have tac3 := has_cell ta 3 rfl; have tac4 := has_cell ta 4 rfl; have tac5 := has_cell ta 5 rfl; have tac6 := has_cell ta 6 rfl; have tac7 := has_cell ta 7 rfl
    have talt := has_lt ta
    have WAH := Lib.hid wa; clear wa
    have TAH := Lib.hid ta; clear ta
    have ZB := Lib.hid zb; clear zb
    go_wp2_with fail
    clear wac0 wac1 walt tac0 tac1 tac2 tac3 tac4 tac5 tac6 tac7 talt
    have wa := WAH.out; clear WAH
    have ta := TAH.out; clear TAH
    have zb := ZB.out; clear ZB
    go_ret2
    exact ⟨ret_none (by rw [nextB, if_neg HN.out]), zb⟩
  have hnx := next_is hok
  obtain ⟨hw, ht, hz, ha, hb9, hab, he⟩ := id hok
  have hr := hours_range o c a b
  obtain ⟨h, hh⟩ : ∃ h, hoursB o c a b = h := ⟨_, rfl⟩
  rw [hh] at hr hnx
  have HH := Lib.hid hh; clear hh
  obtain ⟨hr0, hr1⟩ := hr
  obtain ⟨v, hv⟩ : ∃ v, feeB o c t z a b e = v := ⟨_, rfl⟩
  rw [hv] at hf0 hf1
  have HF := Lib.hid hv; clear hv
  have hv1 : (v == -1) = false := by simp; omega
  obtain ⟨t1, t2, t3, t4, t5, t6, t7, t8⟩ := (terms_iff t).1 ht
  have ar := at_range ht hr0 hr1
  obtain ⟨ar0, ar1, ar2, ar3⟩ := ar
  obtain ⟨m, hm⟩ : ∃ m, t.free + stepsB t h * t.step + 1 = m := ⟨_, rfl⟩
  have hat : atB t h = m := hm
  rw [hat] at ar2 ar3 hnx
  have Hat := Lib.hid hat; clear hat
  have hw1 : IntKind.i64.wrap (stepsB t h * t.step) = stepsB t h * t.step := IntWalk.i64_in _ (by omega)
  have hw2 : IntKind.i64.wrap (t.free + stepsB t h * t.step) = t.free + stepsB t h * t.step := IntWalk.i64_in _ (by omega)
  have hw3 : IntKind.i64.wrap (t.free + stepsB t h * t.step + 1) = m := (IntWalk.i64_in _ (by omega)).trans hm
  have HT := Lib.hid ht; clear ht
  obtain ⟨hz0, hz1⟩ := hz
  clear hok hw ha hb9
  by_cases hs : storB t z m = storB t z h
  · have HV := Lib.hid (hnx.trans (if_pos hs))
    have hse : (storB t z m == storB t z h) = true := by rw [hs]; simp
    clear hs hnx
    go_enter Try.func20, Try.ntmps20
    go_wp2_with fail
    generalize hX : (w.alloc (.cells #[.slice A o.length n, .slice A' c.length n'] 26)) = w1
    have hb : Below w.heap.size w w1 := by rw [← hX]; exact balloc _ _
    have hk : Has w1 w.heap.size 26 #[.slice A o.length n, .slice A' c.length n'] := by rw [← hX]; exact has_new _ _ _
    have hzw1 : w1.heap.size = w.heap.size + 1 := by rw [← hX]; simp
    clear hX
    have zb := hb; clear hb
    have wa := hk; clear hk
    generalize hX : (w1.alloc (.cells #[.int .i64 t.keep, .int .i64 t.free, .int .i64 t.step, .int .i64 t.rate, .int .i64 t.cap, .int .i64 t.longer, .int .i64 t.price, .int .i64 t.most] 29)) = w2
    have hb : Below w1.heap.size w1 w2 := by rw [← hX]; exact balloc _ _
    have hk : Has w2 w1.heap.size 29 #[.int .i64 t.keep, .int .i64 t.free, .int .i64 t.step, .int .i64 t.rate, .int .i64 t.cap, .int .i64 t.longer, .int .i64 t.price, .int .i64 t.most] := by rw [← hX]; exact has_new _ _ _
    have hzw2 : w2.heap.size = w.heap.size + 2 := by rw [← hX]; simp [hzw1]
    clear hX
    rw [hzw1] at hk
    replace wa := has_call wa hb
    replace zb := bthen zb hb; clear hb
    have ta := hk; clear hk
    clear hzw1 hzw2
    have wac0 := has_cell wa 0 rfl; have wac1 := has_cell wa 1 rfl
    have walt := has_lt wa
    have tac0 := has_cell ta 0 rfl; have tac1 := has_cell ta 1 rfl; have tac2 := has_cell ta 2 rfl; have tac3 := has_cell ta 3 rfl; have tac4 := has_cell ta 4 rfl; have tac5 := has_cell ta 5 rfl; have tac6 := has_cell ta 6 rfl; have tac7 := has_cell ta 7 rfl
    have talt := has_lt ta
    have WAH := Lib.hid wa; clear wa
    have TAH := Lib.hid ta; clear ta
    have ZB := Lib.hid zb; clear zb
    go_wp2_with fail
    clear wac0 wac1 walt tac0 tac1 tac2 tac3 tac4 tac5 tac6 tac7 talt
    have wa := WAH.out; clear WAH
    have ta := TAH.out; clear TAH
    have zb := ZB.out; clear ZB
    refine (feeI_any _ B A A' n n' o c t z a b e ho hc (by have := zb.size; omega) (HS.out.later hB zb) (HS'.out.later hB zb)).mono ?_
    rintro e w3 ⟨rfl, hb⟩
    rw [HF.out]
    replace wa := has_call wa hb
    replace ta := has_call ta hb
    replace zb := bthen zb hb; clear hb
    have wac0 := has_cell wa 0 rfl; have wac1 := has_cell wa 1 rfl
    have walt := has_lt wa
    have tac0 := has_cell ta 0 rfl; have tac1 := has_cell ta 1 rfl; have tac2 := has_cell ta 2 rfl; have tac3 := has_cell ta 3 rfl; have tac4 := has_cell ta 4 rfl; have tac5 := has_cell ta 5 rfl; have tac6 := has_cell ta 6 rfl; have tac7 := has_cell ta 7 rfl
    have talt := has_lt ta
    have WAH := Lib.hid wa; clear wa
    have TAH := Lib.hid ta; clear ta
    have ZB := Lib.hid zb; clear zb
    go_wp2_with fail
    clear wac0 wac1 walt tac0 tac1 tac2 tac3 tac4 tac5 tac6 tac7 talt
    have wa := WAH.out; clear WAH
    have ta := TAH.out; clear TAH
    have zb := ZB.out; clear ZB
    refine (tariffOf_any _ t z).mono ?_
    rintro r w4 ⟨b1, b2, rfl, hC, hb⟩
    replace wa := has_call wa hb
    replace ta := has_call ta hb
    replace zb := bthen zb hb; clear hb
    have HC := Lib.hid hC; clear hC
    have wac0 := has_cell wa 0 rfl; have wac1 := has_cell wa 1 rfl
    have walt := has_lt wa
    have tac0 := has_cell ta 0 rfl; have tac1 := has_cell ta 1 rfl; have tac2 := has_cell ta 2 rfl; have tac3 := has_cell ta 3 rfl; have tac4 := has_cell ta 4 rfl; have tac5 := has_cell ta 5 rfl; have tac6 := has_cell ta 6 rfl; have tac7 := has_cell ta 7 rfl
    have talt := has_lt ta
    have WAH := Lib.hid wa; clear wa
    have TAH := Lib.hid ta; clear ta
    have ZB := Lib.hid zb; clear zb
    go_wp2_with fail
    clear wac0 wac1 walt tac0 tac1 tac2 tac3 tac4 tac5 tac6 tac7 talt
    have wa := WAH.out; clear WAH
    have ta := TAH.out; clear TAH
    have zb := ZB.out; clear ZB
    refine (hoursI_any _ B A A' n n' o c a b ho hc (by have := zb.size; omega) (HS.out.later hB zb) (HS'.out.later hB zb)).mono ?_
    rintro e w5 ⟨rfl, hb⟩
    rw [HH.out]
    have cc9 := Caught6.call HC.out hb; clear HC; have HC := Lib.hid cc9; clear cc9
    replace wa := has_call wa hb
    replace ta := has_call ta hb
    replace zb := bthen zb hb; clear hb
    have wac0 := has_cell wa 0 rfl; have wac1 := has_cell wa 1 rfl
    have walt := has_lt wa
    have tac0 := has_cell ta 0 rfl; have tac1 := has_cell ta 1 rfl; have tac2 := has_cell ta 2 rfl; have tac3 := has_cell ta 3 rfl; have tac4 := has_cell ta 4 rfl; have tac5 := has_cell ta 5 rfl; have tac6 := has_cell ta 6 rfl; have tac7 := has_cell ta 7 rfl
    have talt := has_lt ta
    have WAH := Lib.hid wa; clear wa
    have TAH := Lib.hid ta; clear ta
    have ZB := Lib.hid zb; clear zb
    try go_wp2_with fail
    have S0 : (fun W : World => ((W.cell? ⟨w.heap.size, 0, none⟩ = some (.slice A o.length n) ∧ W.cell? ⟨w.heap.size, 1, none⟩ = some (.slice A' c.length n')) ∧ (W.cell? ⟨w.heap.size + 1, 0, none⟩ = some (.int .i64 t.keep) ∧ W.cell? ⟨w.heap.size + 1, 1, none⟩ = some (.int .i64 t.free) ∧ W.cell? ⟨w.heap.size + 1, 2, none⟩ = some (.int .i64 t.step) ∧ W.cell? ⟨w.heap.size + 1, 3, none⟩ = some (.int .i64 t.rate) ∧ W.cell? ⟨w.heap.size + 1, 4, none⟩ = some (.int .i64 t.cap) ∧ W.cell? ⟨w.heap.size + 1, 5, none⟩ = some (.int .i64 t.longer) ∧ W.cell? ⟨w.heap.size + 1, 6, none⟩ = some (.int .i64 t.price) ∧ W.cell? ⟨w.heap.size + 1, 7, none⟩ = some (.int .i64 t.most))) ∧ Caught6 W b1 b2 t z ∧ Below w5.heap.size w5 W) w5.drew := ⟨⟨⟨wac0, wac1⟩, ⟨tac0, tac1, tac2, tac3, tac4, tac5, tac6, tac7⟩⟩, HC.out, (Below.refl _ _).drew⟩
    have hzd : w.heap.size + 1 < w5.drew.heap.size := talt
    clear wac0 wac1 walt tac0 tac1 tac2 tac3 tac4 tac5 tac6 tac7 talt
    go_region_held3 (fun W : World => ((W.cell? ⟨w.heap.size, 0, none⟩ = some (.slice A o.length n) ∧ W.cell? ⟨w.heap.size, 1, none⟩ = some (.slice A' c.length n')) ∧ (W.cell? ⟨w.heap.size + 1, 0, none⟩ = some (.int .i64 t.keep) ∧ W.cell? ⟨w.heap.size + 1, 1, none⟩ = some (.int .i64 t.free) ∧ W.cell? ⟨w.heap.size + 1, 2, none⟩ = some (.int .i64 t.step) ∧ W.cell? ⟨w.heap.size + 1, 3, none⟩ = some (.int .i64 t.rate) ∧ W.cell? ⟨w.heap.size + 1, 4, none⟩ = some (.int .i64 t.cap) ∧ W.cell? ⟨w.heap.size + 1, 5, none⟩ = some (.int .i64 t.longer) ∧ W.cell? ⟨w.heap.size + 1, 6, none⟩ = some (.int .i64 t.price) ∧ W.cell? ⟨w.heap.size + 1, 7, none⟩ = some (.int .i64 t.most))) ∧ Caught6 W b1 b2 t z ∧ Below w5.heap.size w5 W) (first | assumption) (first
      | (go_at_call 45; go_must (refine (stepsI_any _ t h HT.out ⟨by omega, by omega⟩).mono ?_); rintro r wh ⟨rfl, hh⟩; have S1 : (fun W : World => ((W.cell? ⟨w.heap.size, 0, none⟩ = some (.slice A o.length n) ∧ W.cell? ⟨w.heap.size, 1, none⟩ = some (.slice A' c.length n')) ∧ (W.cell? ⟨w.heap.size + 1, 0, none⟩ = some (.int .i64 t.keep) ∧ W.cell? ⟨w.heap.size + 1, 1, none⟩ = some (.int .i64 t.free) ∧ W.cell? ⟨w.heap.size + 1, 2, none⟩ = some (.int .i64 t.step) ∧ W.cell? ⟨w.heap.size + 1, 3, none⟩ = some (.int .i64 t.rate) ∧ W.cell? ⟨w.heap.size + 1, 4, none⟩ = some (.int .i64 t.cap) ∧ W.cell? ⟨w.heap.size + 1, 5, none⟩ = some (.int .i64 t.longer) ∧ W.cell? ⟨w.heap.size + 1, 6, none⟩ = some (.int .i64 t.price) ∧ W.cell? ⟨w.heap.size + 1, 7, none⟩ = some (.int .i64 t.most))) ∧ Caught6 W b1 b2 t z ∧ Below w5.heap.size w5 W) wh := ⟨⟨⟨(bold hh _ _ (by omega)).trans S0.1.1.1, (bold hh _ _ (by omega)).trans S0.1.1.2⟩, ⟨(bold hh _ _ (by omega)).trans S0.1.2.1, (bold hh _ _ (by omega)).trans S0.1.2.2.1, (bold hh _ _ (by omega)).trans S0.1.2.2.2.1, (bold hh _ _ (by omega)).trans S0.1.2.2.2.2.1, (bold hh _ _ (by omega)).trans S0.1.2.2.2.2.2.1, (bold hh _ _ (by omega)).trans S0.1.2.2.2.2.2.2.1, (bold hh _ _ (by omega)).trans S0.1.2.2.2.2.2.2.2.1, (bold hh _ _ (by omega)).trans S0.1.2.2.2.2.2.2.2.2⟩⟩, Caught6.call (show Caught6 w5.drew b1 b2 t z from S0.2.1) hh, bthen S0.2.2 hh⟩))
    have hb : Below w5.heap.size w5 wh := S1.2.2
    clear S0 S1 hzd
    have wa := WAH.out; clear WAH
    have ta := TAH.out; clear TAH
    have zb := ZB.out; clear ZB
    have cc9 := Caught6.call HC.out hb; clear HC; have HC := Lib.hid cc9; clear cc9
    replace wa := has_call wa hb
    replace ta := has_call ta hb
    replace zb := bthen zb hb; clear hb
    have wac0 := has_cell wa 0 rfl; have wac1 := has_cell wa 1 rfl
    have walt := has_lt wa
    have tac0 := has_cell ta 0 rfl; have tac1 := has_cell ta 1 rfl; have tac2 := has_cell ta 2 rfl; have tac3 := has_cell ta 3 rfl; have tac4 := has_cell ta 4 rfl; have tac5 := has_cell ta 5 rfl; have tac6 := has_cell ta 6 rfl; have tac7 := has_cell ta 7 rfl
    have talt := has_lt ta
    have WAH := Lib.hid wa; clear wa
    have TAH := Lib.hid ta; clear ta
    have ZB := Lib.hid zb; clear zb
    go_wp2_with fail
    clear wac0 wac1 walt tac0 tac1 tac2 tac3 tac4 tac5 tac6 tac7 talt
    have wa := WAH.out; clear WAH
    have ta := TAH.out; clear TAH
    have zb := ZB.out; clear ZB
    refine (tariff_any _ b1 b2 t z m ⟨by omega, by omega⟩ HT.out ⟨by omega, by omega⟩ HC.out).mono ?_
    rintro e w6 ⟨rfl, hb⟩
    have cc9 := Caught6.call HC.out hb; clear HC; have HC := Lib.hid cc9; clear cc9
    replace wa := has_call wa hb
    replace ta := has_call ta hb
    replace zb := bthen zb hb; clear hb
    have wac0 := has_cell wa 0 rfl; have wac1 := has_cell wa 1 rfl
    have walt := has_lt wa
    have tac0 := has_cell ta 0 rfl; have tac1 := has_cell ta 1 rfl; have tac2 := has_cell ta 2 rfl; have tac3 := has_cell ta 3 rfl; have tac4 := has_cell ta 4 rfl; have tac5 := has_cell ta 5 rfl; have tac6 := has_cell ta 6 rfl; have tac7 := has_cell ta 7 rfl
    have talt := has_lt ta
    have WAH := Lib.hid wa; clear wa
    have TAH := Lib.hid ta; clear ta
    have ZB := Lib.hid zb; clear zb
    go_wp2_with fail
    clear wac0 wac1 walt tac0 tac1 tac2 tac3 tac4 tac5 tac6 tac7 talt
    have wa := WAH.out; clear WAH
    have ta := TAH.out; clear TAH
    have zb := ZB.out; clear ZB
    refine (tariff_any _ b1 b2 t z h ⟨by omega, by omega⟩ HT.out ⟨by omega, by omega⟩ HC.out).mono ?_
    rintro e w7 ⟨rfl, hb⟩
    have cc9 := Caught6.call HC.out hb; clear HC; have HC := Lib.hid cc9; clear cc9
    replace wa := has_call wa hb
    replace ta := has_call ta hb
    replace zb := bthen zb hb; clear hb
    have wac0 := has_cell wa 0 rfl; have wac1 := has_cell wa 1 rfl
    have walt := has_lt wa
    have tac0 := has_cell ta 0 rfl; have tac1 := has_cell ta 1 rfl; have tac2 := has_cell ta 2 rfl; have tac3 := has_cell ta 3 rfl; have tac4 := has_cell ta 4 rfl; have tac5 := has_cell ta 5 rfl; have tac6 := has_cell ta 6 rfl; have tac7 := has_cell ta 7 rfl
    have talt := has_lt ta
    have WAH := Lib.hid wa; clear wa
    have TAH := Lib.hid ta; clear ta
    have ZB := Lib.hid zb; clear zb
    go_wp2_with fail
    clear wac0 wac1 walt tac0 tac1 tac2 tac3 tac4 tac5 tac6 tac7 talt
    have wa := WAH.out; clear WAH
    have ta := TAH.out; clear TAH
    have zb := ZB.out; clear ZB
    go_ret2
    exact ⟨ret_none HV.out, zb⟩
  have HV := Lib.hid (hnx.trans (if_neg hs))
  have hse : (storB t z m == storB t z h) = false := by simpa using hs
  clear hs hnx
  obtain ⟨q, hq⟩ : ∃ q, afterB o c a m = q := ⟨_, rfl⟩
  have Hq := Lib.hid hq; clear hq
  cases q with
  | none =>
    go_enter Try.func20, Try.ntmps20
    go_wp2_with fail
    generalize hX : (w.alloc (.cells #[.slice A o.length n, .slice A' c.length n'] 26)) = w1
    have hb : Below w.heap.size w w1 := by rw [← hX]; exact balloc _ _
    have hk : Has w1 w.heap.size 26 #[.slice A o.length n, .slice A' c.length n'] := by rw [← hX]; exact has_new _ _ _
    have hzw1 : w1.heap.size = w.heap.size + 1 := by rw [← hX]; simp
    clear hX
    have zb := hb; clear hb
    have wa := hk; clear hk
    generalize hX : (w1.alloc (.cells #[.int .i64 t.keep, .int .i64 t.free, .int .i64 t.step, .int .i64 t.rate, .int .i64 t.cap, .int .i64 t.longer, .int .i64 t.price, .int .i64 t.most] 29)) = w2
    have hb : Below w1.heap.size w1 w2 := by rw [← hX]; exact balloc _ _
    have hk : Has w2 w1.heap.size 29 #[.int .i64 t.keep, .int .i64 t.free, .int .i64 t.step, .int .i64 t.rate, .int .i64 t.cap, .int .i64 t.longer, .int .i64 t.price, .int .i64 t.most] := by rw [← hX]; exact has_new _ _ _
    have hzw2 : w2.heap.size = w.heap.size + 2 := by rw [← hX]; simp [hzw1]
    clear hX
    rw [hzw1] at hk
    replace wa := has_call wa hb
    replace zb := bthen zb hb; clear hb
    have ta := hk; clear hk
    clear hzw1 hzw2
    have wac0 := has_cell wa 0 rfl; have wac1 := has_cell wa 1 rfl
    have walt := has_lt wa
    have tac0 := has_cell ta 0 rfl; have tac1 := has_cell ta 1 rfl; have tac2 := has_cell ta 2 rfl; have tac3 := has_cell ta 3 rfl; have tac4 := has_cell ta 4 rfl; have tac5 := has_cell ta 5 rfl; have tac6 := has_cell ta 6 rfl; have tac7 := has_cell ta 7 rfl
    have talt := has_lt ta
    have WAH := Lib.hid wa; clear wa
    have TAH := Lib.hid ta; clear ta
    have ZB := Lib.hid zb; clear zb
    go_wp2_with fail
    clear wac0 wac1 walt tac0 tac1 tac2 tac3 tac4 tac5 tac6 tac7 talt
    have wa := WAH.out; clear WAH
    have ta := TAH.out; clear TAH
    have zb := ZB.out; clear ZB
    refine (feeI_any _ B A A' n n' o c t z a b e ho hc (by have := zb.size; omega) (HS.out.later hB zb) (HS'.out.later hB zb)).mono ?_
    rintro e w3 ⟨rfl, hb⟩
    rw [HF.out]
    replace wa := has_call wa hb
    replace ta := has_call ta hb
    replace zb := bthen zb hb; clear hb
    have wac0 := has_cell wa 0 rfl; have wac1 := has_cell wa 1 rfl
    have walt := has_lt wa
    have tac0 := has_cell ta 0 rfl; have tac1 := has_cell ta 1 rfl; have tac2 := has_cell ta 2 rfl; have tac3 := has_cell ta 3 rfl; have tac4 := has_cell ta 4 rfl; have tac5 := has_cell ta 5 rfl; have tac6 := has_cell ta 6 rfl; have tac7 := has_cell ta 7 rfl
    have talt := has_lt ta
    have WAH := Lib.hid wa; clear wa
    have TAH := Lib.hid ta; clear ta
    have ZB := Lib.hid zb; clear zb
    go_wp2_with fail
    clear wac0 wac1 walt tac0 tac1 tac2 tac3 tac4 tac5 tac6 tac7 talt
    have wa := WAH.out; clear WAH
    have ta := TAH.out; clear TAH
    have zb := ZB.out; clear ZB
    refine (tariffOf_any _ t z).mono ?_
    rintro r w4 ⟨b1, b2, rfl, hC, hb⟩
    replace wa := has_call wa hb
    replace ta := has_call ta hb
    replace zb := bthen zb hb; clear hb
    have HC := Lib.hid hC; clear hC
    have wac0 := has_cell wa 0 rfl; have wac1 := has_cell wa 1 rfl
    have walt := has_lt wa
    have tac0 := has_cell ta 0 rfl; have tac1 := has_cell ta 1 rfl; have tac2 := has_cell ta 2 rfl; have tac3 := has_cell ta 3 rfl; have tac4 := has_cell ta 4 rfl; have tac5 := has_cell ta 5 rfl; have tac6 := has_cell ta 6 rfl; have tac7 := has_cell ta 7 rfl
    have talt := has_lt ta
    have WAH := Lib.hid wa; clear wa
    have TAH := Lib.hid ta; clear ta
    have ZB := Lib.hid zb; clear zb
    go_wp2_with fail
    clear wac0 wac1 walt tac0 tac1 tac2 tac3 tac4 tac5 tac6 tac7 talt
    have wa := WAH.out; clear WAH
    have ta := TAH.out; clear TAH
    have zb := ZB.out; clear ZB
    refine (hoursI_any _ B A A' n n' o c a b ho hc (by have := zb.size; omega) (HS.out.later hB zb) (HS'.out.later hB zb)).mono ?_
    rintro e w5 ⟨rfl, hb⟩
    rw [HH.out]
    have cc9 := Caught6.call HC.out hb; clear HC; have HC := Lib.hid cc9; clear cc9
    replace wa := has_call wa hb
    replace ta := has_call ta hb
    replace zb := bthen zb hb; clear hb
    have wac0 := has_cell wa 0 rfl; have wac1 := has_cell wa 1 rfl
    have walt := has_lt wa
    have tac0 := has_cell ta 0 rfl; have tac1 := has_cell ta 1 rfl; have tac2 := has_cell ta 2 rfl; have tac3 := has_cell ta 3 rfl; have tac4 := has_cell ta 4 rfl; have tac5 := has_cell ta 5 rfl; have tac6 := has_cell ta 6 rfl; have tac7 := has_cell ta 7 rfl
    have talt := has_lt ta
    have WAH := Lib.hid wa; clear wa
    have TAH := Lib.hid ta; clear ta
    have ZB := Lib.hid zb; clear zb
    try go_wp2_with fail
    have S0 : (fun W : World => ((W.cell? ⟨w.heap.size, 0, none⟩ = some (.slice A o.length n) ∧ W.cell? ⟨w.heap.size, 1, none⟩ = some (.slice A' c.length n')) ∧ (W.cell? ⟨w.heap.size + 1, 0, none⟩ = some (.int .i64 t.keep) ∧ W.cell? ⟨w.heap.size + 1, 1, none⟩ = some (.int .i64 t.free) ∧ W.cell? ⟨w.heap.size + 1, 2, none⟩ = some (.int .i64 t.step) ∧ W.cell? ⟨w.heap.size + 1, 3, none⟩ = some (.int .i64 t.rate) ∧ W.cell? ⟨w.heap.size + 1, 4, none⟩ = some (.int .i64 t.cap) ∧ W.cell? ⟨w.heap.size + 1, 5, none⟩ = some (.int .i64 t.longer) ∧ W.cell? ⟨w.heap.size + 1, 6, none⟩ = some (.int .i64 t.price) ∧ W.cell? ⟨w.heap.size + 1, 7, none⟩ = some (.int .i64 t.most))) ∧ Caught6 W b1 b2 t z ∧ Below w5.heap.size w5 W) w5.drew := ⟨⟨⟨wac0, wac1⟩, ⟨tac0, tac1, tac2, tac3, tac4, tac5, tac6, tac7⟩⟩, HC.out, (Below.refl _ _).drew⟩
    have hzd : w.heap.size + 1 < w5.drew.heap.size := talt
    clear wac0 wac1 walt tac0 tac1 tac2 tac3 tac4 tac5 tac6 tac7 talt
    go_region_held3 (fun W : World => ((W.cell? ⟨w.heap.size, 0, none⟩ = some (.slice A o.length n) ∧ W.cell? ⟨w.heap.size, 1, none⟩ = some (.slice A' c.length n')) ∧ (W.cell? ⟨w.heap.size + 1, 0, none⟩ = some (.int .i64 t.keep) ∧ W.cell? ⟨w.heap.size + 1, 1, none⟩ = some (.int .i64 t.free) ∧ W.cell? ⟨w.heap.size + 1, 2, none⟩ = some (.int .i64 t.step) ∧ W.cell? ⟨w.heap.size + 1, 3, none⟩ = some (.int .i64 t.rate) ∧ W.cell? ⟨w.heap.size + 1, 4, none⟩ = some (.int .i64 t.cap) ∧ W.cell? ⟨w.heap.size + 1, 5, none⟩ = some (.int .i64 t.longer) ∧ W.cell? ⟨w.heap.size + 1, 6, none⟩ = some (.int .i64 t.price) ∧ W.cell? ⟨w.heap.size + 1, 7, none⟩ = some (.int .i64 t.most))) ∧ Caught6 W b1 b2 t z ∧ Below w5.heap.size w5 W) (first | assumption) (first
      | (go_at_call 45; go_must (refine (stepsI_any _ t h HT.out ⟨by omega, by omega⟩).mono ?_); rintro r wh ⟨rfl, hh⟩; have S1 : (fun W : World => ((W.cell? ⟨w.heap.size, 0, none⟩ = some (.slice A o.length n) ∧ W.cell? ⟨w.heap.size, 1, none⟩ = some (.slice A' c.length n')) ∧ (W.cell? ⟨w.heap.size + 1, 0, none⟩ = some (.int .i64 t.keep) ∧ W.cell? ⟨w.heap.size + 1, 1, none⟩ = some (.int .i64 t.free) ∧ W.cell? ⟨w.heap.size + 1, 2, none⟩ = some (.int .i64 t.step) ∧ W.cell? ⟨w.heap.size + 1, 3, none⟩ = some (.int .i64 t.rate) ∧ W.cell? ⟨w.heap.size + 1, 4, none⟩ = some (.int .i64 t.cap) ∧ W.cell? ⟨w.heap.size + 1, 5, none⟩ = some (.int .i64 t.longer) ∧ W.cell? ⟨w.heap.size + 1, 6, none⟩ = some (.int .i64 t.price) ∧ W.cell? ⟨w.heap.size + 1, 7, none⟩ = some (.int .i64 t.most))) ∧ Caught6 W b1 b2 t z ∧ Below w5.heap.size w5 W) wh := ⟨⟨⟨(bold hh _ _ (by omega)).trans S0.1.1.1, (bold hh _ _ (by omega)).trans S0.1.1.2⟩, ⟨(bold hh _ _ (by omega)).trans S0.1.2.1, (bold hh _ _ (by omega)).trans S0.1.2.2.1, (bold hh _ _ (by omega)).trans S0.1.2.2.2.1, (bold hh _ _ (by omega)).trans S0.1.2.2.2.2.1, (bold hh _ _ (by omega)).trans S0.1.2.2.2.2.2.1, (bold hh _ _ (by omega)).trans S0.1.2.2.2.2.2.2.1, (bold hh _ _ (by omega)).trans S0.1.2.2.2.2.2.2.2.1, (bold hh _ _ (by omega)).trans S0.1.2.2.2.2.2.2.2.2⟩⟩, Caught6.call (show Caught6 w5.drew b1 b2 t z from S0.2.1) hh, bthen S0.2.2 hh⟩))
    have hb : Below w5.heap.size w5 wh := S1.2.2
    clear S0 S1 hzd
    have wa := WAH.out; clear WAH
    have ta := TAH.out; clear TAH
    have zb := ZB.out; clear ZB
    have cc9 := Caught6.call HC.out hb; clear HC; have HC := Lib.hid cc9; clear cc9
    replace wa := has_call wa hb
    replace ta := has_call ta hb
    replace zb := bthen zb hb; clear hb
    have wac0 := has_cell wa 0 rfl; have wac1 := has_cell wa 1 rfl
    have walt := has_lt wa
    have tac0 := has_cell ta 0 rfl; have tac1 := has_cell ta 1 rfl; have tac2 := has_cell ta 2 rfl; have tac3 := has_cell ta 3 rfl; have tac4 := has_cell ta 4 rfl; have tac5 := has_cell ta 5 rfl; have tac6 := has_cell ta 6 rfl; have tac7 := has_cell ta 7 rfl
    have talt := has_lt ta
    have WAH := Lib.hid wa; clear wa
    have TAH := Lib.hid ta; clear ta
    have ZB := Lib.hid zb; clear zb
    go_wp2_with fail
    clear wac0 wac1 walt tac0 tac1 tac2 tac3 tac4 tac5 tac6 tac7 talt
    have wa := WAH.out; clear WAH
    have ta := TAH.out; clear TAH
    have zb := ZB.out; clear ZB
    refine (tariff_any _ b1 b2 t z m ⟨by omega, by omega⟩ HT.out ⟨by omega, by omega⟩ HC.out).mono ?_
    rintro e w6 ⟨rfl, hb⟩
    have cc9 := Caught6.call HC.out hb; clear HC; have HC := Lib.hid cc9; clear cc9
    replace wa := has_call wa hb
    replace ta := has_call ta hb
    replace zb := bthen zb hb; clear hb
    have wac0 := has_cell wa 0 rfl; have wac1 := has_cell wa 1 rfl
    have walt := has_lt wa
    have tac0 := has_cell ta 0 rfl; have tac1 := has_cell ta 1 rfl; have tac2 := has_cell ta 2 rfl; have tac3 := has_cell ta 3 rfl; have tac4 := has_cell ta 4 rfl; have tac5 := has_cell ta 5 rfl; have tac6 := has_cell ta 6 rfl; have tac7 := has_cell ta 7 rfl
    have talt := has_lt ta
    have WAH := Lib.hid wa; clear wa
    have TAH := Lib.hid ta; clear ta
    have ZB := Lib.hid zb; clear zb
    go_wp2_with fail
    clear wac0 wac1 walt tac0 tac1 tac2 tac3 tac4 tac5 tac6 tac7 talt
    have wa := WAH.out; clear WAH
    have ta := TAH.out; clear TAH
    have zb := ZB.out; clear ZB
    refine (tariff_any _ b1 b2 t z h ⟨by omega, by omega⟩ HT.out ⟨by omega, by omega⟩ HC.out).mono ?_
    rintro e w7 ⟨rfl, hb⟩
    have cc9 := Caught6.call HC.out hb; clear HC; have HC := Lib.hid cc9; clear cc9
    replace wa := has_call wa hb
    replace ta := has_call ta hb
    replace zb := bthen zb hb; clear hb
    have wac0 := has_cell wa 0 rfl; have wac1 := has_cell wa 1 rfl
    have walt := has_lt wa
    have tac0 := has_cell ta 0 rfl; have tac1 := has_cell ta 1 rfl; have tac2 := has_cell ta 2 rfl; have tac3 := has_cell ta 3 rfl; have tac4 := has_cell ta 4 rfl; have tac5 := has_cell ta 5 rfl; have tac6 := has_cell ta 6 rfl; have tac7 := has_cell ta 7 rfl
    have talt := has_lt ta
    have WAH := Lib.hid wa; clear wa
    have TAH := Lib.hid ta; clear ta
    have ZB := Lib.hid zb; clear zb
    go_wp2_with fail
    clear wac0 wac1 walt tac0 tac1 tac2 tac3 tac4 tac5 tac6 tac7 talt
    have wa := WAH.out; clear WAH
    have ta := TAH.out; clear TAH
    have zb := ZB.out; clear ZB
    refine (afterI_any _ B A A' n n' o c a m (by omega) (by omega) ho hc (by have := zb.size; omega) (HS.out.later hB zb) (HS'.out.later hB zb)).mono ?_
    rintro e w8 ⟨rfl, hb⟩
    have cc9 := Caught6.call HC.out hb; clear HC; have HC := Lib.hid cc9; clear cc9
    replace wa := has_call wa hb
    replace ta := has_call ta hb
    replace zb := bthen zb hb; clear hb
    rw [Hq.out]; unfold pairV
    have wac0 := has_cell wa 0 rfl; have wac1 := has_cell wa 1 rfl
    have walt := has_lt wa
    have tac0 := has_cell ta 0 rfl; have tac1 := has_cell ta 1 rfl; have tac2 := has_cell ta 2 rfl; have tac3 := has_cell ta 3 rfl; have tac4 := has_cell ta 4 rfl; have tac5 := has_cell ta 5 rfl; have tac6 := has_cell ta 6 rfl; have tac7 := has_cell ta 7 rfl
    have talt := has_lt ta
    have WAH := Lib.hid wa; clear wa
    have TAH := Lib.hid ta; clear ta
    have ZB := Lib.hid zb; clear zb
    go_wp2_with fail
    clear wac0 wac1 walt tac0 tac1 tac2 tac3 tac4 tac5 tac6 tac7 talt
    have wa := WAH.out; clear WAH
    have ta := TAH.out; clear TAH
    have zb := ZB.out; clear ZB
    go_ret2
    exact ⟨ret_none (HV.out.trans Hq.out), zb⟩
  | some x =>
    go_enter Try.func20, Try.ntmps20
    go_wp2_with fail
    generalize hX : (w.alloc (.cells #[.slice A o.length n, .slice A' c.length n'] 26)) = w1
    have hb : Below w.heap.size w w1 := by rw [← hX]; exact balloc _ _
    have hk : Has w1 w.heap.size 26 #[.slice A o.length n, .slice A' c.length n'] := by rw [← hX]; exact has_new _ _ _
    have hzw1 : w1.heap.size = w.heap.size + 1 := by rw [← hX]; simp
    clear hX
    have zb := hb; clear hb
    have wa := hk; clear hk
    generalize hX : (w1.alloc (.cells #[.int .i64 t.keep, .int .i64 t.free, .int .i64 t.step, .int .i64 t.rate, .int .i64 t.cap, .int .i64 t.longer, .int .i64 t.price, .int .i64 t.most] 29)) = w2
    have hb : Below w1.heap.size w1 w2 := by rw [← hX]; exact balloc _ _
    have hk : Has w2 w1.heap.size 29 #[.int .i64 t.keep, .int .i64 t.free, .int .i64 t.step, .int .i64 t.rate, .int .i64 t.cap, .int .i64 t.longer, .int .i64 t.price, .int .i64 t.most] := by rw [← hX]; exact has_new _ _ _
    have hzw2 : w2.heap.size = w.heap.size + 2 := by rw [← hX]; simp [hzw1]
    clear hX
    rw [hzw1] at hk
    replace wa := has_call wa hb
    replace zb := bthen zb hb; clear hb
    have ta := hk; clear hk
    clear hzw1 hzw2
    have wac0 := has_cell wa 0 rfl; have wac1 := has_cell wa 1 rfl
    have walt := has_lt wa
    have tac0 := has_cell ta 0 rfl; have tac1 := has_cell ta 1 rfl; have tac2 := has_cell ta 2 rfl; have tac3 := has_cell ta 3 rfl; have tac4 := has_cell ta 4 rfl; have tac5 := has_cell ta 5 rfl; have tac6 := has_cell ta 6 rfl; have tac7 := has_cell ta 7 rfl
    have talt := has_lt ta
    have WAH := Lib.hid wa; clear wa
    have TAH := Lib.hid ta; clear ta
    have ZB := Lib.hid zb; clear zb
    go_wp2_with fail
    clear wac0 wac1 walt tac0 tac1 tac2 tac3 tac4 tac5 tac6 tac7 talt
    have wa := WAH.out; clear WAH
    have ta := TAH.out; clear TAH
    have zb := ZB.out; clear ZB
    refine (feeI_any _ B A A' n n' o c t z a b e ho hc (by have := zb.size; omega) (HS.out.later hB zb) (HS'.out.later hB zb)).mono ?_
    rintro e w3 ⟨rfl, hb⟩
    rw [HF.out]
    replace wa := has_call wa hb
    replace ta := has_call ta hb
    replace zb := bthen zb hb; clear hb
    have wac0 := has_cell wa 0 rfl; have wac1 := has_cell wa 1 rfl
    have walt := has_lt wa
    have tac0 := has_cell ta 0 rfl; have tac1 := has_cell ta 1 rfl; have tac2 := has_cell ta 2 rfl; have tac3 := has_cell ta 3 rfl; have tac4 := has_cell ta 4 rfl; have tac5 := has_cell ta 5 rfl; have tac6 := has_cell ta 6 rfl; have tac7 := has_cell ta 7 rfl
    have talt := has_lt ta
    have WAH := Lib.hid wa; clear wa
    have TAH := Lib.hid ta; clear ta
    have ZB := Lib.hid zb; clear zb
    go_wp2_with fail
    clear wac0 wac1 walt tac0 tac1 tac2 tac3 tac4 tac5 tac6 tac7 talt
    have wa := WAH.out; clear WAH
    have ta := TAH.out; clear TAH
    have zb := ZB.out; clear ZB
    refine (tariffOf_any _ t z).mono ?_
    rintro r w4 ⟨b1, b2, rfl, hC, hb⟩
    replace wa := has_call wa hb
    replace ta := has_call ta hb
    replace zb := bthen zb hb; clear hb
    have HC := Lib.hid hC; clear hC
    have wac0 := has_cell wa 0 rfl; have wac1 := has_cell wa 1 rfl
    have walt := has_lt wa
    have tac0 := has_cell ta 0 rfl; have tac1 := has_cell ta 1 rfl; have tac2 := has_cell ta 2 rfl; have tac3 := has_cell ta 3 rfl; have tac4 := has_cell ta 4 rfl; have tac5 := has_cell ta 5 rfl; have tac6 := has_cell ta 6 rfl; have tac7 := has_cell ta 7 rfl
    have talt := has_lt ta
    have WAH := Lib.hid wa; clear wa
    have TAH := Lib.hid ta; clear ta
    have ZB := Lib.hid zb; clear zb
    go_wp2_with fail
    clear wac0 wac1 walt tac0 tac1 tac2 tac3 tac4 tac5 tac6 tac7 talt
    have wa := WAH.out; clear WAH
    have ta := TAH.out; clear TAH
    have zb := ZB.out; clear ZB
    refine (hoursI_any _ B A A' n n' o c a b ho hc (by have := zb.size; omega) (HS.out.later hB zb) (HS'.out.later hB zb)).mono ?_
    rintro e w5 ⟨rfl, hb⟩
    rw [HH.out]
    have cc9 := Caught6.call HC.out hb; clear HC; have HC := Lib.hid cc9; clear cc9
    replace wa := has_call wa hb
    replace ta := has_call ta hb
    replace zb := bthen zb hb; clear hb
    have wac0 := has_cell wa 0 rfl; have wac1 := has_cell wa 1 rfl
    have walt := has_lt wa
    have tac0 := has_cell ta 0 rfl; have tac1 := has_cell ta 1 rfl; have tac2 := has_cell ta 2 rfl; have tac3 := has_cell ta 3 rfl; have tac4 := has_cell ta 4 rfl; have tac5 := has_cell ta 5 rfl; have tac6 := has_cell ta 6 rfl; have tac7 := has_cell ta 7 rfl
    have talt := has_lt ta
    have WAH := Lib.hid wa; clear wa
    have TAH := Lib.hid ta; clear ta
    have ZB := Lib.hid zb; clear zb
    try go_wp2_with fail
    have S0 : (fun W : World => ((W.cell? ⟨w.heap.size, 0, none⟩ = some (.slice A o.length n) ∧ W.cell? ⟨w.heap.size, 1, none⟩ = some (.slice A' c.length n')) ∧ (W.cell? ⟨w.heap.size + 1, 0, none⟩ = some (.int .i64 t.keep) ∧ W.cell? ⟨w.heap.size + 1, 1, none⟩ = some (.int .i64 t.free) ∧ W.cell? ⟨w.heap.size + 1, 2, none⟩ = some (.int .i64 t.step) ∧ W.cell? ⟨w.heap.size + 1, 3, none⟩ = some (.int .i64 t.rate) ∧ W.cell? ⟨w.heap.size + 1, 4, none⟩ = some (.int .i64 t.cap) ∧ W.cell? ⟨w.heap.size + 1, 5, none⟩ = some (.int .i64 t.longer) ∧ W.cell? ⟨w.heap.size + 1, 6, none⟩ = some (.int .i64 t.price) ∧ W.cell? ⟨w.heap.size + 1, 7, none⟩ = some (.int .i64 t.most))) ∧ Caught6 W b1 b2 t z ∧ Below w5.heap.size w5 W) w5.drew := ⟨⟨⟨wac0, wac1⟩, ⟨tac0, tac1, tac2, tac3, tac4, tac5, tac6, tac7⟩⟩, HC.out, (Below.refl _ _).drew⟩
    have hzd : w.heap.size + 1 < w5.drew.heap.size := talt
    clear wac0 wac1 walt tac0 tac1 tac2 tac3 tac4 tac5 tac6 tac7 talt
    go_region_held3 (fun W : World => ((W.cell? ⟨w.heap.size, 0, none⟩ = some (.slice A o.length n) ∧ W.cell? ⟨w.heap.size, 1, none⟩ = some (.slice A' c.length n')) ∧ (W.cell? ⟨w.heap.size + 1, 0, none⟩ = some (.int .i64 t.keep) ∧ W.cell? ⟨w.heap.size + 1, 1, none⟩ = some (.int .i64 t.free) ∧ W.cell? ⟨w.heap.size + 1, 2, none⟩ = some (.int .i64 t.step) ∧ W.cell? ⟨w.heap.size + 1, 3, none⟩ = some (.int .i64 t.rate) ∧ W.cell? ⟨w.heap.size + 1, 4, none⟩ = some (.int .i64 t.cap) ∧ W.cell? ⟨w.heap.size + 1, 5, none⟩ = some (.int .i64 t.longer) ∧ W.cell? ⟨w.heap.size + 1, 6, none⟩ = some (.int .i64 t.price) ∧ W.cell? ⟨w.heap.size + 1, 7, none⟩ = some (.int .i64 t.most))) ∧ Caught6 W b1 b2 t z ∧ Below w5.heap.size w5 W) (first | assumption) (first
      | (go_at_call 45; go_must (refine (stepsI_any _ t h HT.out ⟨by omega, by omega⟩).mono ?_); rintro r wh ⟨rfl, hh⟩; have S1 : (fun W : World => ((W.cell? ⟨w.heap.size, 0, none⟩ = some (.slice A o.length n) ∧ W.cell? ⟨w.heap.size, 1, none⟩ = some (.slice A' c.length n')) ∧ (W.cell? ⟨w.heap.size + 1, 0, none⟩ = some (.int .i64 t.keep) ∧ W.cell? ⟨w.heap.size + 1, 1, none⟩ = some (.int .i64 t.free) ∧ W.cell? ⟨w.heap.size + 1, 2, none⟩ = some (.int .i64 t.step) ∧ W.cell? ⟨w.heap.size + 1, 3, none⟩ = some (.int .i64 t.rate) ∧ W.cell? ⟨w.heap.size + 1, 4, none⟩ = some (.int .i64 t.cap) ∧ W.cell? ⟨w.heap.size + 1, 5, none⟩ = some (.int .i64 t.longer) ∧ W.cell? ⟨w.heap.size + 1, 6, none⟩ = some (.int .i64 t.price) ∧ W.cell? ⟨w.heap.size + 1, 7, none⟩ = some (.int .i64 t.most))) ∧ Caught6 W b1 b2 t z ∧ Below w5.heap.size w5 W) wh := ⟨⟨⟨(bold hh _ _ (by omega)).trans S0.1.1.1, (bold hh _ _ (by omega)).trans S0.1.1.2⟩, ⟨(bold hh _ _ (by omega)).trans S0.1.2.1, (bold hh _ _ (by omega)).trans S0.1.2.2.1, (bold hh _ _ (by omega)).trans S0.1.2.2.2.1, (bold hh _ _ (by omega)).trans S0.1.2.2.2.2.1, (bold hh _ _ (by omega)).trans S0.1.2.2.2.2.2.1, (bold hh _ _ (by omega)).trans S0.1.2.2.2.2.2.2.1, (bold hh _ _ (by omega)).trans S0.1.2.2.2.2.2.2.2.1, (bold hh _ _ (by omega)).trans S0.1.2.2.2.2.2.2.2.2⟩⟩, Caught6.call (show Caught6 w5.drew b1 b2 t z from S0.2.1) hh, bthen S0.2.2 hh⟩))
    have hb : Below w5.heap.size w5 wh := S1.2.2
    clear S0 S1 hzd
    have wa := WAH.out; clear WAH
    have ta := TAH.out; clear TAH
    have zb := ZB.out; clear ZB
    have cc9 := Caught6.call HC.out hb; clear HC; have HC := Lib.hid cc9; clear cc9
    replace wa := has_call wa hb
    replace ta := has_call ta hb
    replace zb := bthen zb hb; clear hb
    have wac0 := has_cell wa 0 rfl; have wac1 := has_cell wa 1 rfl
    have walt := has_lt wa
    have tac0 := has_cell ta 0 rfl; have tac1 := has_cell ta 1 rfl; have tac2 := has_cell ta 2 rfl; have tac3 := has_cell ta 3 rfl; have tac4 := has_cell ta 4 rfl; have tac5 := has_cell ta 5 rfl; have tac6 := has_cell ta 6 rfl; have tac7 := has_cell ta 7 rfl
    have talt := has_lt ta
    have WAH := Lib.hid wa; clear wa
    have TAH := Lib.hid ta; clear ta
    have ZB := Lib.hid zb; clear zb
    go_wp2_with fail
    clear wac0 wac1 walt tac0 tac1 tac2 tac3 tac4 tac5 tac6 tac7 talt
    have wa := WAH.out; clear WAH
    have ta := TAH.out; clear TAH
    have zb := ZB.out; clear ZB
    refine (tariff_any _ b1 b2 t z m ⟨by omega, by omega⟩ HT.out ⟨by omega, by omega⟩ HC.out).mono ?_
    rintro e w6 ⟨rfl, hb⟩
    have cc9 := Caught6.call HC.out hb; clear HC; have HC := Lib.hid cc9; clear cc9
    replace wa := has_call wa hb
    replace ta := has_call ta hb
    replace zb := bthen zb hb; clear hb
    have wac0 := has_cell wa 0 rfl; have wac1 := has_cell wa 1 rfl
    have walt := has_lt wa
    have tac0 := has_cell ta 0 rfl; have tac1 := has_cell ta 1 rfl; have tac2 := has_cell ta 2 rfl; have tac3 := has_cell ta 3 rfl; have tac4 := has_cell ta 4 rfl; have tac5 := has_cell ta 5 rfl; have tac6 := has_cell ta 6 rfl; have tac7 := has_cell ta 7 rfl
    have talt := has_lt ta
    have WAH := Lib.hid wa; clear wa
    have TAH := Lib.hid ta; clear ta
    have ZB := Lib.hid zb; clear zb
    go_wp2_with fail
    clear wac0 wac1 walt tac0 tac1 tac2 tac3 tac4 tac5 tac6 tac7 talt
    have wa := WAH.out; clear WAH
    have ta := TAH.out; clear TAH
    have zb := ZB.out; clear ZB
    refine (tariff_any _ b1 b2 t z h ⟨by omega, by omega⟩ HT.out ⟨by omega, by omega⟩ HC.out).mono ?_
    rintro e w7 ⟨rfl, hb⟩
    have cc9 := Caught6.call HC.out hb; clear HC; have HC := Lib.hid cc9; clear cc9
    replace wa := has_call wa hb
    replace ta := has_call ta hb
    replace zb := bthen zb hb; clear hb
    have wac0 := has_cell wa 0 rfl; have wac1 := has_cell wa 1 rfl
    have walt := has_lt wa
    have tac0 := has_cell ta 0 rfl; have tac1 := has_cell ta 1 rfl; have tac2 := has_cell ta 2 rfl; have tac3 := has_cell ta 3 rfl; have tac4 := has_cell ta 4 rfl; have tac5 := has_cell ta 5 rfl; have tac6 := has_cell ta 6 rfl; have tac7 := has_cell ta 7 rfl
    have talt := has_lt ta
    have WAH := Lib.hid wa; clear wa
    have TAH := Lib.hid ta; clear ta
    have ZB := Lib.hid zb; clear zb
    go_wp2_with fail
    clear wac0 wac1 walt tac0 tac1 tac2 tac3 tac4 tac5 tac6 tac7 talt
    have wa := WAH.out; clear WAH
    have ta := TAH.out; clear TAH
    have zb := ZB.out; clear ZB
    refine (afterI_any _ B A A' n n' o c a m (by omega) (by omega) ho hc (by have := zb.size; omega) (HS.out.later hB zb) (HS'.out.later hB zb)).mono ?_
    rintro e w8 ⟨rfl, hb⟩
    have cc9 := Caught6.call HC.out hb; clear HC; have HC := Lib.hid cc9; clear cc9
    replace wa := has_call wa hb
    replace ta := has_call ta hb
    replace zb := bthen zb hb; clear hb
    rw [Hq.out]; unfold pairV
    have wac0 := has_cell wa 0 rfl; have wac1 := has_cell wa 1 rfl
    have walt := has_lt wa
    have tac0 := has_cell ta 0 rfl; have tac1 := has_cell ta 1 rfl; have tac2 := has_cell ta 2 rfl; have tac3 := has_cell ta 3 rfl; have tac4 := has_cell ta 4 rfl; have tac5 := has_cell ta 5 rfl; have tac6 := has_cell ta 6 rfl; have tac7 := has_cell ta 7 rfl
    have talt := has_lt ta
    have WAH := Lib.hid wa; clear wa
    have TAH := Lib.hid ta; clear ta
    have ZB := Lib.hid zb; clear zb
    go_wp2_with fail
    clear wac0 wac1 walt tac0 tac1 tac2 tac3 tac4 tac5 tac6 tac7 talt
    have wa := WAH.out; clear WAH
    have ta := TAH.out; clear TAH
    have zb := ZB.out; clear ZB
    go_ret2
    exact ⟨ret_some (HV.out.trans Hq.out), zb⟩
set_option maxRecDepth 100000 in
set_option maxHeartbeats 4000000 in
theorem nextS_any (w : World) (B : Nat) (A A' : Option Addr) (n n' : Nat) (o c : List (Int × Int)) (t : Tm) (z a b e : Int) (ho : o.length ≤ maxLen) (hc : c.length ≤ maxLen) (hB : B ≤ w.heap.size) (hS : SL w B A o) (hS' : SL w B A' c) : Calls Try.prog 21 #[.agg #[.slice A o.length n, .slice A' c.length n'], .agg #[.int .i64 t.keep, .int .i64 t.free, .int .i64 t.step, .int .i64 t.rate, .int .i64 t.cap, .int .i64 t.longer, .int .i64 t.price, .int .i64 t.most], .int .i64 z, .int .i64 a, .int .i64 b, .int .i64 e] w fun r w' => r = .returned (pairV (nextB o c t z a b e)) ∧ Below w.heap.size w w' := by
  have HS := Lib.hid hS; clear hS
  have HS' := Lib.hid hS'; clear hS'
  rcases fee_range o c t z a b e with ⟨hok, hf0, hf1⟩ | ⟨hok, hf⟩
  rotate_left
  · have HN := Lib.hid hok; have HF := Lib.hid hf; clear hok hf
    go_enter Try.func21, Try.ntmps21
    go_wp2_with fail
    generalize hX : (w.alloc (.cells #[.slice A o.length n, .slice A' c.length n'] 26)) = w1
    have hb : Below w.heap.size w w1 := by rw [← hX]; exact balloc _ _
    have hk : Has w1 w.heap.size 26 #[.slice A o.length n, .slice A' c.length n'] := by rw [← hX]; exact has_new _ _ _
    have hzw1 : w1.heap.size = w.heap.size + 1 := by rw [← hX]; simp
    clear hX
    have zb := hb; clear hb
    have wa := hk; clear hk
    generalize hX : (w1.alloc (.cells #[.int .i64 t.keep, .int .i64 t.free, .int .i64 t.step, .int .i64 t.rate, .int .i64 t.cap, .int .i64 t.longer, .int .i64 t.price, .int .i64 t.most] 29)) = w2
    have hb : Below w1.heap.size w1 w2 := by rw [← hX]; exact balloc _ _
    have hk : Has w2 w1.heap.size 29 #[.int .i64 t.keep, .int .i64 t.free, .int .i64 t.step, .int .i64 t.rate, .int .i64 t.cap, .int .i64 t.longer, .int .i64 t.price, .int .i64 t.most] := by rw [← hX]; exact has_new _ _ _
    have hzw2 : w2.heap.size = w.heap.size + 2 := by rw [← hX]; simp [hzw1]
    clear hX
    rw [hzw1] at hk
    replace wa := has_call wa hb
    replace zb := bthen zb hb; clear hb
    have ta := hk; clear hk
    clear hzw1 hzw2
    have wac0 := has_cell wa 0 rfl; have wac1 := has_cell wa 1 rfl
    have walt := has_lt wa
    have tac0 := has_cell ta 0 rfl; have tac1 := has_cell ta 1 rfl; have tac2 := has_cell ta 2 rfl; have tac3 := has_cell ta 3 rfl; have tac4 := has_cell ta 4 rfl; have tac5 := has_cell ta 5 rfl; have tac6 := has_cell ta 6 rfl; have tac7 := has_cell ta 7 rfl
    have talt := has_lt ta
    have WAH := Lib.hid wa; clear wa
    have TAH := Lib.hid ta; clear ta
    have ZB := Lib.hid zb; clear zb
    go_wp2_with fail
    clear wac0 wac1 walt tac0 tac1 tac2 tac3 tac4 tac5 tac6 tac7 talt
    have wa := WAH.out; clear WAH
    have ta := TAH.out; clear TAH
    have zb := ZB.out; clear ZB
    refine (feeS_any _ B A A' n n' o c t z a b e ho hc (by have := zb.size; omega) (HS.out.later hB zb) (HS'.out.later hB zb)).mono ?_
    rintro e w3 ⟨rfl, hb⟩
    rw [HF.out]
    replace wa := has_call wa hb
    replace ta := has_call ta hb
    replace zb := bthen zb hb; clear hb
    have wac0 := has_cell wa 0 rfl; have wac1 := has_cell wa 1 rfl
    have walt := has_lt wa
    have tac0 := has_cell ta 0 rfl; have tac1 := has_cell ta 1 rfl; have tac2 := has_cell ta 2 rfl; have tac3 := has_cell ta 3 rfl; have tac4 := has_cell ta 4 rfl; have tac5 := has_cell ta 5 rfl; have tac6 := has_cell ta 6 rfl; have tac7 := has_cell ta 7 rfl
    have talt := has_lt ta
    have WAH := Lib.hid wa; clear wa
    have TAH := Lib.hid ta; clear ta
    have ZB := Lib.hid zb; clear zb
    go_wp2_with fail
    clear wac0 wac1 walt tac0 tac1 tac2 tac3 tac4 tac5 tac6 tac7 talt
    have wa := WAH.out; clear WAH
    have ta := TAH.out; clear TAH
    have zb := ZB.out; clear ZB
    go_ret2
    exact ⟨ret_none (by rw [nextB, if_neg HN.out]), zb⟩
  obtain ⟨hw, ht, hz, ha, hb9, hab, he⟩ := id hok
  have hr := hours_range o c a b
  have hfb : feeB o c t z a b e = storB t z (hoursB o c a b) + t.price * e := by rw [feeB, if_pos hok]
  have hnx : nextB o c t z a b e = riseB o c t z (storB t z (hoursB o c a b)) (20000 - b).toNat (b + 1) (hoursB o c a b) := by rw [nextB, if_pos hok]
  obtain ⟨h, hh⟩ : ∃ h, hoursB o c a b = h := ⟨_, rfl⟩
  rw [hh] at hr hnx hfb
  have HH := Lib.hid hh; clear hh
  obtain ⟨hr0, hr1⟩ := hr
  have HF := Lib.hid hfb
  rw [hfb] at hf0 hf1
  clear hfb
  have sr := fun x => stor_nonneg ht (show 0 ≤ z by omega) x
  have SR := Lib.hid sr; clear sr
  have qb := price_bound ht he.1 he.2; obtain ⟨qb0, qb1⟩ := qb
  have tb := (time_iff b).1 hb9; obtain ⟨tb0, tb1⟩ := tb
  have HT := Lib.hid ht; have HW := Lib.hid hw; clear ht hw hok ha hb9
  obtain ⟨hz0, hz1⟩ := hz
  obtain ⟨he0, he1⟩ := he
  have sr0 := SR.out h; obtain ⟨sr1, sr2⟩ := sr0
  have HNX := Lib.hid hnx; clear hnx
  go_enter Try.func21, Try.ntmps21
  go_wp2_with fail
  generalize hX : (w.alloc (.cells #[.slice A o.length n, .slice A' c.length n'] 26)) = w1
  have hb : Below w.heap.size w w1 := by rw [← hX]; exact balloc _ _
  have hk : Has w1 w.heap.size 26 #[.slice A o.length n, .slice A' c.length n'] := by rw [← hX]; exact has_new _ _ _
  have hzw1 : w1.heap.size = w.heap.size + 1 := by rw [← hX]; simp
  clear hX
  have zb := hb; clear hb
  have wa := hk; clear hk
  generalize hX : (w1.alloc (.cells #[.int .i64 t.keep, .int .i64 t.free, .int .i64 t.step, .int .i64 t.rate, .int .i64 t.cap, .int .i64 t.longer, .int .i64 t.price, .int .i64 t.most] 29)) = w2
  have hb : Below w1.heap.size w1 w2 := by rw [← hX]; exact balloc _ _
  have hk : Has w2 w1.heap.size 29 #[.int .i64 t.keep, .int .i64 t.free, .int .i64 t.step, .int .i64 t.rate, .int .i64 t.cap, .int .i64 t.longer, .int .i64 t.price, .int .i64 t.most] := by rw [← hX]; exact has_new _ _ _
  have hzw2 : w2.heap.size = w.heap.size + 2 := by rw [← hX]; simp [hzw1]
  clear hX
  rw [hzw1] at hk
  replace wa := has_call wa hb
  replace zb := bthen zb hb; clear hb
  have ta := hk; clear hk
  clear hzw1 hzw2
  have wac0 := has_cell wa 0 rfl; have wac1 := has_cell wa 1 rfl
  have walt := has_lt wa
  have tac0 := has_cell ta 0 rfl; have tac1 := has_cell ta 1 rfl; have tac2 := has_cell ta 2 rfl; have tac3 := has_cell ta 3 rfl; have tac4 := has_cell ta 4 rfl; have tac5 := has_cell ta 5 rfl; have tac6 := has_cell ta 6 rfl; have tac7 := has_cell ta 7 rfl
  have talt := has_lt ta
  have WAH := Lib.hid wa; clear wa
  have TAH := Lib.hid ta; clear ta
  have ZB := Lib.hid zb; clear zb
  go_wp2_with fail
  clear wac0 wac1 walt tac0 tac1 tac2 tac3 tac4 tac5 tac6 tac7 talt
  have wa := WAH.out; clear WAH
  have ta := TAH.out; clear TAH
  have zb := ZB.out; clear ZB
  refine (feeS_any _ B A A' n n' o c t z a b e ho hc (by have := zb.size; omega) (HS.out.later hB zb) (HS'.out.later hB zb)).mono ?_
  rintro e w3 ⟨rfl, hb⟩
  rw [HF.out]
  replace wa := has_call wa hb
  replace ta := has_call ta hb
  replace zb := bthen zb hb; clear hb
  have wac0 := has_cell wa 0 rfl; have wac1 := has_cell wa 1 rfl
  have walt := has_lt wa
  have tac0 := has_cell ta 0 rfl; have tac1 := has_cell ta 1 rfl; have tac2 := has_cell ta 2 rfl; have tac3 := has_cell ta 3 rfl; have tac4 := has_cell ta 4 rfl; have tac5 := has_cell ta 5 rfl; have tac6 := has_cell ta 6 rfl; have tac7 := has_cell ta 7 rfl
  have talt := has_lt ta
  have WAH := Lib.hid wa; clear wa
  have TAH := Lib.hid ta; clear ta
  have ZB := Lib.hid zb; clear zb
  go_wp2_with fail
  clear wac0 wac1 walt tac0 tac1 tac2 tac3 tac4 tac5 tac6 tac7 talt
  have wa := WAH.out; clear WAH
  have ta := TAH.out; clear TAH
  have zb := ZB.out; clear ZB
  refine (hoursS_any _ B A A' n n' o c a b ho hc (by have := zb.size; omega) (HS.out.later hB zb) (HS'.out.later hB zb)).mono ?_
  rintro e w4 ⟨rfl, hb⟩
  rw [HH.out]
  replace wa := has_call wa hb
  replace ta := has_call ta hb
  replace zb := bthen zb hb; clear hb
  have wac0 := has_cell wa 0 rfl; have wac1 := has_cell wa 1 rfl
  have walt := has_lt wa
  have tac0 := has_cell ta 0 rfl; have tac1 := has_cell ta 1 rfl; have tac2 := has_cell ta 2 rfl; have tac3 := has_cell ta 3 rfl; have tac4 := has_cell ta 4 rfl; have tac5 := has_cell ta 5 rfl; have tac6 := has_cell ta 6 rfl; have tac7 := has_cell ta 7 rfl
  have talt := has_lt ta
  have WAH := Lib.hid wa; clear wa
  have TAH := Lib.hid ta; clear ta
  have ZB := Lib.hid zb; clear zb
  go_wp2_with fail
  clear wac0 wac1 walt tac0 tac1 tac2 tac3 tac4 tac5 tac6 tac7 talt
  have wa := WAH.out; clear WAH
  have ta := TAH.out; clear TAH
  have zb := ZB.out; clear ZB
  have WA0 := Lib.hid wa; clear wa
  have TA0 := Lib.hid ta; clear ta
  have ZB0 := Lib.hid zb; clear zb
  go_loopw [15, 16] (fun u i wr => ∃ (k : Nat) (x : Int), (k : Int) ≤ 20000 - b ∧ i = .int .i64 (b + 1 + k) ∧ u = .int .i64 x ∧ 0 ≤ x ∧ x ≤ 20000 + k ∧ riseB o c t z (storB t z h) (20000 - b - k).toNat (b + 1 + k) x = nextB o c t z a b e ∧ Below w4.heap.size w4 wr) (fun _ i _ => (20001 - intOf i).toNat)
  case atStart => exact ⟨0, h, by omega, by simp, rfl, hr0, by omega, by rw [HNX.out, show (20000 : Int) - b - ((0 : Nat) : Int) = 20000 - b by omega, show b + 1 + ((0 : Nat) : Int) = b + 1 by omega], Below.refl _ _⟩
  case round =>
    obtain ⟨k, x, hk, rfl, rfl, hx0, hx1, hr, hb⟩ := hrel
    have Hr := Lib.hid hr; clear hr
    by_cases hlt : (k : Int) < 20000 - b
    rotate_left
    · have Hv := Lib.hid (Hr.out.symm.trans (show _ = none by rw [show (20000 - b - k).toNat = 0 by omega]; rfl))
      have wa := has_call WA0.out hb
      have ta := has_call TA0.out hb
      have zb := bthen ZB0.out hb
      have hbr := hb; clear hb
      have wac0 := has_cell wa 0 rfl; have wac1 := has_cell wa 1 rfl
      have walt := has_lt wa
      have tac0 := has_cell ta 0 rfl; have tac1 := has_cell ta 1 rfl; have tac2 := has_cell ta 2 rfl; have tac3 := has_cell ta 3 rfl; have tac4 := has_cell ta 4 rfl; have tac5 := has_cell ta 5 rfl; have tac6 := has_cell ta 6 rfl; have tac7 := has_cell ta 7 rfl
      have talt := has_lt ta
      have WAH := Lib.hid wa; clear wa
      have TAH := Lib.hid ta; clear ta
      have ZB := Lib.hid zb; clear zb
      go_wp2_with fail
      clear wac0 wac1 walt tac0 tac1 tac2 tac3 tac4 tac5 tac6 tac7 talt
      have wa := WAH.out; clear WAH
      have ta := TAH.out; clear TAH
      have zb := ZB.out; clear ZB
      go_ret2
      exact ⟨ret_none Hv.out, zb⟩
    have hfu : (20000 - b - k).toNat = (20000 - b - ((k + 1 : Nat) : Int)).toNat + 1 := by omega
    have hs9 := Hr.out; rw [hfu, riseB] at hs9; clear hfu
    cases hop : openB o c (b + 1 + k - 1)
    · skip
      rw [hop] at hs9
      simp only [Bool.false_eq_true, if_false, if_true, Int.add_zero] at hs9
      have Hop := Lib.hid hop; clear hop
      have sx := SR.out x; obtain ⟨sx0, sx1⟩ := sx
      by_cases hgt : storB t z h < storB t z x
      · have Hv := Lib.hid (show nextB o c t z a b e = some (b + 1 + k) from hs9.symm.trans (if_pos hgt))
        clear hs9
        have wa := has_call WA0.out hb
        have ta := has_call TA0.out hb
        have zb := bthen ZB0.out hb
        have hbr := hb; clear hb
        have wac0 := has_cell wa 0 rfl; have wac1 := has_cell wa 1 rfl
        have walt := has_lt wa
        have tac0 := has_cell ta 0 rfl; have tac1 := has_cell ta 1 rfl; have tac2 := has_cell ta 2 rfl; have tac3 := has_cell ta 3 rfl; have tac4 := has_cell ta 4 rfl; have tac5 := has_cell ta 5 rfl; have tac6 := has_cell ta 6 rfl; have tac7 := has_cell ta 7 rfl
        have talt := has_lt ta
        have WAH := Lib.hid wa; clear wa
        have TAH := Lib.hid ta; clear ta
        have ZB := Lib.hid zb; clear zb
        go_wp2_with fail
        clear wac0 wac1 walt tac0 tac1 tac2 tac3 tac4 tac5 tac6 tac7 talt
        have wa := WAH.out; clear WAH
        have ta := TAH.out; clear TAH
        have zb := ZB.out; clear ZB
        refine (openS_any _ B A A' n n' o c (b + 1 + k - 1) (by omega) ho hc (by have := zb.size; omega) (HS.out.later hB zb) (HS'.out.later hB zb)).mono ?_
        rintro e w101 ⟨rfl, hb⟩
        rw [Hop.out]
        replace hbr := bthen hbr hb
        replace wa := has_call wa hb
        replace ta := has_call ta hb
        replace zb := bthen zb hb; clear hb
        have wac0 := has_cell wa 0 rfl; have wac1 := has_cell wa 1 rfl
        have walt := has_lt wa
        have tac0 := has_cell ta 0 rfl; have tac1 := has_cell ta 1 rfl; have tac2 := has_cell ta 2 rfl; have tac3 := has_cell ta 3 rfl; have tac4 := has_cell ta 4 rfl; have tac5 := has_cell ta 5 rfl; have tac6 := has_cell ta 6 rfl; have tac7 := has_cell ta 7 rfl
        have talt := has_lt ta
        have WAH := Lib.hid wa; clear wa
        have TAH := Lib.hid ta; clear ta
        have ZB := Lib.hid zb; clear zb
        go_wp2_with fail
        clear wac0 wac1 walt tac0 tac1 tac2 tac3 tac4 tac5 tac6 tac7 talt
        have wa := WAH.out; clear WAH
        have ta := TAH.out; clear TAH
        have zb := ZB.out; clear ZB
        refine (fee6_any _ t z x e ⟨by omega, by omega⟩ HT.out ⟨by omega, by omega⟩ ⟨by omega, by omega⟩).mono ?_
        rintro e w102 ⟨rfl, hb⟩
        replace hbr := bthen hbr hb
        replace wa := has_call wa hb
        replace ta := has_call ta hb
        replace zb := bthen zb hb; clear hb
        have wac0 := has_cell wa 0 rfl; have wac1 := has_cell wa 1 rfl
        have walt := has_lt wa
        have tac0 := has_cell ta 0 rfl; have tac1 := has_cell ta 1 rfl; have tac2 := has_cell ta 2 rfl; have tac3 := has_cell ta 3 rfl; have tac4 := has_cell ta 4 rfl; have tac5 := has_cell ta 5 rfl; have tac6 := has_cell ta 6 rfl; have tac7 := has_cell ta 7 rfl
        have talt := has_lt ta
        have WAH := Lib.hid wa; clear wa
        have TAH := Lib.hid ta; clear ta
        have ZB := Lib.hid zb; clear zb
        go_wp2_with fail
        clear wac0 wac1 walt tac0 tac1 tac2 tac3 tac4 tac5 tac6 tac7 talt
        have wa := WAH.out; clear WAH
        have ta := TAH.out; clear TAH
        have zb := ZB.out; clear ZB
        go_ret2
        exact ⟨ret_some Hv.out, zb⟩
      · have Hv := Lib.hid (show riseB o c t z (storB t z h) (20000 - b - ((k + 1 : Nat) : Int)).toNat (b + 1 + k + 1) x = nextB o c t z a b e from (if_neg hgt).symm.trans hs9)
        clear hs9
        have wa := has_call WA0.out hb
        have ta := has_call TA0.out hb
        have zb := bthen ZB0.out hb
        have hbr := hb; clear hb
        have wac0 := has_cell wa 0 rfl; have wac1 := has_cell wa 1 rfl
        have walt := has_lt wa
        have tac0 := has_cell ta 0 rfl; have tac1 := has_cell ta 1 rfl; have tac2 := has_cell ta 2 rfl; have tac3 := has_cell ta 3 rfl; have tac4 := has_cell ta 4 rfl; have tac5 := has_cell ta 5 rfl; have tac6 := has_cell ta 6 rfl; have tac7 := has_cell ta 7 rfl
        have talt := has_lt ta
        have WAH := Lib.hid wa; clear wa
        have TAH := Lib.hid ta; clear ta
        have ZB := Lib.hid zb; clear zb
        go_wp2_with fail
        clear wac0 wac1 walt tac0 tac1 tac2 tac3 tac4 tac5 tac6 tac7 talt
        have wa := WAH.out; clear WAH
        have ta := TAH.out; clear TAH
        have zb := ZB.out; clear ZB
        refine (openS_any _ B A A' n n' o c (b + 1 + k - 1) (by omega) ho hc (by have := zb.size; omega) (HS.out.later hB zb) (HS'.out.later hB zb)).mono ?_
        rintro e w101 ⟨rfl, hb⟩
        rw [Hop.out]
        replace hbr := bthen hbr hb
        replace wa := has_call wa hb
        replace ta := has_call ta hb
        replace zb := bthen zb hb; clear hb
        have wac0 := has_cell wa 0 rfl; have wac1 := has_cell wa 1 rfl
        have walt := has_lt wa
        have tac0 := has_cell ta 0 rfl; have tac1 := has_cell ta 1 rfl; have tac2 := has_cell ta 2 rfl; have tac3 := has_cell ta 3 rfl; have tac4 := has_cell ta 4 rfl; have tac5 := has_cell ta 5 rfl; have tac6 := has_cell ta 6 rfl; have tac7 := has_cell ta 7 rfl
        have talt := has_lt ta
        have WAH := Lib.hid wa; clear wa
        have TAH := Lib.hid ta; clear ta
        have ZB := Lib.hid zb; clear zb
        go_wp2_with fail
        clear wac0 wac1 walt tac0 tac1 tac2 tac3 tac4 tac5 tac6 tac7 talt
        have wa := WAH.out; clear WAH
        have ta := TAH.out; clear TAH
        have zb := ZB.out; clear ZB
        refine (fee6_any _ t z x e ⟨by omega, by omega⟩ HT.out ⟨by omega, by omega⟩ ⟨by omega, by omega⟩).mono ?_
        rintro e w102 ⟨rfl, hb⟩
        replace hbr := bthen hbr hb
        replace wa := has_call wa hb
        replace ta := has_call ta hb
        replace zb := bthen zb hb; clear hb
        have wac0 := has_cell wa 0 rfl; have wac1 := has_cell wa 1 rfl
        have walt := has_lt wa
        have tac0 := has_cell ta 0 rfl; have tac1 := has_cell ta 1 rfl; have tac2 := has_cell ta 2 rfl; have tac3 := has_cell ta 3 rfl; have tac4 := has_cell ta 4 rfl; have tac5 := has_cell ta 5 rfl; have tac6 := has_cell ta 6 rfl; have tac7 := has_cell ta 7 rfl
        have talt := has_lt ta
        have WAH := Lib.hid wa; clear wa
        have TAH := Lib.hid ta; clear ta
        have ZB := Lib.hid zb; clear zb
        go_wp2_with fail
        clear wac0 wac1 walt tac0 tac1 tac2 tac3 tac4 tac5 tac6 tac7 talt
        have wa := WAH.out; clear WAH
        have ta := TAH.out; clear TAH
        have zb := ZB.out; clear ZB
        go_roundw
        case rel => exact ⟨k + 1, x, by omega, by rw [show b + 1 + ((k + 1 : Nat) : Int) = b + 1 + k + 1 by omega], rfl, by omega, by omega, by rw [show b + 1 + ((k + 1 : Nat) : Int) = b + 1 + k + 1 by omega]; exact Hv.out, hbr⟩
        case measure => simp [intOf]; omega
    · skip
      rw [hop] at hs9
      simp only [Bool.false_eq_true, if_false, if_true, Int.add_zero] at hs9
      have Hop := Lib.hid hop; clear hop
      have sx := SR.out (x + 1); obtain ⟨sx0, sx1⟩ := sx
      by_cases hgt : storB t z h < storB t z (x + 1)
      · have Hv := Lib.hid (show nextB o c t z a b e = some (b + 1 + k) from hs9.symm.trans (if_pos hgt))
        clear hs9
        have wa := has_call WA0.out hb
        have ta := has_call TA0.out hb
        have zb := bthen ZB0.out hb
        have hbr := hb; clear hb
        have wac0 := has_cell wa 0 rfl; have wac1 := has_cell wa 1 rfl
        have walt := has_lt wa
        have tac0 := has_cell ta 0 rfl; have tac1 := has_cell ta 1 rfl; have tac2 := has_cell ta 2 rfl; have tac3 := has_cell ta 3 rfl; have tac4 := has_cell ta 4 rfl; have tac5 := has_cell ta 5 rfl; have tac6 := has_cell ta 6 rfl; have tac7 := has_cell ta 7 rfl
        have talt := has_lt ta
        have WAH := Lib.hid wa; clear wa
        have TAH := Lib.hid ta; clear ta
        have ZB := Lib.hid zb; clear zb
        go_wp2_with fail
        clear wac0 wac1 walt tac0 tac1 tac2 tac3 tac4 tac5 tac6 tac7 talt
        have wa := WAH.out; clear WAH
        have ta := TAH.out; clear TAH
        have zb := ZB.out; clear ZB
        refine (openS_any _ B A A' n n' o c (b + 1 + k - 1) (by omega) ho hc (by have := zb.size; omega) (HS.out.later hB zb) (HS'.out.later hB zb)).mono ?_
        rintro e w101 ⟨rfl, hb⟩
        rw [Hop.out]
        replace hbr := bthen hbr hb
        replace wa := has_call wa hb
        replace ta := has_call ta hb
        replace zb := bthen zb hb; clear hb
        have wac0 := has_cell wa 0 rfl; have wac1 := has_cell wa 1 rfl
        have walt := has_lt wa
        have tac0 := has_cell ta 0 rfl; have tac1 := has_cell ta 1 rfl; have tac2 := has_cell ta 2 rfl; have tac3 := has_cell ta 3 rfl; have tac4 := has_cell ta 4 rfl; have tac5 := has_cell ta 5 rfl; have tac6 := has_cell ta 6 rfl; have tac7 := has_cell ta 7 rfl
        have talt := has_lt ta
        have WAH := Lib.hid wa; clear wa
        have TAH := Lib.hid ta; clear ta
        have ZB := Lib.hid zb; clear zb
        go_wp2_with fail
        clear wac0 wac1 walt tac0 tac1 tac2 tac3 tac4 tac5 tac6 tac7 talt
        have wa := WAH.out; clear WAH
        have ta := TAH.out; clear TAH
        have zb := ZB.out; clear ZB
        refine (fee6_any _ t z (x + 1) e ⟨by omega, by omega⟩ HT.out ⟨by omega, by omega⟩ ⟨by omega, by omega⟩).mono ?_
        rintro e w102 ⟨rfl, hb⟩
        replace hbr := bthen hbr hb
        replace wa := has_call wa hb
        replace ta := has_call ta hb
        replace zb := bthen zb hb; clear hb
        have wac0 := has_cell wa 0 rfl; have wac1 := has_cell wa 1 rfl
        have walt := has_lt wa
        have tac0 := has_cell ta 0 rfl; have tac1 := has_cell ta 1 rfl; have tac2 := has_cell ta 2 rfl; have tac3 := has_cell ta 3 rfl; have tac4 := has_cell ta 4 rfl; have tac5 := has_cell ta 5 rfl; have tac6 := has_cell ta 6 rfl; have tac7 := has_cell ta 7 rfl
        have talt := has_lt ta
        have WAH := Lib.hid wa; clear wa
        have TAH := Lib.hid ta; clear ta
        have ZB := Lib.hid zb; clear zb
        go_wp2_with fail
        clear wac0 wac1 walt tac0 tac1 tac2 tac3 tac4 tac5 tac6 tac7 talt
        have wa := WAH.out; clear WAH
        have ta := TAH.out; clear TAH
        have zb := ZB.out; clear ZB
        go_ret2
        exact ⟨ret_some Hv.out, zb⟩
      · have Hv := Lib.hid (show riseB o c t z (storB t z h) (20000 - b - ((k + 1 : Nat) : Int)).toNat (b + 1 + k + 1) (x + 1) = nextB o c t z a b e from (if_neg hgt).symm.trans hs9)
        clear hs9
        have wa := has_call WA0.out hb
        have ta := has_call TA0.out hb
        have zb := bthen ZB0.out hb
        have hbr := hb; clear hb
        have wac0 := has_cell wa 0 rfl; have wac1 := has_cell wa 1 rfl
        have walt := has_lt wa
        have tac0 := has_cell ta 0 rfl; have tac1 := has_cell ta 1 rfl; have tac2 := has_cell ta 2 rfl; have tac3 := has_cell ta 3 rfl; have tac4 := has_cell ta 4 rfl; have tac5 := has_cell ta 5 rfl; have tac6 := has_cell ta 6 rfl; have tac7 := has_cell ta 7 rfl
        have talt := has_lt ta
        have WAH := Lib.hid wa; clear wa
        have TAH := Lib.hid ta; clear ta
        have ZB := Lib.hid zb; clear zb
        go_wp2_with fail
        clear wac0 wac1 walt tac0 tac1 tac2 tac3 tac4 tac5 tac6 tac7 talt
        have wa := WAH.out; clear WAH
        have ta := TAH.out; clear TAH
        have zb := ZB.out; clear ZB
        refine (openS_any _ B A A' n n' o c (b + 1 + k - 1) (by omega) ho hc (by have := zb.size; omega) (HS.out.later hB zb) (HS'.out.later hB zb)).mono ?_
        rintro e w101 ⟨rfl, hb⟩
        rw [Hop.out]
        replace hbr := bthen hbr hb
        replace wa := has_call wa hb
        replace ta := has_call ta hb
        replace zb := bthen zb hb; clear hb
        have wac0 := has_cell wa 0 rfl; have wac1 := has_cell wa 1 rfl
        have walt := has_lt wa
        have tac0 := has_cell ta 0 rfl; have tac1 := has_cell ta 1 rfl; have tac2 := has_cell ta 2 rfl; have tac3 := has_cell ta 3 rfl; have tac4 := has_cell ta 4 rfl; have tac5 := has_cell ta 5 rfl; have tac6 := has_cell ta 6 rfl; have tac7 := has_cell ta 7 rfl
        have talt := has_lt ta
        have WAH := Lib.hid wa; clear wa
        have TAH := Lib.hid ta; clear ta
        have ZB := Lib.hid zb; clear zb
        go_wp2_with fail
        clear wac0 wac1 walt tac0 tac1 tac2 tac3 tac4 tac5 tac6 tac7 talt
        have wa := WAH.out; clear WAH
        have ta := TAH.out; clear TAH
        have zb := ZB.out; clear ZB
        refine (fee6_any _ t z (x + 1) e ⟨by omega, by omega⟩ HT.out ⟨by omega, by omega⟩ ⟨by omega, by omega⟩).mono ?_
        rintro e w102 ⟨rfl, hb⟩
        replace hbr := bthen hbr hb
        replace wa := has_call wa hb
        replace ta := has_call ta hb
        replace zb := bthen zb hb; clear hb
        have wac0 := has_cell wa 0 rfl; have wac1 := has_cell wa 1 rfl
        have walt := has_lt wa
        have tac0 := has_cell ta 0 rfl; have tac1 := has_cell ta 1 rfl; have tac2 := has_cell ta 2 rfl; have tac3 := has_cell ta 3 rfl; have tac4 := has_cell ta 4 rfl; have tac5 := has_cell ta 5 rfl; have tac6 := has_cell ta 6 rfl; have tac7 := has_cell ta 7 rfl
        have talt := has_lt ta
        have WAH := Lib.hid wa; clear wa
        have TAH := Lib.hid ta; clear ta
        have ZB := Lib.hid zb; clear zb
        go_wp2_with fail
        clear wac0 wac1 walt tac0 tac1 tac2 tac3 tac4 tac5 tac6 tac7 talt
        have wa := WAH.out; clear WAH
        have ta := TAH.out; clear TAH
        have zb := ZB.out; clear ZB
        go_roundw
        case rel => exact ⟨k + 1, (x + 1), by omega, by rw [show b + 1 + ((k + 1 : Nat) : Int) = b + 1 + k + 1 by omega], rfl, by omega, by omega, by rw [show b + 1 + ((k + 1 : Nat) : Int) = b + 1 + k + 1 by omega]; exact Hv.out, hbr⟩
        case measure => simp [intOf]; omega
end Go.Proofs.Ytpooffekjealhaa
