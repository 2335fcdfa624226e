/- Chapter 6: the walk of the law FnFees (gen_feex.py). -/
import Derived.Test.YtpooffekjealhaaFeeQ
import Derived.Test.YtpooffekjealhaaFeeE
import Derived.Test.YtpooffekjealhaaFeeW
import Derived.Test.YtpooffekjealhaaAny
import Derived.Deep.RegionHeld3
import Derived.Deep.DeepMust
namespace Go.Proofs.Ytpooffekjealhaa
open Go.RowKit
set_option linter.unusedVariables false
set_option maxRecDepth 100000 in
set_option maxHeartbeats 32000000 in
theorem fees_walk (w : World) (A : Option Addr) (na ca : Nat) (hn : na ≤ maxLen) (hS : BS w w.heap.size A na) : Calls Try.prog 4 #[.slice A na ca] w fun e w' => e = .returned (.bool true) ∧ Below w.heap.size w w' := by
  have HS := Lib.hid hS; clear hS
  have HBG := Lib.hid (fun W => big_any W A na ca hn)
  have HDW := Lib.hid (fun W (h : BS W W.heap.size A na) => drawWeek_any W A na ca hn h)
  have HDT := Lib.hid (fun W (h : BS W W.heap.size A na) => drawTerms_any W A na ca hn h)
  have HDP := Lib.hid (fun W (h : BS W W.heap.size A na) => places_any W A na ca hn h)
  clear hn
  by_cases hbig : (1048576 : Int) < na
  · have hd : decide ((1048576 : Int) < na) = true := by simpa using hbig
    have HD := Lib.hid hd; clear hd
    go_enter Try.func4, Try.ntmps4
    go_wp2_with (refine (HBG.out _).mono ?_; rintro e w' ⟨rfl, hw⟩; rw [hw, HD.out]; clear hw)
    go_ret
    exact ⟨rfl, Below.refl _ _⟩
  have hd : decide ((1048576 : Int) < na) = false := by simpa using hbig
  have HD := Lib.hid hd; clear hd hbig
  go_enter Try.func4, Try.ntmps4
  go_wp2_with (go_at_call 6; refine (HBG.out _).mono ?_; rintro e w' ⟨rfl, hw⟩; rw [hw, HD.out]; clear hw)
  have zb := Below.refl w.heap.size w
  refine (HDW.out w HS.out).mono ?_
  rintro e w1 ⟨A1, A2, m, m', o, c, rfl, hw, hlo, hlc, h5, h6, hb⟩
  have hsw1 := hb.size
  replace zb := bthen zb hb; clear hb
  have hlo' : o.length ≤ maxLen := by unfold maxLen; omega
  have hlc' : c.length ≤ maxLen := by unfold maxLen; omega
  have HW := Lib.hid hw; clear hw
  have SL_wk := Lib.hid h5; have SL_wkk := Lib.hid h6; clear h5 h6
  have ZB := Lib.hid zb; clear zb
  go_wp2_with fail
  have zb := ZB.out; clear ZB
  generalize hX : (w1.alloc (.cells #[.slice A1 o.length m, .slice A2 c.length m'] 26)) = w2
  have hb : Below w1.heap.size w1 w2 := by rw [← hX]; exact balloc _ _
  have hk : Has w2 w1.heap.size 26 #[.slice A1 o.length m, .slice A2 c.length m'] := by rw [← hX]; exact has_new _ _ _
  clear hX
  have kk := SL.later SL_wk.out (by omega) hb; clear SL_wk; have SL_wk := Lib.hid kk; clear kk
  have kk := SL.later SL_wkk.out (by omega) hb; clear SL_wkk; have SL_wkk := Lib.hid kk; clear kk
  have hsw2 := hb.size
  replace zb := bthen zb hb; clear hb
  have wa := hk; clear hk; have hlwa := has_lt wa
  refine (HDT.out _ ((HS.out.below zb).below' zb.size)).mono ?_
  rintro e w3 ⟨t, rfl, ht, hmost, hb⟩
  have kk := SL.later SL_wk.out (by omega) hb; clear SL_wk; have SL_wk := Lib.hid kk; clear kk
  have kk := SL.later SL_wkk.out (by omega) hb; clear SL_wkk; have SL_wkk := Lib.hid kk; clear kk
  have hsw3 := hb.size
  replace wa := has_call wa hb
  replace zb := bthen zb hb; clear hb
  have HT := Lib.hid ht; clear ht
  have wac0 := has_cell wa 0 rfl; have wac1 := has_cell wa 1 rfl
  have walt := has_lt wa
  have WAH := Lib.hid wa; clear wa
  have ZB := Lib.hid zb; clear zb
  go_wp2_with fail
  clear wac0 wac1 walt
  have wa := WAH.out; clear WAH
  have zb := ZB.out; clear ZB
  generalize hX : (w3.alloc (.cells #[.int .i64 t.keep, .int .i64 t.free, .int .i64 t.step, .int .i64 t.rate, .int .i64 t.cap, .int .i64 t.longer, .int .i64 t.price, .int .i64 t.most] 29)) = w4
  have hb : Below w3.heap.size w3 w4 := by rw [← hX]; exact balloc _ _
  have hk : Has w4 w3.heap.size 29 #[.int .i64 t.keep, .int .i64 t.free, .int .i64 t.step, .int .i64 t.rate, .int .i64 t.cap, .int .i64 t.longer, .int .i64 t.price, .int .i64 t.most] := by rw [← hX]; exact has_new _ _ _
  clear hX
  have kk := SL.later SL_wk.out (by omega) hb; clear SL_wk; have SL_wk := Lib.hid kk; clear kk
  have kk := SL.later SL_wkk.out (by omega) hb; clear SL_wkk; have SL_wkk := Lib.hid kk; clear kk
  have hsw4 := hb.size
  replace wa := has_call wa hb
  replace zb := bthen zb hb; clear hb
  have ta := hk; clear hk; have hlta := has_lt ta
  refine (HDP.out _ ((HS.out.below zb).below' zb.size)).mono ?_
  rintro e w5 ⟨bl, cp, l, rfl, hl12, hall, hcell, hbz, hbn, hb⟩
  have kk := SL.later SL_wk.out (by omega) hb; clear SL_wk; have SL_wk := Lib.hid kk; clear kk
  have kk := SL.later SL_wkk.out (by omega) hb; clear SL_wkk; have SL_wkk := Lib.hid kk; clear kk
  have hsw5 := hb.size
  replace wa := has_call wa hb
  replace ta := has_call ta hb
  replace zb := bthen zb hb; clear hb
  obtain ⟨x0, hx0⟩ : ∃ x, l[0]? = some x := ⟨_, List.getElem?_eq_getElem (by omega)⟩
  have r0 := hall x0 (List.mem_of_getElem? hx0); obtain ⟨p0, q0⟩ := r0
  have lc0 := hcell 0 x0 hx0
  obtain ⟨x1, hx1⟩ : ∃ x, l[1]? = some x := ⟨_, List.getElem?_eq_getElem (by omega)⟩
  have r1 := hall x1 (List.mem_of_getElem? hx1); obtain ⟨p1, q1⟩ := r1
  have lc1 := hcell 1 x1 hx1
  obtain ⟨x2, hx2⟩ : ∃ x, l[2]? = some x := ⟨_, List.getElem?_eq_getElem (by omega)⟩
  have r2 := hall x2 (List.mem_of_getElem? hx2); obtain ⟨p2, q2⟩ := r2
  have lc2 := hcell 2 x2 hx2
  obtain ⟨x3, hx3⟩ : ∃ x, l[3]? = some x := ⟨_, List.getElem?_eq_getElem (by omega)⟩
  have r3 := hall x3 (List.mem_of_getElem? hx3); obtain ⟨p3, q3⟩ := r3
  have lc3 := hcell 3 x3 hx3
  obtain ⟨x4, hx4⟩ : ∃ x, l[4]? = some x := ⟨_, List.getElem?_eq_getElem (by omega)⟩
  have r4 := hall x4 (List.mem_of_getElem? hx4); obtain ⟨p4, q4⟩ := r4
  have lc4 := hcell 4 x4 hx4
  clear hcell hall hl12 hx0 hx1 hx2 hx3 hx4
  have tt := (terms_iff t).1 HT.out; obtain ⟨t1, t2, t3, t4, t5, t6, t7, t8⟩ := tt
  have tm : IntKind.i64.wrap (t.most + 1) = t.most + 1 := IntWalk.i64_in _ (by omega)
  have tn : ¬ t.most + 1 = 0 := by omega
  have tn2 : (t.most + 1 == 0) = false := by simp; omega
  have hem : IntKind.i64.wrap (x3.tmod (t.most + 1)) = x3 % (t.most + 1) := by rw [IntWalk.rem_in _ _ (by omega)]; exact IntWalk.i64_in _ (by have := Int.emod_nonneg x3 tn; have := Int.emod_lt_of_pos x3 (show 0 < t.most + 1 by omega); omega)
  have hbz9 : bl < w5.heap.size := hbz
  have tac0 := has_cell ta 0 rfl; have tac1 := has_cell ta 1 rfl; have tac2 := has_cell ta 2 rfl; have tac3 := has_cell ta 3 rfl; have tac4 := has_cell ta 4 rfl; have tac5 := has_cell ta 5 rfl; have tac6 := has_cell ta 6 rfl; have tac7 := has_cell ta 7 rfl
  have talt := has_lt ta
  have WAH := Lib.hid wa; clear wa
  have TAH := Lib.hid ta; clear ta
  have ZB := Lib.hid zb; clear zb
  try go_wp2_with fail
  have S0 : (fun W : World => (W.cell? ⟨w3.heap.size, 0, none⟩ = some (.int .i64 t.keep) ∧ W.cell? ⟨w3.heap.size, 1, none⟩ = some (.int .i64 t.free) ∧ W.cell? ⟨w3.heap.size, 2, none⟩ = some (.int .i64 t.step) ∧ W.cell? ⟨w3.heap.size, 3, none⟩ = some (.int .i64 t.rate) ∧ W.cell? ⟨w3.heap.size, 4, none⟩ = some (.int .i64 t.cap) ∧ W.cell? ⟨w3.heap.size, 5, none⟩ = some (.int .i64 t.longer) ∧ W.cell? ⟨w3.heap.size, 6, none⟩ = some (.int .i64 t.price) ∧ W.cell? ⟨w3.heap.size, 7, none⟩ = some (.int .i64 t.most) ∧ W.cell? ⟨bl, 3, none⟩ = some (.int .i64 x3)) ∧ Below w5.heap.size w5 W) w5.drew := ⟨⟨tac0, tac1, tac2, tac3, tac4, tac5, tac6, tac7, lc3⟩, (Below.refl _ _).drew⟩
  have zc := ZB.out; have zd : Below w.heap.size w w5.drew := zc.drew; have hzz := zc.size
  have hlta9 := talt
  have hlx9 := hbz9
  clear tac0 tac1 tac2 tac3 tac4 tac5 tac6 tac7 talt
  go_region_held3 (fun W : World => (W.cell? ⟨w3.heap.size, 0, none⟩ = some (.int .i64 t.keep) ∧ W.cell? ⟨w3.heap.size, 1, none⟩ = some (.int .i64 t.free) ∧ W.cell? ⟨w3.heap.size, 2, none⟩ = some (.int .i64 t.step) ∧ W.cell? ⟨w3.heap.size, 3, none⟩ = some (.int .i64 t.rate) ∧ W.cell? ⟨w3.heap.size, 4, none⟩ = some (.int .i64 t.cap) ∧ W.cell? ⟨w3.heap.size, 5, none⟩ = some (.int .i64 t.longer) ∧ W.cell? ⟨w3.heap.size, 6, none⟩ = some (.int .i64 t.price) ∧ W.cell? ⟨w3.heap.size, 7, none⟩ = some (.int .i64 t.most) ∧ W.cell? ⟨bl, 3, none⟩ = some (.int .i64 x3)) ∧ Below w5.heap.size w5 W) (first | assumption) (first
    | (go_at_call 6; go_must (fail)))
  clear S0 zc zd hzz hlta9 hlx9
  have hb : Below w5.heap.size w5 w5.drew := (Below.refl _ _).drew
  have wa := WAH.out; clear WAH
  have ta := TAH.out; clear TAH
  have zb := ZB.out; clear ZB
  have kk := SL.later SL_wk.out (by omega) hb; clear SL_wk; have SL_wk := Lib.hid kk; clear kk
  have kk := SL.later SL_wkk.out (by omega) hb; clear SL_wkk; have SL_wkk := Lib.hid kk; clear kk
  replace lc4 := (bold hb _ _ hbz).trans lc4
  replace hbz := Nat.lt_of_lt_of_le hbz (Below.size hb)
  have hsw5.drew := hb.size
  replace wa := has_call wa hb
  replace ta := has_call ta hb
  replace zb := bthen zb hb; clear hb
  clear lc0 lc1 lc2 lc3 hem tn tn2 tm
  generalize ha : x0 % 300 = a
  generalize hd : x1 % 300 = d
  generalize hz : x2 % 6 = z
  have het := IntWalk.rem_in x3 (t.most + 1) (by omega)
  generalize x3.tmod (t.most + 1) = e at het ⊢
  have he := het.symm; clear het
  have hfa : FeeArg o c t (1 + z) a (a + d) e := ⟨HW.out, HT.out, by omega, by omega, by omega, by omega, by omega, by rw [← he]; exact Int.emod_nonneg _ (by omega), by rw [← he]; have := Int.emod_lt_of_pos x3 (show 0 < t.most + 1 by omega); omega⟩
  have ra : 0 ≤ a ∧ a < 300 := by omega
  have rd : 0 ≤ d ∧ d < 300 := by omega
  have rz : 0 ≤ z ∧ z < 6 := by omega
  have re : 0 ≤ e ∧ e ≤ 4 := ⟨hfa.e0, by have := hfa.em; omega⟩
  obtain ⟨a0, a1⟩ := ra; obtain ⟨d0, d1⟩ := rd; obtain ⟨z0, z1⟩ := rz; obtain ⟨e0, e1⟩ := re
  clear ha hd hz he p0 q0 p1 q1 p2 q2 p3 q3
  obtain ⟨f, hf⟩ : ∃ f, x4 % 100 = f := ⟨_, rfl⟩
  have f0 : 0 ≤ f := by omega
  have f1 : f < 100 := by omega
  have hf2 : x4.tmod 100 = f := (IntWalk.rem_in _ _ (by omega)).trans hf
  have hf3 : IntKind.i64.wrap f = f := IntWalk.i64_in _ (by omega)
  have hf4 : IntKind.i64.wrap (a + d + f) = a + d + f := IntWalk.i64_in _ (by omega)
  have HFF := Lib.hid (And.intro hf (And.intro hf2 (And.intro hf3 hf4))); clear hf hf2 hf3 hf4
  obtain ⟨v, hv⟩ : ∃ v, feeB o c t (1 + z) a (a + d) e = v := ⟨_, rfl⟩
  obtain ⟨v2, hv2⟩ : ∃ v, feeB o c t (1 + z) a (a + d + f) e = v := ⟨_, rfl⟩
  obtain ⟨p, hp⟩ : ∃ p, e * t.price = p := ⟨_, rfl⟩
  have qb := price_bound HT.out hfa.e0 hfa.em
  rw [Int.mul_comm, hp] at qb
  obtain ⟨qb0, qb1⟩ := qb
  have hpw : IntKind.i64.wrap (e * t.price) = p := (IntWalk.i64_in _ (by omega)).trans hp
  have sr := stor_nonneg HT.out (show 0 ≤ 1 + z by omega) (hoursB o c a (a + d))
  have hvi := hfa.is; rw [hv, Int.mul_comm t.price e, hp] at hvi
  have hcap : storB t (1 + z) (hoursB o c a (a + d)) ≤ t.cap := by unfold storB; omega
  have hv1 : p ≤ v ∧ v ≤ p + t.cap := by omega
  obtain ⟨hv10, hv11⟩ := hv1
  have hl := hfa.later (show a + d ≤ a + d + f by omega) (by omega)
  rw [hv, hv2] at hl
  have hv2b : v2 ≤ 3000000 := by rcases fee_range o c t (1 + z) a (a + d + f) e with h9 | h9 <;> omega
  have hpc : IntKind.i64.wrap (p + t.cap) = p + t.cap := IntWalk.i64_in _ (by omega)
  clear sr hvi hcap
  obtain ⟨u, hu, u0, u1, hfree, hpast⟩ := free_law hfa
  rw [hv, Int.mul_comm t.price e, hp] at hfree
  simp only [Int.mul_comm t.price e, hp] at hpast
  have hbk := hfa.back
  have HFA := Lib.hid hfa; have HV := Lib.hid hv; have HV2 := Lib.hid hv2; have HU := Lib.hid hu; have HBK := Lib.hid hbk; have HPA := Lib.hid hpast; have HFR := Lib.hid hfree; have HP := Lib.hid hp
  clear hfa hv hv2 hu hbk hpast hfree hp
  have nv : (v != v) = false := by simp
  have nv2 : (v == v) = true := by simp
  have wac0 := has_cell wa 0 rfl; have wac1 := has_cell wa 1 rfl
  have walt := has_lt wa
  have tac0 := has_cell ta 0 rfl; have tac1 := has_cell ta 1 rfl; have tac2 := has_cell ta 2 rfl; have tac3 := has_cell ta 3 rfl; have tac4 := has_cell ta 4 rfl; have tac5 := has_cell ta 5 rfl; have tac6 := has_cell ta 6 rfl; have tac7 := has_cell ta 7 rfl
  have talt := has_lt ta
  have WAH := Lib.hid wa; clear wa
  have TAH := Lib.hid ta; clear ta
  have ZB := Lib.hid zb; clear zb
  go_wp2_with fail
  clear wac0 wac1 walt tac0 tac1 tac2 tac3 tac4 tac5 tac6 tac7 talt
  have wa := WAH.out; clear WAH
  have ta := TAH.out; clear TAH
  have zb := ZB.out; clear ZB
  refine (feeI_any _ w1.heap.size A1 A2 m m' o c t (1 + z) a (a + d) e hlo' hlc' (by omega) SL_wk.out SL_wkk.out).mono ?_
  rintro e w6 ⟨rfl, hb⟩
  rw [HV.out]
  have kk := SL.later SL_wk.out (by omega) hb; clear SL_wk; have SL_wk := Lib.hid kk; clear kk
  have kk := SL.later SL_wkk.out (by omega) hb; clear SL_wkk; have SL_wkk := Lib.hid kk; clear kk
  replace lc4 := (bold hb _ _ hbz).trans lc4
  replace hbz := Nat.lt_of_lt_of_le hbz (Below.size hb)
  have hsw6 := hb.size
  replace wa := has_call wa hb
  replace ta := has_call ta hb
  replace zb := bthen zb hb; clear hb
  have hbz9 : bl < w6.heap.size := by omega
  obtain ⟨hf, hf2, hf3, hf4⟩ := HFF.out
  have wac0 := has_cell wa 0 rfl; have wac1 := has_cell wa 1 rfl
  have walt := has_lt wa
  have tac0 := has_cell ta 0 rfl; have tac1 := has_cell ta 1 rfl; have tac2 := has_cell ta 2 rfl; have tac3 := has_cell ta 3 rfl; have tac4 := has_cell ta 4 rfl; have tac5 := has_cell ta 5 rfl; have tac6 := has_cell ta 6 rfl; have tac7 := has_cell ta 7 rfl
  have talt := has_lt ta
  have WAH := Lib.hid wa; clear wa
  have TAH := Lib.hid ta; clear ta
  have ZB := Lib.hid zb; clear zb
  try go_wp2_with fail
  have S0 : (fun W : World => (W.cell? ⟨w1.heap.size, 0, none⟩ = some (.slice A1 o.length m) ∧ W.cell? ⟨w1.heap.size, 1, none⟩ = some (.slice A2 c.length m') ∧ W.cell? ⟨w3.heap.size, 0, none⟩ = some (.int .i64 t.keep) ∧ W.cell? ⟨w3.heap.size, 1, none⟩ = some (.int .i64 t.free) ∧ W.cell? ⟨w3.heap.size, 2, none⟩ = some (.int .i64 t.step) ∧ W.cell? ⟨w3.heap.size, 3, none⟩ = some (.int .i64 t.rate) ∧ W.cell? ⟨w3.heap.size, 4, none⟩ = some (.int .i64 t.cap) ∧ W.cell? ⟨w3.heap.size, 5, none⟩ = some (.int .i64 t.longer) ∧ W.cell? ⟨w3.heap.size, 6, none⟩ = some (.int .i64 t.price) ∧ W.cell? ⟨w3.heap.size, 7, none⟩ = some (.int .i64 t.most) ∧ W.cell? ⟨bl, 4, none⟩ = some (.int .i64 x4)) ∧ Below w6.heap.size w6 W) w6.drew := ⟨⟨wac0, wac1, tac0, tac1, tac2, tac3, tac4, tac5, tac6, tac7, lc4⟩, (Below.refl _ _).drew⟩
  have zc := ZB.out; have zd : Below w.heap.size w w6.drew := zc.drew; have hzz := zc.size
  have hlwa9 := walt
  have hlta9 := talt
  have hlx9 := hbz9
  clear wac0 wac1 walt tac0 tac1 tac2 tac3 tac4 tac5 tac6 tac7 talt
  go_region_held3 (fun W : World => (W.cell? ⟨w1.heap.size, 0, none⟩ = some (.slice A1 o.length m) ∧ W.cell? ⟨w1.heap.size, 1, none⟩ = some (.slice A2 c.length m') ∧ W.cell? ⟨w3.heap.size, 0, none⟩ = some (.int .i64 t.keep) ∧ W.cell? ⟨w3.heap.size, 1, none⟩ = some (.int .i64 t.free) ∧ W.cell? ⟨w3.heap.size, 2, none⟩ = some (.int .i64 t.step) ∧ W.cell? ⟨w3.heap.size, 3, none⟩ = some (.int .i64 t.rate) ∧ W.cell? ⟨w3.heap.size, 4, none⟩ = some (.int .i64 t.cap) ∧ W.cell? ⟨w3.heap.size, 5, none⟩ = some (.int .i64 t.longer) ∧ W.cell? ⟨w3.heap.size, 6, none⟩ = some (.int .i64 t.price) ∧ W.cell? ⟨w3.heap.size, 7, none⟩ = some (.int .i64 t.most) ∧ W.cell? ⟨bl, 4, none⟩ = some (.int .i64 x4)) ∧ Below w6.heap.size w6 W) (first | assumption) (first
    | (go_at_call 17; go_must (refine (feeI_any w6.drew w1.heap.size A1 A2 m m' o c t (1 + z) a (a + d + f) e hlo' hlc' (show w1.heap.size ≤ w6.heap.size by omega) (SL.later SL_wk.out (by omega) ((Below.refl w6.heap.size w6).drew)) (SL.later SL_wkk.out (by omega) ((Below.refl w6.heap.size w6).drew))).mono ?_); rintro e wr1 ⟨rfl, h1⟩; rw [HV2.out]; have hv1 : Below w6.heap.size w6 wr1 := ((Below.refl w6.heap.size w6).drew).trans h1; have hz1 := hv1.size; have S1 : (fun W : World => (W.cell? ⟨w1.heap.size, 0, none⟩ = some (.slice A1 o.length m) ∧ W.cell? ⟨w1.heap.size, 1, none⟩ = some (.slice A2 c.length m') ∧ W.cell? ⟨w3.heap.size, 0, none⟩ = some (.int .i64 t.keep) ∧ W.cell? ⟨w3.heap.size, 1, none⟩ = some (.int .i64 t.free) ∧ W.cell? ⟨w3.heap.size, 2, none⟩ = some (.int .i64 t.step) ∧ W.cell? ⟨w3.heap.size, 3, none⟩ = some (.int .i64 t.rate) ∧ W.cell? ⟨w3.heap.size, 4, none⟩ = some (.int .i64 t.cap) ∧ W.cell? ⟨w3.heap.size, 5, none⟩ = some (.int .i64 t.longer) ∧ W.cell? ⟨w3.heap.size, 6, none⟩ = some (.int .i64 t.price) ∧ W.cell? ⟨w3.heap.size, 7, none⟩ = some (.int .i64 t.most) ∧ W.cell? ⟨bl, 4, none⟩ = some (.int .i64 x4)) ∧ Below w6.heap.size w6 W) wr1 := ⟨⟨(bold hv1 _ _ (by omega)).trans S0.1.1, (bold hv1 _ _ (by omega)).trans S0.1.2.1, (bold hv1 _ _ (by omega)).trans S0.1.2.2.1, (bold hv1 _ _ (by omega)).trans S0.1.2.2.2.1, (bold hv1 _ _ (by omega)).trans S0.1.2.2.2.2.1, (bold hv1 _ _ (by omega)).trans S0.1.2.2.2.2.2.1, (bold hv1 _ _ (by omega)).trans S0.1.2.2.2.2.2.2.1, (bold hv1 _ _ (by omega)).trans S0.1.2.2.2.2.2.2.2.1, (bold hv1 _ _ (by omega)).trans S0.1.2.2.2.2.2.2.2.2.1, (bold hv1 _ _ (by omega)).trans S0.1.2.2.2.2.2.2.2.2.2.1, (bold hv1 _ _ (by omega)).trans S0.1.2.2.2.2.2.2.2.2.2.2⟩, hv1⟩))
  have hb : Below w6.heap.size w6 wr1 := hv1
  clear S0 S1 zc zd hzz hlwa9 hlta9 hlx9 hz1 hv1 h1
  have wa := WAH.out; clear WAH
  have ta := TAH.out; clear TAH
  have zb := ZB.out; clear ZB
  have kk := SL.later SL_wk.out (by omega) hb; clear SL_wk; have SL_wk := Lib.hid kk; clear kk
  have kk := SL.later SL_wkk.out (by omega) hb; clear SL_wkk; have SL_wkk := Lib.hid kk; clear kk
  replace lc4 := (bold hb _ _ hbz).trans lc4
  replace hbz := Nat.lt_of_lt_of_le hbz (Below.size hb)
  have hswr1 := hb.size
  replace wa := has_call wa hb
  replace ta := has_call ta hb
  replace zb := bthen zb hb; clear hb
  clear lc4 p4 q4 hf hf2 hf3 hf4
  have wac0 := has_cell wa 0 rfl; have wac1 := has_cell wa 1 rfl
  have walt := has_lt wa
  have tac0 := has_cell ta 0 rfl; have tac1 := has_cell ta 1 rfl; have tac2 := has_cell ta 2 rfl; have tac3 := has_cell ta 3 rfl; have tac4 := has_cell ta 4 rfl; have tac5 := has_cell ta 5 rfl; have tac6 := has_cell ta 6 rfl; have tac7 := has_cell ta 7 rfl
  have talt := has_lt ta
  have WAH := Lib.hid wa; clear wa
  have TAH := Lib.hid ta; clear ta
  have ZB := Lib.hid zb; clear zb
  go_wp2_with fail
  clear wac0 wac1 walt tac0 tac1 tac2 tac3 tac4 tac5 tac6 tac7 talt
  have wa := WAH.out; clear WAH
  have ta := TAH.out; clear TAH
  have zb := ZB.out; clear ZB
  refine (freeI_any _ w1.heap.size A1 A2 m m' o c t a hlo' hlc' (by omega) SL_wk.out SL_wkk.out).mono ?_
  rintro e w8 ⟨rfl, hb⟩
  rw [HU.out]
  have kk := SL.later SL_wk.out (by omega) hb; clear SL_wk; have SL_wk := Lib.hid kk; clear kk
  have kk := SL.later SL_wkk.out (by omega) hb; clear SL_wkk; have SL_wkk := Lib.hid kk; clear kk
  have hsw8 := hb.size
  replace wa := has_call wa hb
  replace ta := has_call ta hb
  replace zb := bthen zb hb; clear hb
  unfold pairV
  have wac0 := has_cell wa 0 rfl; have wac1 := has_cell wa 1 rfl
  have walt := has_lt wa
  have tac0 := has_cell ta 0 rfl; have tac1 := has_cell ta 1 rfl; have tac2 := has_cell ta 2 rfl; have tac3 := has_cell ta 3 rfl; have tac4 := has_cell ta 4 rfl; have tac5 := has_cell ta 5 rfl; have tac6 := has_cell ta 6 rfl; have tac7 := has_cell ta 7 rfl
  have talt := has_lt ta
  have WAH := Lib.hid wa; clear wa
  have TAH := Lib.hid ta; clear ta
  have ZB := Lib.hid zb; clear zb
  go_wp2_with fail
  clear wac0 wac1 walt tac0 tac1 tac2 tac3 tac4 tac5 tac6 tac7 talt
  have wa := WAH.out; clear WAH
  have ta := TAH.out; clear TAH
  have zb := ZB.out; clear ZB
  refine (feeS_any _ w1.heap.size A1 A2 m m' o c t (1 + z) a (a + d) e hlo' hlc' (by omega) SL_wk.out SL_wkk.out).mono ?_
  rintro e w9 ⟨rfl, hb⟩
  rw [HV.out]
  have kk := SL.later SL_wk.out (by omega) hb; clear SL_wk; have SL_wk := Lib.hid kk; clear kk
  have kk := SL.later SL_wkk.out (by omega) hb; clear SL_wkk; have SL_wkk := Lib.hid kk; clear kk
  have hsw9 := hb.size
  replace wa := has_call wa hb
  replace ta := has_call ta hb
  replace zb := bthen zb hb; clear hb
  by_cases hbu : a + d ≤ u
  · skip
    have hvp := HFR.out hbu
    have nvp : (v != p) = false := by rw [hvp]; simp
    clear hvp
    have wac0 := has_cell wa 0 rfl; have wac1 := has_cell wa 1 rfl
    have walt := has_lt wa
    have tac0 := has_cell ta 0 rfl; have tac1 := has_cell ta 1 rfl; have tac2 := has_cell ta 2 rfl; have tac3 := has_cell ta 3 rfl; have tac4 := has_cell ta 4 rfl; have tac5 := has_cell ta 5 rfl; have tac6 := has_cell ta 6 rfl; have tac7 := has_cell ta 7 rfl
    have talt := has_lt ta
    have WAH := Lib.hid wa; clear wa
    have TAH := Lib.hid ta; clear ta
    have ZB := Lib.hid zb; clear zb
    go_wp2_with fail
    clear wac0 wac1 walt tac0 tac1 tac2 tac3 tac4 tac5 tac6 tac7 talt
    have wa := WAH.out; clear WAH
    have ta := TAH.out; clear TAH
    have zb := ZB.out; clear ZB
    refine (feeI_any _ w1.heap.size A1 A2 m m' o c t (1 + z) a (a - 1) e hlo' hlc' (by omega) SL_wk.out SL_wkk.out).mono ?_
    rintro e w10 ⟨rfl, hb⟩
    rw [HBK.out]
    have kk := SL.later SL_wk.out (by omega) hb; clear SL_wk; have SL_wk := Lib.hid kk; clear kk
    have kk := SL.later SL_wkk.out (by omega) hb; clear SL_wkk; have SL_wkk := Lib.hid kk; clear kk
    have hsw10 := hb.size
    replace wa := has_call wa hb
    replace ta := has_call ta hb
    replace zb := bthen zb hb; clear hb
    have wac0 := has_cell wa 0 rfl; have wac1 := has_cell wa 1 rfl
    have walt := has_lt wa
    have tac0 := has_cell ta 0 rfl; have tac1 := has_cell ta 1 rfl; have tac2 := has_cell ta 2 rfl; have tac3 := has_cell ta 3 rfl; have tac4 := has_cell ta 4 rfl; have tac5 := has_cell ta 5 rfl; have tac6 := has_cell ta 6 rfl; have tac7 := has_cell ta 7 rfl
    have talt := has_lt ta
    have WAH := Lib.hid wa; clear wa
    have TAH := Lib.hid ta; clear ta
    have ZB := Lib.hid zb; clear zb
    go_wp2_with fail
    clear wac0 wac1 walt tac0 tac1 tac2 tac3 tac4 tac5 tac6 tac7 talt
    have wa := WAH.out; clear WAH
    have ta := TAH.out; clear TAH
    have zb := ZB.out; clear ZB
    clear nvp
    clear hbu
    have hcs : ¬ u < 20000 ∨ (u < 20000 ∧ ¬ 0 < t.rate) ∨ (u < 20000 ∧ 0 < t.rate ∧ ¬ 0 < t.cap) ∨ (u < 20000 ∧ 0 < t.rate ∧ 0 < t.cap) := by omega
    rcases hcs with hc1 | ⟨hc1, hc2⟩ | ⟨hc1, hc2, hc3⟩ | ⟨hc1, hc2, hc3⟩
    · skip
      have d1 : decide (u < 20000) = false := decide_eq_false hc1
      have wac0 := has_cell wa 0 rfl; have wac1 := has_cell wa 1 rfl
      have walt := has_lt wa
      have tac0 := has_cell ta 0 rfl; have tac1 := has_cell ta 1 rfl; have tac2 := has_cell ta 2 rfl; have tac3 := has_cell ta 3 rfl; have tac4 := has_cell ta 4 rfl; have tac5 := has_cell ta 5 rfl; have tac6 := has_cell ta 6 rfl; have tac7 := has_cell ta 7 rfl
      have talt := has_lt ta
      have WAH := Lib.hid wa; clear wa
      have TAH := Lib.hid ta; clear ta
      have ZB := Lib.hid zb; clear zb
      try go_wp2_with fail
      have S0 : (fun W : World => (W.cell? ⟨w1.heap.size, 0, none⟩ = some (.slice A1 o.length m) ∧ W.cell? ⟨w1.heap.size, 1, none⟩ = some (.slice A2 c.length m') ∧ W.cell? ⟨w3.heap.size, 0, none⟩ = some (.int .i64 t.keep) ∧ W.cell? ⟨w3.heap.size, 1, none⟩ = some (.int .i64 t.free) ∧ W.cell? ⟨w3.heap.size, 2, none⟩ = some (.int .i64 t.step) ∧ W.cell? ⟨w3.heap.size, 3, none⟩ = some (.int .i64 t.rate) ∧ W.cell? ⟨w3.heap.size, 4, none⟩ = some (.int .i64 t.cap) ∧ W.cell? ⟨w3.heap.size, 5, none⟩ = some (.int .i64 t.longer) ∧ W.cell? ⟨w3.heap.size, 6, none⟩ = some (.int .i64 t.price) ∧ W.cell? ⟨w3.heap.size, 7, none⟩ = some (.int .i64 t.most)) ∧ Below w10.heap.size w10 W) w10.drew := ⟨⟨wac0, wac1, tac0, tac1, tac2, tac3, tac4, tac5, tac6, tac7⟩, (Below.refl _ _).drew⟩
      have zc := ZB.out; have hzz := zc.size; have hlwa9 := walt; have hlta9 := talt
      clear wac0 wac1 walt tac0 tac1 tac2 tac3 tac4 tac5 tac6 tac7 talt
      refine wp_region_held_drew (S := (fun W : World => (W.cell? ⟨w1.heap.size, 0, none⟩ = some (.slice A1 o.length m) ∧ W.cell? ⟨w1.heap.size, 1, none⟩ = some (.slice A2 c.length m') ∧ W.cell? ⟨w3.heap.size, 0, none⟩ = some (.int .i64 t.keep) ∧ W.cell? ⟨w3.heap.size, 1, none⟩ = some (.int .i64 t.free) ∧ W.cell? ⟨w3.heap.size, 2, none⟩ = some (.int .i64 t.step) ∧ W.cell? ⟨w3.heap.size, 3, none⟩ = some (.int .i64 t.rate) ∧ W.cell? ⟨w3.heap.size, 4, none⟩ = some (.int .i64 t.cap) ∧ W.cell? ⟨w3.heap.size, 5, none⟩ = some (.int .i64 t.longer) ∧ W.cell? ⟨w3.heap.size, 6, none⟩ = some (.int .i64 t.price) ∧ W.cell? ⟨w3.heap.size, 7, none⟩ = some (.int .i64 t.most)) ∧ Below w10.heap.size w10 W)) (by kernel_rfl) S0 (fun _ => ?_)
      refine any_take (i := 0) (some 135) (.int .i64 u) rfl rfl (by kernel_rfl) (by kernel_rfl) (by kernel_rfl) (fun _ _ _ h => h) rfl (fun W hSw => ?_) (S0) ?_
      · (try dsimp only at hSw); go_simp <;> with_reducible rfl
      try simp only [Act.put, List.setIfInBounds_toArray, List.set_cons_zero, List.set_cons_succ]
      refine any_take (i := 1) (some 136) (.bool false) rfl rfl (by kernel_rfl) (by kernel_rfl) (by kernel_rfl) (fun _ _ _ h => h) rfl (fun W hSw => ?_) (S0) ?_
      · (try dsimp only at hSw); go_simp <;> with_reducible rfl
      try simp only [Act.put, List.setIfInBounds_toArray, List.set_cons_zero, List.set_cons_succ]
      refine any_take (i := 2) (some 137) (.bool false) rfl rfl (by kernel_rfl) (by kernel_rfl) (by kernel_rfl) (fun _ _ _ h => h) rfl (fun W hSw => ?_) (S0) ?_
      · (try dsimp only at hSw); go_simp <;> with_reducible rfl
      try simp only [Act.put, List.setIfInBounds_toArray, List.set_cons_zero, List.set_cons_succ]
      refine any_skip (i := 3) (some 138) rfl rfl (by kernel_rfl) (by kernel_rfl) (by kernel_rfl) (fun _ _ _ h => h) rfl (S0) ?_
      try simp only [Act.put, List.setIfInBounds_toArray, List.set_cons_zero, List.set_cons_succ]
      refine any_skip (i := 4) (some 139) rfl rfl (by kernel_rfl) (by kernel_rfl) (by kernel_rfl) (fun _ _ _ h => h) rfl (S0) ?_
      try simp only [Act.put, List.setIfInBounds_toArray, List.set_cons_zero, List.set_cons_succ]
      refine any_skip (i := 5) (some 140) rfl rfl (by kernel_rfl) (by kernel_rfl) (by kernel_rfl) (fun _ _ _ h => h) rfl (S0) ?_
      try simp only [Act.put, List.setIfInBounds_toArray, List.set_cons_zero, List.set_cons_succ]
      refine any_take (i := 6) (some 141) (.bool false) rfl rfl (by kernel_rfl) (by kernel_rfl) (by kernel_rfl) (fun _ _ _ h => h) rfl (fun W hSw => ?_) (S0) ?_
      · (try dsimp only at hSw); go_simp <;> with_reducible rfl
      try simp only [Act.put, List.setIfInBounds_toArray, List.set_cons_zero, List.set_cons_succ]
      refine any_take (i := 7) (some 142) (.bool false) rfl rfl (by kernel_rfl) (by kernel_rfl) (by kernel_rfl) (fun _ _ _ h => h) rfl (fun W hSw => ?_) (S0) ?_
      · (try dsimp only at hSw); go_simp <;> with_reducible rfl
      try simp only [Act.put, List.setIfInBounds_toArray, List.set_cons_zero, List.set_cons_succ]
      refine any_skip (i := 8) (some 143) rfl rfl (by kernel_rfl) (by kernel_rfl) (by kernel_rfl) (fun _ _ _ h => h) rfl (S0) ?_
      try simp only [Act.put, List.setIfInBounds_toArray, List.set_cons_zero, List.set_cons_succ]
      refine any_skip (i := 9) (some 144) rfl rfl (by kernel_rfl) (by kernel_rfl) (by kernel_rfl) (fun _ _ _ h => h) rfl (S0) ?_
      try simp only [Act.put, List.setIfInBounds_toArray, List.set_cons_zero, List.set_cons_succ]
      refine any_skip (i := 10) (some 145) rfl rfl (by kernel_rfl) (by kernel_rfl) (by kernel_rfl) (fun _ _ _ h => h) rfl (S0) ?_
      try simp only [Act.put, List.setIfInBounds_toArray, List.set_cons_zero, List.set_cons_succ]
      refine any_take (i := 11) (some 146) (.bool false) rfl rfl (by kernel_rfl) (by kernel_rfl) (by kernel_rfl) (fun _ _ _ h => h) rfl (fun W hSw => ?_) (S0) ?_
      · (try dsimp only at hSw); go_simp <;> with_reducible rfl
      try simp only [Act.put, List.setIfInBounds_toArray, List.set_cons_zero, List.set_cons_succ]
      refine any_take (i := 12) (some 147) (.bool false) rfl rfl (by kernel_rfl) (by kernel_rfl) (by kernel_rfl) (fun _ _ _ h => h) rfl (fun W hSw => ?_) (S0) ?_
      · (try dsimp only at hSw); go_simp <;> with_reducible rfl
      try simp only [Act.put, List.setIfInBounds_toArray, List.set_cons_zero, List.set_cons_succ]
      refine any_skip (i := 13) (some 148) rfl rfl (by kernel_rfl) (by kernel_rfl) (by kernel_rfl) (fun _ _ _ h => h) rfl (S0) ?_
      try simp only [Act.put, List.setIfInBounds_toArray, List.set_cons_zero, List.set_cons_succ]
      refine any_skip (i := 14) (some 149) rfl rfl (by kernel_rfl) (by kernel_rfl) (by kernel_rfl) (fun _ _ _ h => h) rfl (S0) ?_
      try simp only [Act.put, List.setIfInBounds_toArray, List.set_cons_zero, List.set_cons_succ]
      refine any_skip (i := 15) (some 150) rfl rfl (by kernel_rfl) (by kernel_rfl) (by kernel_rfl) (fun _ _ _ h => h) rfl (S0) ?_
      try simp only [Act.put, List.setIfInBounds_toArray, List.set_cons_zero, List.set_cons_succ]
      refine any_skip (i := 16) (some 151) rfl rfl (by kernel_rfl) (by kernel_rfl) (by kernel_rfl) (fun _ _ _ h => h) rfl (S0) ?_
      try simp only [Act.put, List.setIfInBounds_toArray, List.set_cons_zero, List.set_cons_succ]
      refine any_skip (i := 17) (some 152) rfl rfl (by kernel_rfl) (by kernel_rfl) (by kernel_rfl) (fun _ _ _ h => h) rfl (S0) ?_
      try simp only [Act.put, List.setIfInBounds_toArray, List.set_cons_zero, List.set_cons_succ]
      refine any_skip (i := 18) (some 153) rfl rfl (by kernel_rfl) (by kernel_rfl) (by kernel_rfl) (fun _ _ _ h => h) rfl (S0) ?_
      try simp only [Act.put, List.setIfInBounds_toArray, List.set_cons_zero, List.set_cons_succ]
      refine any_skip (i := 19) (some 154) rfl rfl (by kernel_rfl) (by kernel_rfl) (by kernel_rfl) (fun _ _ _ h => h) rfl (S0) ?_
      try simp only [Act.put, List.setIfInBounds_toArray, List.set_cons_zero, List.set_cons_succ]
      refine any_skip (i := 21) (some 156) rfl rfl (by kernel_rfl) (by kernel_rfl) (by kernel_rfl) (fun _ _ _ h => h) rfl (S0) ?_
      try simp only [Act.put, List.setIfInBounds_toArray, List.set_cons_zero, List.set_cons_succ]
      refine any_skip (i := 22) (some 157) rfl rfl (by kernel_rfl) (by kernel_rfl) (by kernel_rfl) (fun _ _ _ h => h) rfl (S0) ?_
      try simp only [Act.put, List.setIfInBounds_toArray, List.set_cons_zero, List.set_cons_succ]
      refine any_skip (i := 23) (some 158) rfl rfl (by kernel_rfl) (by kernel_rfl) (by kernel_rfl) (fun _ _ _ h => h) rfl (S0) ?_
      try simp only [Act.put, List.setIfInBounds_toArray, List.set_cons_zero, List.set_cons_succ]
      refine any_skip (i := 24) (some 159) rfl rfl (by kernel_rfl) (by kernel_rfl) (by kernel_rfl) (fun _ _ _ h => h) rfl (S0) ?_
      try simp only [Act.put, List.setIfInBounds_toArray, List.set_cons_zero, List.set_cons_succ]
      refine any_skip (i := 20) (some 155) rfl rfl (by kernel_rfl) (by kernel_rfl) (by kernel_rfl) (fun _ _ _ h => h) rfl (S0) ?_
      try simp only [Act.put, List.setIfInBounds_toArray, List.set_cons_zero, List.set_cons_succ]
      refine any_skip (i := 25) (some 160) rfl rfl (by kernel_rfl) (by kernel_rfl) (by kernel_rfl) (fun _ _ _ h => h) rfl (S0) ?_
      try simp only [Act.put, List.setIfInBounds_toArray, List.set_cons_zero, List.set_cons_succ]
      refine any_take (i := 26) (some 161) (.bool false) rfl rfl (by kernel_rfl) (by kernel_rfl) (by kernel_rfl) (fun _ _ _ h => h) rfl (fun W hSw => ?_) (S0) ?_
      · (try dsimp only at hSw); go_simp <;> with_reducible rfl
      try simp only [Act.put, List.setIfInBounds_toArray, List.set_cons_zero, List.set_cons_succ]
      refine wpAnyH_done (by kernel_rfl) ?_ _
      have hb : Below w10.heap.size w10 w10.drew := S0.2
      clear S0 zc hzz hlwa9 hlta9
      have wa := WAH.out; clear WAH
      have ta := TAH.out; clear TAH
      have zb := ZB.out; clear ZB
      have kk := SL.later SL_wk.out (by omega) hb; clear SL_wk; have SL_wk := Lib.hid kk; clear kk
      have kk := SL.later SL_wkk.out (by omega) hb; clear SL_wkk; have SL_wkk := Lib.hid kk; clear kk
      have hsw10.drew := hb.size
      replace wa := has_call wa hb
      replace ta := has_call ta hb
      replace zb := bthen zb hb; clear hb
      obtain ⟨q, hq⟩ : ∃ q, nextB o c t (1 + z) a (a + d) e = q := ⟨_, rfl⟩
      cases q with
      | none =>
        have hn := next_none6 HFA.out hq; rw [HV.out] at hn
        have HN := Lib.hid hn; have HQ := Lib.hid hq; clear hn hq
        have wac0 := has_cell wa 0 rfl; have wac1 := has_cell wa 1 rfl
        have walt := has_lt wa
        have tac0 := has_cell ta 0 rfl; have tac1 := has_cell ta 1 rfl; have tac2 := has_cell ta 2 rfl; have tac3 := has_cell ta 3 rfl; have tac4 := has_cell ta 4 rfl; have tac5 := has_cell ta 5 rfl; have tac6 := has_cell ta 6 rfl; have tac7 := has_cell ta 7 rfl
        have talt := has_lt ta
        have WAH := Lib.hid wa; clear wa
        have TAH := Lib.hid ta; clear ta
        have ZB := Lib.hid zb; clear zb
        go_wp2_with fail
        clear wac0 wac1 walt tac0 tac1 tac2 tac3 tac4 tac5 tac6 tac7 talt
        have wa := WAH.out; clear WAH
        have ta := TAH.out; clear TAH
        have zb := ZB.out; clear ZB
        refine (nextI_any _ w1.heap.size A1 A2 m m' o c t (1 + z) a (a + d) e hlo' hlc' (by omega) SL_wk.out SL_wkk.out).mono ?_
        rintro e w12 ⟨rfl, hb⟩
        rw [HQ.out]
        have kk := SL.later SL_wk.out (by omega) hb; clear SL_wk; have SL_wk := Lib.hid kk; clear kk
        have kk := SL.later SL_wkk.out (by omega) hb; clear SL_wkk; have SL_wkk := Lib.hid kk; clear kk
        have hsw12 := hb.size
        replace wa := has_call wa hb
        replace ta := has_call ta hb
        replace zb := bthen zb hb; clear hb
        unfold pairV
        have wac0 := has_cell wa 0 rfl; have wac1 := has_cell wa 1 rfl
        have walt := has_lt wa
        have tac0 := has_cell ta 0 rfl; have tac1 := has_cell ta 1 rfl; have tac2 := has_cell ta 2 rfl; have tac3 := has_cell ta 3 rfl; have tac4 := has_cell ta 4 rfl; have tac5 := has_cell ta 5 rfl; have tac6 := has_cell ta 6 rfl; have tac7 := has_cell ta 7 rfl
        have talt := has_lt ta
        have WAH := Lib.hid wa; clear wa
        have TAH := Lib.hid ta; clear ta
        have ZB := Lib.hid zb; clear zb
        go_wp2_with fail
        clear wac0 wac1 walt tac0 tac1 tac2 tac3 tac4 tac5 tac6 tac7 talt
        have wa := WAH.out; clear WAH
        have ta := TAH.out; clear TAH
        have zb := ZB.out; clear ZB
        refine (nextS_any _ w1.heap.size A1 A2 m m' o c t (1 + z) a (a + d) e hlo' hlc' (by omega) SL_wk.out SL_wkk.out).mono ?_
        rintro e w13 ⟨rfl, hb⟩
        rw [HQ.out]
        have kk := SL.later SL_wk.out (by omega) hb; clear SL_wk; have SL_wk := Lib.hid kk; clear kk
        have kk := SL.later SL_wkk.out (by omega) hb; clear SL_wkk; have SL_wkk := Lib.hid kk; clear kk
        have hsw13 := hb.size
        replace wa := has_call wa hb
        replace ta := has_call ta hb
        replace zb := bthen zb hb; clear hb
        unfold pairV
        have wac0 := has_cell wa 0 rfl; have wac1 := has_cell wa 1 rfl
        have walt := has_lt wa
        have tac0 := has_cell ta 0 rfl; have tac1 := has_cell ta 1 rfl; have tac2 := has_cell ta 2 rfl; have tac3 := has_cell ta 3 rfl; have tac4 := has_cell ta 4 rfl; have tac5 := has_cell ta 5 rfl; have tac6 := has_cell ta 6 rfl; have tac7 := has_cell ta 7 rfl
        have talt := has_lt ta
        have WAH := Lib.hid wa; clear wa
        have TAH := Lib.hid ta; clear ta
        have ZB := Lib.hid zb; clear zb
        go_wp2_with fail
        clear wac0 wac1 walt tac0 tac1 tac2 tac3 tac4 tac5 tac6 tac7 talt
        have wa := WAH.out; clear WAH
        have ta := TAH.out; clear TAH
        have zb := ZB.out; clear ZB
        refine (feeI_any _ w1.heap.size A1 A2 m m' o c t (1 + z) a 20000 e hlo' hlc' (by omega) SL_wk.out SL_wkk.out).mono ?_
        rintro e w14 ⟨rfl, hb⟩
        rw [HN.out]
        have kk := SL.later SL_wk.out (by omega) hb; clear SL_wk; have SL_wk := Lib.hid kk; clear kk
        have kk := SL.later SL_wkk.out (by omega) hb; clear SL_wkk; have SL_wkk := Lib.hid kk; clear kk
        have hsw14 := hb.size
        replace wa := has_call wa hb
        replace ta := has_call ta hb
        replace zb := bthen zb hb; clear hb
        have wac0 := has_cell wa 0 rfl; have wac1 := has_cell wa 1 rfl
        have walt := has_lt wa
        have tac0 := has_cell ta 0 rfl; have tac1 := has_cell ta 1 rfl; have tac2 := has_cell ta 2 rfl; have tac3 := has_cell ta 3 rfl; have tac4 := has_cell ta 4 rfl; have tac5 := has_cell ta 5 rfl; have tac6 := has_cell ta 6 rfl; have tac7 := has_cell ta 7 rfl
        have talt := has_lt ta
        have WAH := Lib.hid wa; clear wa
        have TAH := Lib.hid ta; clear ta
        have ZB := Lib.hid zb; clear zb
        go_wp2_with fail
        clear wac0 wac1 walt tac0 tac1 tac2 tac3 tac4 tac5 tac6 tac7 talt
        have wa := WAH.out; clear WAH
        have ta := TAH.out; clear TAH
        have zb := ZB.out; clear ZB
        go_ret
        exact ⟨rfl, zb⟩
      | some y =>
        obtain ⟨y0, y1, y2, y3⟩ := next_some6 HFA.out hq; rw [HV.out] at y2 y3
        obtain ⟨v3, hv3⟩ : ∃ v, feeB o c t (1 + z) a y e = v := ⟨_, rfl⟩
        rw [hv3] at y2
        have H3 := Lib.hid hv3; have H4 := Lib.hid y3; have HQ := Lib.hid hq; clear hv3 y3 hq
        have ny : (y != y) = false := by simp
        have wac0 := has_cell wa 0 rfl; have wac1 := has_cell wa 1 rfl
        have walt := has_lt wa
        have tac0 := has_cell ta 0 rfl; have tac1 := has_cell ta 1 rfl; have tac2 := has_cell ta 2 rfl; have tac3 := has_cell ta 3 rfl; have tac4 := has_cell ta 4 rfl; have tac5 := has_cell ta 5 rfl; have tac6 := has_cell ta 6 rfl; have tac7 := has_cell ta 7 rfl
        have talt := has_lt ta
        have WAH := Lib.hid wa; clear wa
        have TAH := Lib.hid ta; clear ta
        have ZB := Lib.hid zb; clear zb
        go_wp2_with fail
        clear wac0 wac1 walt tac0 tac1 tac2 tac3 tac4 tac5 tac6 tac7 talt
        have wa := WAH.out; clear WAH
        have ta := TAH.out; clear TAH
        have zb := ZB.out; clear ZB
        refine (nextI_any _ w1.heap.size A1 A2 m m' o c t (1 + z) a (a + d) e hlo' hlc' (by omega) SL_wk.out SL_wkk.out).mono ?_
        rintro e w12 ⟨rfl, hb⟩
        rw [HQ.out]
        have kk := SL.later SL_wk.out (by omega) hb; clear SL_wk; have SL_wk := Lib.hid kk; clear kk
        have kk := SL.later SL_wkk.out (by omega) hb; clear SL_wkk; have SL_wkk := Lib.hid kk; clear kk
        have hsw12 := hb.size
        replace wa := has_call wa hb
        replace ta := has_call ta hb
        replace zb := bthen zb hb; clear hb
        unfold pairV
        have wac0 := has_cell wa 0 rfl; have wac1 := has_cell wa 1 rfl
        have walt := has_lt wa
        have tac0 := has_cell ta 0 rfl; have tac1 := has_cell ta 1 rfl; have tac2 := has_cell ta 2 rfl; have tac3 := has_cell ta 3 rfl; have tac4 := has_cell ta 4 rfl; have tac5 := has_cell ta 5 rfl; have tac6 := has_cell ta 6 rfl; have tac7 := has_cell ta 7 rfl
        have talt := has_lt ta
        have WAH := Lib.hid wa; clear wa
        have TAH := Lib.hid ta; clear ta
        have ZB := Lib.hid zb; clear zb
        go_wp2_with fail
        clear wac0 wac1 walt tac0 tac1 tac2 tac3 tac4 tac5 tac6 tac7 talt
        have wa := WAH.out; clear WAH
        have ta := TAH.out; clear TAH
        have zb := ZB.out; clear ZB
        refine (nextS_any _ w1.heap.size A1 A2 m m' o c t (1 + z) a (a + d) e hlo' hlc' (by omega) SL_wk.out SL_wkk.out).mono ?_
        rintro e w13 ⟨rfl, hb⟩
        rw [HQ.out]
        have kk := SL.later SL_wk.out (by omega) hb; clear SL_wk; have SL_wk := Lib.hid kk; clear kk
        have kk := SL.later SL_wkk.out (by omega) hb; clear SL_wkk; have SL_wkk := Lib.hid kk; clear kk
        have hsw13 := hb.size
        replace wa := has_call wa hb
        replace ta := has_call ta hb
        replace zb := bthen zb hb; clear hb
        unfold pairV
        have wac0 := has_cell wa 0 rfl; have wac1 := has_cell wa 1 rfl
        have walt := has_lt wa
        have tac0 := has_cell ta 0 rfl; have tac1 := has_cell ta 1 rfl; have tac2 := has_cell ta 2 rfl; have tac3 := has_cell ta 3 rfl; have tac4 := has_cell ta 4 rfl; have tac5 := has_cell ta 5 rfl; have tac6 := has_cell ta 6 rfl; have tac7 := has_cell ta 7 rfl
        have talt := has_lt ta
        have WAH := Lib.hid wa; clear wa
        have TAH := Lib.hid ta; clear ta
        have ZB := Lib.hid zb; clear zb
        go_wp2_with fail
        clear wac0 wac1 walt tac0 tac1 tac2 tac3 tac4 tac5 tac6 tac7 talt
        have wa := WAH.out; clear WAH
        have ta := TAH.out; clear TAH
        have zb := ZB.out; clear ZB
        refine (feeI_any _ w1.heap.size A1 A2 m m' o c t (1 + z) a y e hlo' hlc' (by omega) SL_wk.out SL_wkk.out).mono ?_
        rintro e w14 ⟨rfl, hb⟩
        rw [H3.out]
        have kk := SL.later SL_wk.out (by omega) hb; clear SL_wk; have SL_wk := Lib.hid kk; clear kk
        have kk := SL.later SL_wkk.out (by omega) hb; clear SL_wkk; have SL_wkk := Lib.hid kk; clear kk
        have hsw14 := hb.size
        replace wa := has_call wa hb
        replace ta := has_call ta hb
        replace zb := bthen zb hb; clear hb
        have wac0 := has_cell wa 0 rfl; have wac1 := has_cell wa 1 rfl
        have walt := has_lt wa
        have tac0 := has_cell ta 0 rfl; have tac1 := has_cell ta 1 rfl; have tac2 := has_cell ta 2 rfl; have tac3 := has_cell ta 3 rfl; have tac4 := has_cell ta 4 rfl; have tac5 := has_cell ta 5 rfl; have tac6 := has_cell ta 6 rfl; have tac7 := has_cell ta 7 rfl
        have talt := has_lt ta
        have WAH := Lib.hid wa; clear wa
        have TAH := Lib.hid ta; clear ta
        have ZB := Lib.hid zb; clear zb
        go_wp2_with fail
        clear wac0 wac1 walt tac0 tac1 tac2 tac3 tac4 tac5 tac6 tac7 talt
        have wa := WAH.out; clear WAH
        have ta := TAH.out; clear TAH
        have zb := ZB.out; clear ZB
        refine (feeI_any _ w1.heap.size A1 A2 m m' o c t (1 + z) a (y - 1) e hlo' hlc' (by omega) SL_wk.out SL_wkk.out).mono ?_
        rintro e w15 ⟨rfl, hb⟩
        rw [H4.out]
        have kk := SL.later SL_wk.out (by omega) hb; clear SL_wk; have SL_wk := Lib.hid kk; clear kk
        have kk := SL.later SL_wkk.out (by omega) hb; clear SL_wkk; have SL_wkk := Lib.hid kk; clear kk
        have hsw15 := hb.size
        replace wa := has_call wa hb
        replace ta := has_call ta hb
        replace zb := bthen zb hb; clear hb
        have wac0 := has_cell wa 0 rfl; have wac1 := has_cell wa 1 rfl
        have walt := has_lt wa
        have tac0 := has_cell ta 0 rfl; have tac1 := has_cell ta 1 rfl; have tac2 := has_cell ta 2 rfl; have tac3 := has_cell ta 3 rfl; have tac4 := has_cell ta 4 rfl; have tac5 := has_cell ta 5 rfl; have tac6 := has_cell ta 6 rfl; have tac7 := has_cell ta 7 rfl
        have talt := has_lt ta
        have WAH := Lib.hid wa; clear wa
        have TAH := Lib.hid ta; clear ta
        have ZB := Lib.hid zb; clear zb
        go_wp2_with fail
        clear wac0 wac1 walt tac0 tac1 tac2 tac3 tac4 tac5 tac6 tac7 talt
        have wa := WAH.out; clear WAH
        have ta := TAH.out; clear TAH
        have zb := ZB.out; clear ZB
        go_ret
        exact ⟨rfl, zb⟩
    · skip
      have d1 : decide (u < 20000) = true := decide_eq_true hc1
      have d2 : decide (0 < t.rate) = false := decide_eq_false hc2
      have wac0 := has_cell wa 0 rfl; have wac1 := has_cell wa 1 rfl
      have walt := has_lt wa
      have tac0 := has_cell ta 0 rfl; have tac1 := has_cell ta 1 rfl; have tac2 := has_cell ta 2 rfl; have tac3 := has_cell ta 3 rfl; have tac4 := has_cell ta 4 rfl; have tac5 := has_cell ta 5 rfl; have tac6 := has_cell ta 6 rfl; have tac7 := has_cell ta 7 rfl
      have talt := has_lt ta
      have WAH := Lib.hid wa; clear wa
      have TAH := Lib.hid ta; clear ta
      have ZB := Lib.hid zb; clear zb
      try go_wp2_with fail
      have S0 : (fun W : World => (W.cell? ⟨w1.heap.size, 0, none⟩ = some (.slice A1 o.length m) ∧ W.cell? ⟨w1.heap.size, 1, none⟩ = some (.slice A2 c.length m') ∧ W.cell? ⟨w3.heap.size, 0, none⟩ = some (.int .i64 t.keep) ∧ W.cell? ⟨w3.heap.size, 1, none⟩ = some (.int .i64 t.free) ∧ W.cell? ⟨w3.heap.size, 2, none⟩ = some (.int .i64 t.step) ∧ W.cell? ⟨w3.heap.size, 3, none⟩ = some (.int .i64 t.rate) ∧ W.cell? ⟨w3.heap.size, 4, none⟩ = some (.int .i64 t.cap) ∧ W.cell? ⟨w3.heap.size, 5, none⟩ = some (.int .i64 t.longer) ∧ W.cell? ⟨w3.heap.size, 6, none⟩ = some (.int .i64 t.price) ∧ W.cell? ⟨w3.heap.size, 7, none⟩ = some (.int .i64 t.most)) ∧ Below w10.heap.size w10 W) w10.drew := ⟨⟨wac0, wac1, tac0, tac1, tac2, tac3, tac4, tac5, tac6, tac7⟩, (Below.refl _ _).drew⟩
      have zc := ZB.out; have hzz := zc.size; have hlwa9 := walt; have hlta9 := talt
      clear wac0 wac1 walt tac0 tac1 tac2 tac3 tac4 tac5 tac6 tac7 talt
      refine wp_region_held_drew (S := (fun W : World => (W.cell? ⟨w1.heap.size, 0, none⟩ = some (.slice A1 o.length m) ∧ W.cell? ⟨w1.heap.size, 1, none⟩ = some (.slice A2 c.length m') ∧ W.cell? ⟨w3.heap.size, 0, none⟩ = some (.int .i64 t.keep) ∧ W.cell? ⟨w3.heap.size, 1, none⟩ = some (.int .i64 t.free) ∧ W.cell? ⟨w3.heap.size, 2, none⟩ = some (.int .i64 t.step) ∧ W.cell? ⟨w3.heap.size, 3, none⟩ = some (.int .i64 t.rate) ∧ W.cell? ⟨w3.heap.size, 4, none⟩ = some (.int .i64 t.cap) ∧ W.cell? ⟨w3.heap.size, 5, none⟩ = some (.int .i64 t.longer) ∧ W.cell? ⟨w3.heap.size, 6, none⟩ = some (.int .i64 t.price) ∧ W.cell? ⟨w3.heap.size, 7, none⟩ = some (.int .i64 t.most)) ∧ Below w10.heap.size w10 W)) (by kernel_rfl) S0 (fun _ => ?_)
      refine any_take (i := 0) (some 135) (.int .i64 u) rfl rfl (by kernel_rfl) (by kernel_rfl) (by kernel_rfl) (fun _ _ _ h => h) rfl (fun W hSw => ?_) (S0) ?_
      · (try dsimp only at hSw); go_simp <;> with_reducible rfl
      try simp only [Act.put, List.setIfInBounds_toArray, List.set_cons_zero, List.set_cons_succ]
      refine any_take (i := 1) (some 136) (.bool true) rfl rfl (by kernel_rfl) (by kernel_rfl) (by kernel_rfl) (fun _ _ _ h => h) rfl (fun W hSw => ?_) (S0) ?_
      · (try dsimp only at hSw); go_simp <;> with_reducible rfl
      try simp only [Act.put, List.setIfInBounds_toArray, List.set_cons_zero, List.set_cons_succ]
      refine any_take (i := 2) (some 137) (.bool true) rfl rfl (by kernel_rfl) (by kernel_rfl) (by kernel_rfl) (fun _ _ _ h => h) rfl (fun W hSw => ?_) (S0) ?_
      · (try dsimp only at hSw); go_simp <;> with_reducible rfl
      try simp only [Act.put, List.setIfInBounds_toArray, List.set_cons_zero, List.set_cons_succ]
      refine any_take (i := 3) (some 138) (.pointer (some ⟨w3.heap.size, 3, none⟩)) rfl rfl (by kernel_rfl) (by kernel_rfl) (by kernel_rfl) (fun _ _ _ h => h) rfl (fun W hSw => ?_) (S0) ?_
      · (try dsimp only at hSw); go_simp <;> with_reducible rfl
      try simp only [Act.put, List.setIfInBounds_toArray, List.set_cons_zero, List.set_cons_succ]
      refine any_take (i := 4) (some 139) (.int .i64 t.rate) rfl rfl (by kernel_rfl) (by kernel_rfl) (by kernel_rfl) (fun _ _ _ h => h) rfl (fun W hSw => ?_) (S0) ?_
      · (try dsimp only at hSw); go_simp <;> with_reducible rfl
      try simp only [Act.put, List.setIfInBounds_toArray, List.set_cons_zero, List.set_cons_succ]
      refine any_take (i := 5) (some 140) (.bool false) rfl rfl (by kernel_rfl) (by kernel_rfl) (by kernel_rfl) (fun _ _ _ h => h) rfl (fun W hSw => ?_) (S0) ?_
      · (try dsimp only at hSw); go_simp <;> with_reducible rfl
      try simp only [Act.put, List.setIfInBounds_toArray, List.set_cons_zero, List.set_cons_succ]
      refine any_take (i := 6) (some 141) (.bool false) rfl rfl (by kernel_rfl) (by kernel_rfl) (by kernel_rfl) (fun _ _ _ h => h) rfl (fun W hSw => ?_) (S0) ?_
      · (try dsimp only at hSw); go_simp <;> with_reducible rfl
      try simp only [Act.put, List.setIfInBounds_toArray, List.set_cons_zero, List.set_cons_succ]
      refine any_take (i := 7) (some 142) (.bool false) rfl rfl (by kernel_rfl) (by kernel_rfl) (by kernel_rfl) (fun _ _ _ h => h) rfl (fun W hSw => ?_) (S0) ?_
      · (try dsimp only at hSw); go_simp <;> with_reducible rfl
      try simp only [Act.put, List.setIfInBounds_toArray, List.set_cons_zero, List.set_cons_succ]
      refine any_skip (i := 8) (some 143) rfl rfl (by kernel_rfl) (by kernel_rfl) (by kernel_rfl) (fun _ _ _ h => h) rfl (S0) ?_
      try simp only [Act.put, List.setIfInBounds_toArray, List.set_cons_zero, List.set_cons_succ]
      refine any_skip (i := 9) (some 144) rfl rfl (by kernel_rfl) (by kernel_rfl) (by kernel_rfl) (fun _ _ _ h => h) rfl (S0) ?_
      try simp only [Act.put, List.setIfInBounds_toArray, List.set_cons_zero, List.set_cons_succ]
      refine any_skip (i := 10) (some 145) rfl rfl (by kernel_rfl) (by kernel_rfl) (by kernel_rfl) (fun _ _ _ h => h) rfl (S0) ?_
      try simp only [Act.put, List.setIfInBounds_toArray, List.set_cons_zero, List.set_cons_succ]
      refine any_take (i := 11) (some 146) (.bool false) rfl rfl (by kernel_rfl) (by kernel_rfl) (by kernel_rfl) (fun _ _ _ h => h) rfl (fun W hSw => ?_) (S0) ?_
      · (try dsimp only at hSw); go_simp <;> with_reducible rfl
      try simp only [Act.put, List.setIfInBounds_toArray, List.set_cons_zero, List.set_cons_succ]
      refine any_take (i := 12) (some 147) (.bool false) rfl rfl (by kernel_rfl) (by kernel_rfl) (by kernel_rfl) (fun _ _ _ h => h) rfl (fun W hSw => ?_) (S0) ?_
      · (try dsimp only at hSw); go_simp <;> with_reducible rfl
      try simp only [Act.put, List.setIfInBounds_toArray, List.set_cons_zero, List.set_cons_succ]
      refine any_skip (i := 13) (some 148) rfl rfl (by kernel_rfl) (by kernel_rfl) (by kernel_rfl) (fun _ _ _ h => h) rfl (S0) ?_
      try simp only [Act.put, List.setIfInBounds_toArray, List.set_cons_zero, List.set_cons_succ]
      refine any_skip (i := 14) (some 149) rfl rfl (by kernel_rfl) (by kernel_rfl) (by kernel_rfl) (fun _ _ _ h => h) rfl (S0) ?_
      try simp only [Act.put, List.setIfInBounds_toArray, List.set_cons_zero, List.set_cons_succ]
      refine any_skip (i := 15) (some 150) rfl rfl (by kernel_rfl) (by kernel_rfl) (by kernel_rfl) (fun _ _ _ h => h) rfl (S0) ?_
      try simp only [Act.put, List.setIfInBounds_toArray, List.set_cons_zero, List.set_cons_succ]
      refine any_skip (i := 16) (some 151) rfl rfl (by kernel_rfl) (by kernel_rfl) (by kernel_rfl) (fun _ _ _ h => h) rfl (S0) ?_
      try simp only [Act.put, List.setIfInBounds_toArray, List.set_cons_zero, List.set_cons_succ]
      refine any_skip (i := 17) (some 152) rfl rfl (by kernel_rfl) (by kernel_rfl) (by kernel_rfl) (fun _ _ _ h => h) rfl (S0) ?_
      try simp only [Act.put, List.setIfInBounds_toArray, List.set_cons_zero, List.set_cons_succ]
      refine any_skip (i := 18) (some 153) rfl rfl (by kernel_rfl) (by kernel_rfl) (by kernel_rfl) (fun _ _ _ h => h) rfl (S0) ?_
      try simp only [Act.put, List.setIfInBounds_toArray, List.set_cons_zero, List.set_cons_succ]
      refine any_skip (i := 19) (some 154) rfl rfl (by kernel_rfl) (by kernel_rfl) (by kernel_rfl) (fun _ _ _ h => h) rfl (S0) ?_
      try simp only [Act.put, List.setIfInBounds_toArray, List.set_cons_zero, List.set_cons_succ]
      refine any_skip (i := 21) (some 156) rfl rfl (by kernel_rfl) (by kernel_rfl) (by kernel_rfl) (fun _ _ _ h => h) rfl (S0) ?_
      try simp only [Act.put, List.setIfInBounds_toArray, List.set_cons_zero, List.set_cons_succ]
      refine any_skip (i := 22) (some 157) rfl rfl (by kernel_rfl) (by kernel_rfl) (by kernel_rfl) (fun _ _ _ h => h) rfl (S0) ?_
      try simp only [Act.put, List.setIfInBounds_toArray, List.set_cons_zero, List.set_cons_succ]
      refine any_skip (i := 23) (some 158) rfl rfl (by kernel_rfl) (by kernel_rfl) (by kernel_rfl) (fun _ _ _ h => h) rfl (S0) ?_
      try simp only [Act.put, List.setIfInBounds_toArray, List.set_cons_zero, List.set_cons_succ]
      refine any_skip (i := 24) (some 159) rfl rfl (by kernel_rfl) (by kernel_rfl) (by kernel_rfl) (fun _ _ _ h => h) rfl (S0) ?_
      try simp only [Act.put, List.setIfInBounds_toArray, List.set_cons_zero, List.set_cons_succ]
      refine any_skip (i := 20) (some 155) rfl rfl (by kernel_rfl) (by kernel_rfl) (by kernel_rfl) (fun _ _ _ h => h) rfl (S0) ?_
      try simp only [Act.put, List.setIfInBounds_toArray, List.set_cons_zero, List.set_cons_succ]
      refine any_skip (i := 25) (some 160) rfl rfl (by kernel_rfl) (by kernel_rfl) (by kernel_rfl) (fun _ _ _ h => h) rfl (S0) ?_
      try simp only [Act.put, List.setIfInBounds_toArray, List.set_cons_zero, List.set_cons_succ]
      refine any_take (i := 26) (some 161) (.bool false) rfl rfl (by kernel_rfl) (by kernel_rfl) (by kernel_rfl) (fun _ _ _ h => h) rfl (fun W hSw => ?_) (S0) ?_
      · (try dsimp only at hSw); go_simp <;> with_reducible rfl
      try simp only [Act.put, List.setIfInBounds_toArray, List.set_cons_zero, List.set_cons_succ]
      refine wpAnyH_done (by kernel_rfl) ?_ _
      have hb : Below w10.heap.size w10 w10.drew := S0.2
      clear S0 zc hzz hlwa9 hlta9
      have wa := WAH.out; clear WAH
      have ta := TAH.out; clear TAH
      have zb := ZB.out; clear ZB
      have kk := SL.later SL_wk.out (by omega) hb; clear SL_wk; have SL_wk := Lib.hid kk; clear kk
      have kk := SL.later SL_wkk.out (by omega) hb; clear SL_wkk; have SL_wkk := Lib.hid kk; clear kk
      have hsw10.drew := hb.size
      replace wa := has_call wa hb
      replace ta := has_call ta hb
      replace zb := bthen zb hb; clear hb
      obtain ⟨q, hq⟩ : ∃ q, nextB o c t (1 + z) a (a + d) e = q := ⟨_, rfl⟩
      cases q with
      | none =>
        have hn := next_none6 HFA.out hq; rw [HV.out] at hn
        have HN := Lib.hid hn; have HQ := Lib.hid hq; clear hn hq
        have wac0 := has_cell wa 0 rfl; have wac1 := has_cell wa 1 rfl
        have walt := has_lt wa
        have tac0 := has_cell ta 0 rfl; have tac1 := has_cell ta 1 rfl; have tac2 := has_cell ta 2 rfl; have tac3 := has_cell ta 3 rfl; have tac4 := has_cell ta 4 rfl; have tac5 := has_cell ta 5 rfl; have tac6 := has_cell ta 6 rfl; have tac7 := has_cell ta 7 rfl
        have talt := has_lt ta
        have WAH := Lib.hid wa; clear wa
        have TAH := Lib.hid ta; clear ta
        have ZB := Lib.hid zb; clear zb
        go_wp2_with fail
        clear wac0 wac1 walt tac0 tac1 tac2 tac3 tac4 tac5 tac6 tac7 talt
        have wa := WAH.out; clear WAH
        have ta := TAH.out; clear TAH
        have zb := ZB.out; clear ZB
        refine (nextI_any _ w1.heap.size A1 A2 m m' o c t (1 + z) a (a + d) e hlo' hlc' (by omega) SL_wk.out SL_wkk.out).mono ?_
        rintro e w12 ⟨rfl, hb⟩
        rw [HQ.out]
        have kk := SL.later SL_wk.out (by omega) hb; clear SL_wk; have SL_wk := Lib.hid kk; clear kk
        have kk := SL.later SL_wkk.out (by omega) hb; clear SL_wkk; have SL_wkk := Lib.hid kk; clear kk
        have hsw12 := hb.size
        replace wa := has_call wa hb
        replace ta := has_call ta hb
        replace zb := bthen zb hb; clear hb
        unfold pairV
        have wac0 := has_cell wa 0 rfl; have wac1 := has_cell wa 1 rfl
        have walt := has_lt wa
        have tac0 := has_cell ta 0 rfl; have tac1 := has_cell ta 1 rfl; have tac2 := has_cell ta 2 rfl; have tac3 := has_cell ta 3 rfl; have tac4 := has_cell ta 4 rfl; have tac5 := has_cell ta 5 rfl; have tac6 := has_cell ta 6 rfl; have tac7 := has_cell ta 7 rfl
        have talt := has_lt ta
        have WAH := Lib.hid wa; clear wa
        have TAH := Lib.hid ta; clear ta
        have ZB := Lib.hid zb; clear zb
        go_wp2_with fail
        clear wac0 wac1 walt tac0 tac1 tac2 tac3 tac4 tac5 tac6 tac7 talt
        have wa := WAH.out; clear WAH
        have ta := TAH.out; clear TAH
        have zb := ZB.out; clear ZB
        refine (nextS_any _ w1.heap.size A1 A2 m m' o c t (1 + z) a (a + d) e hlo' hlc' (by omega) SL_wk.out SL_wkk.out).mono ?_
        rintro e w13 ⟨rfl, hb⟩
        rw [HQ.out]
        have kk := SL.later SL_wk.out (by omega) hb; clear SL_wk; have SL_wk := Lib.hid kk; clear kk
        have kk := SL.later SL_wkk.out (by omega) hb; clear SL_wkk; have SL_wkk := Lib.hid kk; clear kk
        have hsw13 := hb.size
        replace wa := has_call wa hb
        replace ta := has_call ta hb
        replace zb := bthen zb hb; clear hb
        unfold pairV
        have wac0 := has_cell wa 0 rfl; have wac1 := has_cell wa 1 rfl
        have walt := has_lt wa
        have tac0 := has_cell ta 0 rfl; have tac1 := has_cell ta 1 rfl; have tac2 := has_cell ta 2 rfl; have tac3 := has_cell ta 3 rfl; have tac4 := has_cell ta 4 rfl; have tac5 := has_cell ta 5 rfl; have tac6 := has_cell ta 6 rfl; have tac7 := has_cell ta 7 rfl
        have talt := has_lt ta
        have WAH := Lib.hid wa; clear wa
        have TAH := Lib.hid ta; clear ta
        have ZB := Lib.hid zb; clear zb
        go_wp2_with fail
        clear wac0 wac1 walt tac0 tac1 tac2 tac3 tac4 tac5 tac6 tac7 talt
        have wa := WAH.out; clear WAH
        have ta := TAH.out; clear TAH
        have zb := ZB.out; clear ZB
        refine (feeI_any _ w1.heap.size A1 A2 m m' o c t (1 + z) a 20000 e hlo' hlc' (by omega) SL_wk.out SL_wkk.out).mono ?_
        rintro e w14 ⟨rfl, hb⟩
        rw [HN.out]
        have kk := SL.later SL_wk.out (by omega) hb; clear SL_wk; have SL_wk := Lib.hid kk; clear kk
        have kk := SL.later SL_wkk.out (by omega) hb; clear SL_wkk; have SL_wkk := Lib.hid kk; clear kk
        have hsw14 := hb.size
        replace wa := has_call wa hb
        replace ta := has_call ta hb
        replace zb := bthen zb hb; clear hb
        have wac0 := has_cell wa 0 rfl; have wac1 := has_cell wa 1 rfl
        have walt := has_lt wa
        have tac0 := has_cell ta 0 rfl; have tac1 := has_cell ta 1 rfl; have tac2 := has_cell ta 2 rfl; have tac3 := has_cell ta 3 rfl; have tac4 := has_cell ta 4 rfl; have tac5 := has_cell ta 5 rfl; have tac6 := has_cell ta 6 rfl; have tac7 := has_cell ta 7 rfl
        have talt := has_lt ta
        have WAH := Lib.hid wa; clear wa
        have TAH := Lib.hid ta; clear ta
        have ZB := Lib.hid zb; clear zb
        go_wp2_with fail
        clear wac0 wac1 walt tac0 tac1 tac2 tac3 tac4 tac5 tac6 tac7 talt
        have wa := WAH.out; clear WAH
        have ta := TAH.out; clear TAH
        have zb := ZB.out; clear ZB
        go_ret
        exact ⟨rfl, zb⟩
      | some y =>
        obtain ⟨y0, y1, y2, y3⟩ := next_some6 HFA.out hq; rw [HV.out] at y2 y3
        obtain ⟨v3, hv3⟩ : ∃ v, feeB o c t (1 + z) a y e = v := ⟨_, rfl⟩
        rw [hv3] at y2
        have H3 := Lib.hid hv3; have H4 := Lib.hid y3; have HQ := Lib.hid hq; clear hv3 y3 hq
        have ny : (y != y) = false := by simp
        have wac0 := has_cell wa 0 rfl; have wac1 := has_cell wa 1 rfl
        have walt := has_lt wa
        have tac0 := has_cell ta 0 rfl; have tac1 := has_cell ta 1 rfl; have tac2 := has_cell ta 2 rfl; have tac3 := has_cell ta 3 rfl; have tac4 := has_cell ta 4 rfl; have tac5 := has_cell ta 5 rfl; have tac6 := has_cell ta 6 rfl; have tac7 := has_cell ta 7 rfl
        have talt := has_lt ta
        have WAH := Lib.hid wa; clear wa
        have TAH := Lib.hid ta; clear ta
        have ZB := Lib.hid zb; clear zb
        go_wp2_with fail
        clear wac0 wac1 walt tac0 tac1 tac2 tac3 tac4 tac5 tac6 tac7 talt
        have wa := WAH.out; clear WAH
        have ta := TAH.out; clear TAH
        have zb := ZB.out; clear ZB
        refine (nextI_any _ w1.heap.size A1 A2 m m' o c t (1 + z) a (a + d) e hlo' hlc' (by omega) SL_wk.out SL_wkk.out).mono ?_
        rintro e w12 ⟨rfl, hb⟩
        rw [HQ.out]
        have kk := SL.later SL_wk.out (by omega) hb; clear SL_wk; have SL_wk := Lib.hid kk; clear kk
        have kk := SL.later SL_wkk.out (by omega) hb; clear SL_wkk; have SL_wkk := Lib.hid kk; clear kk
        have hsw12 := hb.size
        replace wa := has_call wa hb
        replace ta := has_call ta hb
        replace zb := bthen zb hb; clear hb
        unfold pairV
        have wac0 := has_cell wa 0 rfl; have wac1 := has_cell wa 1 rfl
        have walt := has_lt wa
        have tac0 := has_cell ta 0 rfl; have tac1 := has_cell ta 1 rfl; have tac2 := has_cell ta 2 rfl; have tac3 := has_cell ta 3 rfl; have tac4 := has_cell ta 4 rfl; have tac5 := has_cell ta 5 rfl; have tac6 := has_cell ta 6 rfl; have tac7 := has_cell ta 7 rfl
        have talt := has_lt ta
        have WAH := Lib.hid wa; clear wa
        have TAH := Lib.hid ta; clear ta
        have ZB := Lib.hid zb; clear zb
        go_wp2_with fail
        clear wac0 wac1 walt tac0 tac1 tac2 tac3 tac4 tac5 tac6 tac7 talt
        have wa := WAH.out; clear WAH
        have ta := TAH.out; clear TAH
        have zb := ZB.out; clear ZB
        refine (nextS_any _ w1.heap.size A1 A2 m m' o c t (1 + z) a (a + d) e hlo' hlc' (by omega) SL_wk.out SL_wkk.out).mono ?_
        rintro e w13 ⟨rfl, hb⟩
        rw [HQ.out]
        have kk := SL.later SL_wk.out (by omega) hb; clear SL_wk; have SL_wk := Lib.hid kk; clear kk
        have kk := SL.later SL_wkk.out (by omega) hb; clear SL_wkk; have SL_wkk := Lib.hid kk; clear kk
        have hsw13 := hb.size
        replace wa := has_call wa hb
        replace ta := has_call ta hb
        replace zb := bthen zb hb; clear hb
        unfold pairV
        have wac0 := has_cell wa 0 rfl; have wac1 := has_cell wa 1 rfl
        have walt := has_lt wa
        have tac0 := has_cell ta 0 rfl; have tac1 := has_cell ta 1 rfl; have tac2 := has_cell ta 2 rfl; have tac3 := has_cell ta 3 rfl; have tac4 := has_cell ta 4 rfl; have tac5 := has_cell ta 5 rfl; have tac6 := has_cell ta 6 rfl; have tac7 := has_cell ta 7 rfl
        have talt := has_lt ta
        have WAH := Lib.hid wa; clear wa
        have TAH := Lib.hid ta; clear ta
        have ZB := Lib.hid zb; clear zb
        go_wp2_with fail
        clear wac0 wac1 walt tac0 tac1 tac2 tac3 tac4 tac5 tac6 tac7 talt
        have wa := WAH.out; clear WAH
        have ta := TAH.out; clear TAH
        have zb := ZB.out; clear ZB
        refine (feeI_any _ w1.heap.size A1 A2 m m' o c t (1 + z) a y e hlo' hlc' (by omega) SL_wk.out SL_wkk.out).mono ?_
        rintro e w14 ⟨rfl, hb⟩
        rw [H3.out]
        have kk := SL.later SL_wk.out (by omega) hb; clear SL_wk; have SL_wk := Lib.hid kk; clear kk
        have kk := SL.later SL_wkk.out (by omega) hb; clear SL_wkk; have SL_wkk := Lib.hid kk; clear kk
        have hsw14 := hb.size
        replace wa := has_call wa hb
        replace ta := has_call ta hb
        replace zb := bthen zb hb; clear hb
        have wac0 := has_cell wa 0 rfl; have wac1 := has_cell wa 1 rfl
        have walt := has_lt wa
        have tac0 := has_cell ta 0 rfl; have tac1 := has_cell ta 1 rfl; have tac2 := has_cell ta 2 rfl; have tac3 := has_cell ta 3 rfl; have tac4 := has_cell ta 4 rfl; have tac5 := has_cell ta 5 rfl; have tac6 := has_cell ta 6 rfl; have tac7 := has_cell ta 7 rfl
        have talt := has_lt ta
        have WAH := Lib.hid wa; clear wa
        have TAH := Lib.hid ta; clear ta
        have ZB := Lib.hid zb; clear zb
        go_wp2_with fail
        clear wac0 wac1 walt tac0 tac1 tac2 tac3 tac4 tac5 tac6 tac7 talt
        have wa := WAH.out; clear WAH
        have ta := TAH.out; clear TAH
        have zb := ZB.out; clear ZB
        refine (feeI_any _ w1.heap.size A1 A2 m m' o c t (1 + z) a (y - 1) e hlo' hlc' (by omega) SL_wk.out SL_wkk.out).mono ?_
        rintro e w15 ⟨rfl, hb⟩
        rw [H4.out]
        have kk := SL.later SL_wk.out (by omega) hb; clear SL_wk; have SL_wk := Lib.hid kk; clear kk
        have kk := SL.later SL_wkk.out (by omega) hb; clear SL_wkk; have SL_wkk := Lib.hid kk; clear kk
        have hsw15 := hb.size
        replace wa := has_call wa hb
        replace ta := has_call ta hb
        replace zb := bthen zb hb; clear hb
        have wac0 := has_cell wa 0 rfl; have wac1 := has_cell wa 1 rfl
        have walt := has_lt wa
        have tac0 := has_cell ta 0 rfl; have tac1 := has_cell ta 1 rfl; have tac2 := has_cell ta 2 rfl; have tac3 := has_cell ta 3 rfl; have tac4 := has_cell ta 4 rfl; have tac5 := has_cell ta 5 rfl; have tac6 := has_cell ta 6 rfl; have tac7 := has_cell ta 7 rfl
        have talt := has_lt ta
        have WAH := Lib.hid wa; clear wa
        have TAH := Lib.hid ta; clear ta
        have ZB := Lib.hid zb; clear zb
        go_wp2_with fail
        clear wac0 wac1 walt tac0 tac1 tac2 tac3 tac4 tac5 tac6 tac7 talt
        have wa := WAH.out; clear WAH
        have ta := TAH.out; clear TAH
        have zb := ZB.out; clear ZB
        go_ret
        exact ⟨rfl, zb⟩
    · skip
      have d1 : decide (u < 20000) = true := decide_eq_true hc1
      have d2 : decide (0 < t.rate) = true := decide_eq_true hc2
      have d3 : decide (0 < t.cap) = false := decide_eq_false hc3
      have wac0 := has_cell wa 0 rfl; have wac1 := has_cell wa 1 rfl
      have walt := has_lt wa
      have tac0 := has_cell ta 0 rfl; have tac1 := has_cell ta 1 rfl; have tac2 := has_cell ta 2 rfl; have tac3 := has_cell ta 3 rfl; have tac4 := has_cell ta 4 rfl; have tac5 := has_cell ta 5 rfl; have tac6 := has_cell ta 6 rfl; have tac7 := has_cell ta 7 rfl
      have talt := has_lt ta
      have WAH := Lib.hid wa; clear wa
      have TAH := Lib.hid ta; clear ta
      have ZB := Lib.hid zb; clear zb
      try go_wp2_with fail
      have S0 : (fun W : World => (W.cell? ⟨w1.heap.size, 0, none⟩ = some (.slice A1 o.length m) ∧ W.cell? ⟨w1.heap.size, 1, none⟩ = some (.slice A2 c.length m') ∧ W.cell? ⟨w3.heap.size, 0, none⟩ = some (.int .i64 t.keep) ∧ W.cell? ⟨w3.heap.size, 1, none⟩ = some (.int .i64 t.free) ∧ W.cell? ⟨w3.heap.size, 2, none⟩ = some (.int .i64 t.step) ∧ W.cell? ⟨w3.heap.size, 3, none⟩ = some (.int .i64 t.rate) ∧ W.cell? ⟨w3.heap.size, 4, none⟩ = some (.int .i64 t.cap) ∧ W.cell? ⟨w3.heap.size, 5, none⟩ = some (.int .i64 t.longer) ∧ W.cell? ⟨w3.heap.size, 6, none⟩ = some (.int .i64 t.price) ∧ W.cell? ⟨w3.heap.size, 7, none⟩ = some (.int .i64 t.most)) ∧ Below w10.heap.size w10 W) w10.drew := ⟨⟨wac0, wac1, tac0, tac1, tac2, tac3, tac4, tac5, tac6, tac7⟩, (Below.refl _ _).drew⟩
      have zc := ZB.out; have hzz := zc.size; have hlwa9 := walt; have hlta9 := talt
      clear wac0 wac1 walt tac0 tac1 tac2 tac3 tac4 tac5 tac6 tac7 talt
      refine wp_region_held_drew (S := (fun W : World => (W.cell? ⟨w1.heap.size, 0, none⟩ = some (.slice A1 o.length m) ∧ W.cell? ⟨w1.heap.size, 1, none⟩ = some (.slice A2 c.length m') ∧ W.cell? ⟨w3.heap.size, 0, none⟩ = some (.int .i64 t.keep) ∧ W.cell? ⟨w3.heap.size, 1, none⟩ = some (.int .i64 t.free) ∧ W.cell? ⟨w3.heap.size, 2, none⟩ = some (.int .i64 t.step) ∧ W.cell? ⟨w3.heap.size, 3, none⟩ = some (.int .i64 t.rate) ∧ W.cell? ⟨w3.heap.size, 4, none⟩ = some (.int .i64 t.cap) ∧ W.cell? ⟨w3.heap.size, 5, none⟩ = some (.int .i64 t.longer) ∧ W.cell? ⟨w3.heap.size, 6, none⟩ = some (.int .i64 t.price) ∧ W.cell? ⟨w3.heap.size, 7, none⟩ = some (.int .i64 t.most)) ∧ Below w10.heap.size w10 W)) (by kernel_rfl) S0 (fun _ => ?_)
      refine any_take (i := 0) (some 135) (.int .i64 u) rfl rfl (by kernel_rfl) (by kernel_rfl) (by kernel_rfl) (fun _ _ _ h => h) rfl (fun W hSw => ?_) (S0) ?_
      · (try dsimp only at hSw); go_simp <;> with_reducible rfl
      try simp only [Act.put, List.setIfInBounds_toArray, List.set_cons_zero, List.set_cons_succ]
      refine any_take (i := 1) (some 136) (.bool true) rfl rfl (by kernel_rfl) (by kernel_rfl) (by kernel_rfl) (fun _ _ _ h => h) rfl (fun W hSw => ?_) (S0) ?_
      · (try dsimp only at hSw); go_simp <;> with_reducible rfl
      try simp only [Act.put, List.setIfInBounds_toArray, List.set_cons_zero, List.set_cons_succ]
      refine any_take (i := 2) (some 137) (.bool true) rfl rfl (by kernel_rfl) (by kernel_rfl) (by kernel_rfl) (fun _ _ _ h => h) rfl (fun W hSw => ?_) (S0) ?_
      · (try dsimp only at hSw); go_simp <;> with_reducible rfl
      try simp only [Act.put, List.setIfInBounds_toArray, List.set_cons_zero, List.set_cons_succ]
      refine any_take (i := 3) (some 138) (.pointer (some ⟨w3.heap.size, 3, none⟩)) rfl rfl (by kernel_rfl) (by kernel_rfl) (by kernel_rfl) (fun _ _ _ h => h) rfl (fun W hSw => ?_) (S0) ?_
      · (try dsimp only at hSw); go_simp <;> with_reducible rfl
      try simp only [Act.put, List.setIfInBounds_toArray, List.set_cons_zero, List.set_cons_succ]
      refine any_take (i := 4) (some 139) (.int .i64 t.rate) rfl rfl (by kernel_rfl) (by kernel_rfl) (by kernel_rfl) (fun _ _ _ h => h) rfl (fun W hSw => ?_) (S0) ?_
      · (try dsimp only at hSw); go_simp <;> with_reducible rfl
      try simp only [Act.put, List.setIfInBounds_toArray, List.set_cons_zero, List.set_cons_succ]
      refine any_take (i := 5) (some 140) (.bool true) rfl rfl (by kernel_rfl) (by kernel_rfl) (by kernel_rfl) (fun _ _ _ h => h) rfl (fun W hSw => ?_) (S0) ?_
      · (try dsimp only at hSw); go_simp <;> with_reducible rfl
      try simp only [Act.put, List.setIfInBounds_toArray, List.set_cons_zero, List.set_cons_succ]
      refine any_take (i := 6) (some 141) (.bool true) rfl rfl (by kernel_rfl) (by kernel_rfl) (by kernel_rfl) (fun _ _ _ h => h) rfl (fun W hSw => ?_) (S0) ?_
      · (try dsimp only at hSw); go_simp <;> with_reducible rfl
      try simp only [Act.put, List.setIfInBounds_toArray, List.set_cons_zero, List.set_cons_succ]
      refine any_take (i := 7) (some 142) (.bool true) rfl rfl (by kernel_rfl) (by kernel_rfl) (by kernel_rfl) (fun _ _ _ h => h) rfl (fun W hSw => ?_) (S0) ?_
      · (try dsimp only at hSw); go_simp <;> with_reducible rfl
      try simp only [Act.put, List.setIfInBounds_toArray, List.set_cons_zero, List.set_cons_succ]
      refine any_take (i := 8) (some 143) (.pointer (some ⟨w3.heap.size, 4, none⟩)) rfl rfl (by kernel_rfl) (by kernel_rfl) (by kernel_rfl) (fun _ _ _ h => h) rfl (fun W hSw => ?_) (S0) ?_
      · (try dsimp only at hSw); go_simp <;> with_reducible rfl
      try simp only [Act.put, List.setIfInBounds_toArray, List.set_cons_zero, List.set_cons_succ]
      refine any_take (i := 9) (some 144) (.int .i64 t.cap) rfl rfl (by kernel_rfl) (by kernel_rfl) (by kernel_rfl) (fun _ _ _ h => h) rfl (fun W hSw => ?_) (S0) ?_
      · (try dsimp only at hSw); go_simp <;> with_reducible rfl
      try simp only [Act.put, List.setIfInBounds_toArray, List.set_cons_zero, List.set_cons_succ]
      refine any_take (i := 10) (some 145) (.bool false) rfl rfl (by kernel_rfl) (by kernel_rfl) (by kernel_rfl) (fun _ _ _ h => h) rfl (fun W hSw => ?_) (S0) ?_
      · (try dsimp only at hSw); go_simp <;> with_reducible rfl
      try simp only [Act.put, List.setIfInBounds_toArray, List.set_cons_zero, List.set_cons_succ]
      refine any_take (i := 11) (some 146) (.bool false) rfl rfl (by kernel_rfl) (by kernel_rfl) (by kernel_rfl) (fun _ _ _ h => h) rfl (fun W hSw => ?_) (S0) ?_
      · (try dsimp only at hSw); go_simp <;> with_reducible rfl
      try simp only [Act.put, List.setIfInBounds_toArray, List.set_cons_zero, List.set_cons_succ]
      refine any_take (i := 12) (some 147) (.bool false) rfl rfl (by kernel_rfl) (by kernel_rfl) (by kernel_rfl) (fun _ _ _ h => h) rfl (fun W hSw => ?_) (S0) ?_
      · (try dsimp only at hSw); go_simp <;> with_reducible rfl
      try simp only [Act.put, List.setIfInBounds_toArray, List.set_cons_zero, List.set_cons_succ]
      refine any_skip (i := 13) (some 148) rfl rfl (by kernel_rfl) (by kernel_rfl) (by kernel_rfl) (fun _ _ _ h => h) rfl (S0) ?_
      try simp only [Act.put, List.setIfInBounds_toArray, List.set_cons_zero, List.set_cons_succ]
      refine any_skip (i := 14) (some 149) rfl rfl (by kernel_rfl) (by kernel_rfl) (by kernel_rfl) (fun _ _ _ h => h) rfl (S0) ?_
      try simp only [Act.put, List.setIfInBounds_toArray, List.set_cons_zero, List.set_cons_succ]
      refine any_skip (i := 15) (some 150) rfl rfl (by kernel_rfl) (by kernel_rfl) (by kernel_rfl) (fun _ _ _ h => h) rfl (S0) ?_
      try simp only [Act.put, List.setIfInBounds_toArray, List.set_cons_zero, List.set_cons_succ]
      refine any_skip (i := 16) (some 151) rfl rfl (by kernel_rfl) (by kernel_rfl) (by kernel_rfl) (fun _ _ _ h => h) rfl (S0) ?_
      try simp only [Act.put, List.setIfInBounds_toArray, List.set_cons_zero, List.set_cons_succ]
      refine any_skip (i := 17) (some 152) rfl rfl (by kernel_rfl) (by kernel_rfl) (by kernel_rfl) (fun _ _ _ h => h) rfl (S0) ?_
      try simp only [Act.put, List.setIfInBounds_toArray, List.set_cons_zero, List.set_cons_succ]
      refine any_skip (i := 18) (some 153) rfl rfl (by kernel_rfl) (by kernel_rfl) (by kernel_rfl) (fun _ _ _ h => h) rfl (S0) ?_
      try simp only [Act.put, List.setIfInBounds_toArray, List.set_cons_zero, List.set_cons_succ]
      refine any_skip (i := 19) (some 154) rfl rfl (by kernel_rfl) (by kernel_rfl) (by kernel_rfl) (fun _ _ _ h => h) rfl (S0) ?_
      try simp only [Act.put, List.setIfInBounds_toArray, List.set_cons_zero, List.set_cons_succ]
      refine any_skip (i := 21) (some 156) rfl rfl (by kernel_rfl) (by kernel_rfl) (by kernel_rfl) (fun _ _ _ h => h) rfl (S0) ?_
      try simp only [Act.put, List.setIfInBounds_toArray, List.set_cons_zero, List.set_cons_succ]
      refine any_skip (i := 22) (some 157) rfl rfl (by kernel_rfl) (by kernel_rfl) (by kernel_rfl) (fun _ _ _ h => h) rfl (S0) ?_
      try simp only [Act.put, List.setIfInBounds_toArray, List.set_cons_zero, List.set_cons_succ]
      refine any_skip (i := 23) (some 158) rfl rfl (by kernel_rfl) (by kernel_rfl) (by kernel_rfl) (fun _ _ _ h => h) rfl (S0) ?_
      try simp only [Act.put, List.setIfInBounds_toArray, List.set_cons_zero, List.set_cons_succ]
      refine any_skip (i := 24) (some 159) rfl rfl (by kernel_rfl) (by kernel_rfl) (by kernel_rfl) (fun _ _ _ h => h) rfl (S0) ?_
      try simp only [Act.put, List.setIfInBounds_toArray, List.set_cons_zero, List.set_cons_succ]
      refine any_skip (i := 20) (some 155) rfl rfl (by kernel_rfl) (by kernel_rfl) (by kernel_rfl) (fun _ _ _ h => h) rfl (S0) ?_
      try simp only [Act.put, List.setIfInBounds_toArray, List.set_cons_zero, List.set_cons_succ]
      refine any_skip (i := 25) (some 160) rfl rfl (by kernel_rfl) (by kernel_rfl) (by kernel_rfl) (fun _ _ _ h => h) rfl (S0) ?_
      try simp only [Act.put, List.setIfInBounds_toArray, List.set_cons_zero, List.set_cons_succ]
      refine any_take (i := 26) (some 161) (.bool false) rfl rfl (by kernel_rfl) (by kernel_rfl) (by kernel_rfl) (fun _ _ _ h => h) rfl (fun W hSw => ?_) (S0) ?_
      · (try dsimp only at hSw); go_simp <;> with_reducible rfl
      try simp only [Act.put, List.setIfInBounds_toArray, List.set_cons_zero, List.set_cons_succ]
      refine wpAnyH_done (by kernel_rfl) ?_ _
      have hb : Below w10.heap.size w10 w10.drew := S0.2
      clear S0 zc hzz hlwa9 hlta9
      have wa := WAH.out; clear WAH
      have ta := TAH.out; clear TAH
      have zb := ZB.out; clear ZB
      have kk := SL.later SL_wk.out (by omega) hb; clear SL_wk; have SL_wk := Lib.hid kk; clear kk
      have kk := SL.later SL_wkk.out (by omega) hb; clear SL_wkk; have SL_wkk := Lib.hid kk; clear kk
      have hsw10.drew := hb.size
      replace wa := has_call wa hb
      replace ta := has_call ta hb
      replace zb := bthen zb hb; clear hb
      obtain ⟨q, hq⟩ : ∃ q, nextB o c t (1 + z) a (a + d) e = q := ⟨_, rfl⟩
      cases q with
      | none =>
        have hn := next_none6 HFA.out hq; rw [HV.out] at hn
        have HN := Lib.hid hn; have HQ := Lib.hid hq; clear hn hq
        have wac0 := has_cell wa 0 rfl; have wac1 := has_cell wa 1 rfl
        have walt := has_lt wa
        have tac0 := has_cell ta 0 rfl; have tac1 := has_cell ta 1 rfl; have tac2 := has_cell ta 2 rfl; have tac3 := has_cell ta 3 rfl; have tac4 := has_cell ta 4 rfl; have tac5 := has_cell ta 5 rfl; have tac6 := has_cell ta 6 rfl; have tac7 := has_cell ta 7 rfl
        have talt := has_lt ta
        have WAH := Lib.hid wa; clear wa
        have TAH := Lib.hid ta; clear ta
        have ZB := Lib.hid zb; clear zb
        go_wp2_with fail
        clear wac0 wac1 walt tac0 tac1 tac2 tac3 tac4 tac5 tac6 tac7 talt
        have wa := WAH.out; clear WAH
        have ta := TAH.out; clear TAH
        have zb := ZB.out; clear ZB
        refine (nextI_any _ w1.heap.size A1 A2 m m' o c t (1 + z) a (a + d) e hlo' hlc' (by omega) SL_wk.out SL_wkk.out).mono ?_
        rintro e w12 ⟨rfl, hb⟩
        rw [HQ.out]
        have kk := SL.later SL_wk.out (by omega) hb; clear SL_wk; have SL_wk := Lib.hid kk; clear kk
        have kk := SL.later SL_wkk.out (by omega) hb; clear SL_wkk; have SL_wkk := Lib.hid kk; clear kk
        have hsw12 := hb.size
        replace wa := has_call wa hb
        replace ta := has_call ta hb
        replace zb := bthen zb hb; clear hb
        unfold pairV
        have wac0 := has_cell wa 0 rfl; have wac1 := has_cell wa 1 rfl
        have walt := has_lt wa
        have tac0 := has_cell ta 0 rfl; have tac1 := has_cell ta 1 rfl; have tac2 := has_cell ta 2 rfl; have tac3 := has_cell ta 3 rfl; have tac4 := has_cell ta 4 rfl; have tac5 := has_cell ta 5 rfl; have tac6 := has_cell ta 6 rfl; have tac7 := has_cell ta 7 rfl
        have talt := has_lt ta
        have WAH := Lib.hid wa; clear wa
        have TAH := Lib.hid ta; clear ta
        have ZB := Lib.hid zb; clear zb
        go_wp2_with fail
        clear wac0 wac1 walt tac0 tac1 tac2 tac3 tac4 tac5 tac6 tac7 talt
        have wa := WAH.out; clear WAH
        have ta := TAH.out; clear TAH
        have zb := ZB.out; clear ZB
        refine (nextS_any _ w1.heap.size A1 A2 m m' o c t (1 + z) a (a + d) e hlo' hlc' (by omega) SL_wk.out SL_wkk.out).mono ?_
        rintro e w13 ⟨rfl, hb⟩
        rw [HQ.out]
        have kk := SL.later SL_wk.out (by omega) hb; clear SL_wk; have SL_wk := Lib.hid kk; clear kk
        have kk := SL.later SL_wkk.out (by omega) hb; clear SL_wkk; have SL_wkk := Lib.hid kk; clear kk
        have hsw13 := hb.size
        replace wa := has_call wa hb
        replace ta := has_call ta hb
        replace zb := bthen zb hb; clear hb
        unfold pairV
        have wac0 := has_cell wa 0 rfl; have wac1 := has_cell wa 1 rfl
        have walt := has_lt wa
        have tac0 := has_cell ta 0 rfl; have tac1 := has_cell ta 1 rfl; have tac2 := has_cell ta 2 rfl; have tac3 := has_cell ta 3 rfl; have tac4 := has_cell ta 4 rfl; have tac5 := has_cell ta 5 rfl; have tac6 := has_cell ta 6 rfl; have tac7 := has_cell ta 7 rfl
        have talt := has_lt ta
        have WAH := Lib.hid wa; clear wa
        have TAH := Lib.hid ta; clear ta
        have ZB := Lib.hid zb; clear zb
        go_wp2_with fail
        clear wac0 wac1 walt tac0 tac1 tac2 tac3 tac4 tac5 tac6 tac7 talt
        have wa := WAH.out; clear WAH
        have ta := TAH.out; clear TAH
        have zb := ZB.out; clear ZB
        refine (feeI_any _ w1.heap.size A1 A2 m m' o c t (1 + z) a 20000 e hlo' hlc' (by omega) SL_wk.out SL_wkk.out).mono ?_
        rintro e w14 ⟨rfl, hb⟩
        rw [HN.out]
        have kk := SL.later SL_wk.out (by omega) hb; clear SL_wk; have SL_wk := Lib.hid kk; clear kk
        have kk := SL.later SL_wkk.out (by omega) hb; clear SL_wkk; have SL_wkk := Lib.hid kk; clear kk
        have hsw14 := hb.size
        replace wa := has_call wa hb
        replace ta := has_call ta hb
        replace zb := bthen zb hb; clear hb
        have wac0 := has_cell wa 0 rfl; have wac1 := has_cell wa 1 rfl
        have walt := has_lt wa
        have tac0 := has_cell ta 0 rfl; have tac1 := has_cell ta 1 rfl; have tac2 := has_cell ta 2 rfl; have tac3 := has_cell ta 3 rfl; have tac4 := has_cell ta 4 rfl; have tac5 := has_cell ta 5 rfl; have tac6 := has_cell ta 6 rfl; have tac7 := has_cell ta 7 rfl
        have talt := has_lt ta
        have WAH := Lib.hid wa; clear wa
        have TAH := Lib.hid ta; clear ta
        have ZB := Lib.hid zb; clear zb
        go_wp2_with fail
        clear wac0 wac1 walt tac0 tac1 tac2 tac3 tac4 tac5 tac6 tac7 talt
        have wa := WAH.out; clear WAH
        have ta := TAH.out; clear TAH
        have zb := ZB.out; clear ZB
        go_ret
        exact ⟨rfl, zb⟩
      | some y =>
        obtain ⟨y0, y1, y2, y3⟩ := next_some6 HFA.out hq; rw [HV.out] at y2 y3
        obtain ⟨v3, hv3⟩ : ∃ v, feeB o c t (1 + z) a y e = v := ⟨_, rfl⟩
        rw [hv3] at y2
        have H3 := Lib.hid hv3; have H4 := Lib.hid y3; have HQ := Lib.hid hq; clear hv3 y3 hq
        have ny : (y != y) = false := by simp
        have wac0 := has_cell wa 0 rfl; have wac1 := has_cell wa 1 rfl
        have walt := has_lt wa
        have tac0 := has_cell ta 0 rfl; have tac1 := has_cell ta 1 rfl; have tac2 := has_cell ta 2 rfl; have tac3 := has_cell ta 3 rfl; have tac4 := has_cell ta 4 rfl; have tac5 := has_cell ta 5 rfl; have tac6 := has_cell ta 6 rfl; have tac7 := has_cell ta 7 rfl
        have talt := has_lt ta
        have WAH := Lib.hid wa; clear wa
        have TAH := Lib.hid ta; clear ta
        have ZB := Lib.hid zb; clear zb
        go_wp2_with fail
        clear wac0 wac1 walt tac0 tac1 tac2 tac3 tac4 tac5 tac6 tac7 talt
        have wa := WAH.out; clear WAH
        have ta := TAH.out; clear TAH
        have zb := ZB.out; clear ZB
        refine (nextI_any _ w1.heap.size A1 A2 m m' o c t (1 + z) a (a + d) e hlo' hlc' (by omega) SL_wk.out SL_wkk.out).mono ?_
        rintro e w12 ⟨rfl, hb⟩
        rw [HQ.out]
        have kk := SL.later SL_wk.out (by omega) hb; clear SL_wk; have SL_wk := Lib.hid kk; clear kk
        have kk := SL.later SL_wkk.out (by omega) hb; clear SL_wkk; have SL_wkk := Lib.hid kk; clear kk
        have hsw12 := hb.size
        replace wa := has_call wa hb
        replace ta := has_call ta hb
        replace zb := bthen zb hb; clear hb
        unfold pairV
        have wac0 := has_cell wa 0 rfl; have wac1 := has_cell wa 1 rfl
        have walt := has_lt wa
        have tac0 := has_cell ta 0 rfl; have tac1 := has_cell ta 1 rfl; have tac2 := has_cell ta 2 rfl; have tac3 := has_cell ta 3 rfl; have tac4 := has_cell ta 4 rfl; have tac5 := has_cell ta 5 rfl; have tac6 := has_cell ta 6 rfl; have tac7 := has_cell ta 7 rfl
        have talt := has_lt ta
        have WAH := Lib.hid wa; clear wa
        have TAH := Lib.hid ta; clear ta
        have ZB := Lib.hid zb; clear zb
        go_wp2_with fail
        clear wac0 wac1 walt tac0 tac1 tac2 tac3 tac4 tac5 tac6 tac7 talt
        have wa := WAH.out; clear WAH
        have ta := TAH.out; clear TAH
        have zb := ZB.out; clear ZB
        refine (nextS_any _ w1.heap.size A1 A2 m m' o c t (1 + z) a (a + d) e hlo' hlc' (by omega) SL_wk.out SL_wkk.out).mono ?_
        rintro e w13 ⟨rfl, hb⟩
        rw [HQ.out]
        have kk := SL.later SL_wk.out (by omega) hb; clear SL_wk; have SL_wk := Lib.hid kk; clear kk
        have kk := SL.later SL_wkk.out (by omega) hb; clear SL_wkk; have SL_wkk := Lib.hid kk; clear kk
        have hsw13 := hb.size
        replace wa := has_call wa hb
        replace ta := has_call ta hb
        replace zb := bthen zb hb; clear hb
        unfold pairV
        have wac0 := has_cell wa 0 rfl; have wac1 := has_cell wa 1 rfl
        have walt := has_lt wa
        have tac0 := has_cell ta 0 rfl; have tac1 := has_cell ta 1 rfl; have tac2 := has_cell ta 2 rfl; have tac3 := has_cell ta 3 rfl; have tac4 := has_cell ta 4 rfl; have tac5 := has_cell ta 5 rfl; have tac6 := has_cell ta 6 rfl; have tac7 := has_cell ta 7 rfl
        have talt := has_lt ta
        have WAH := Lib.hid wa; clear wa
        have TAH := Lib.hid ta; clear ta
        have ZB := Lib.hid zb; clear zb
        go_wp2_with fail
        clear wac0 wac1 walt tac0 tac1 tac2 tac3 tac4 tac5 tac6 tac7 talt
        have wa := WAH.out; clear WAH
        have ta := TAH.out; clear TAH
        have zb := ZB.out; clear ZB
        refine (feeI_any _ w1.heap.size A1 A2 m m' o c t (1 + z) a y e hlo' hlc' (by omega) SL_wk.out SL_wkk.out).mono ?_
        rintro e w14 ⟨rfl, hb⟩
        rw [H3.out]
        have kk := SL.later SL_wk.out (by omega) hb; clear SL_wk; have SL_wk := Lib.hid kk; clear kk
        have kk := SL.later SL_wkk.out (by omega) hb; clear SL_wkk; have SL_wkk := Lib.hid kk; clear kk
        have hsw14 := hb.size
        replace wa := has_call wa hb
        replace ta := has_call ta hb
        replace zb := bthen zb hb; clear hb
        have wac0 := has_cell wa 0 rfl; have wac1 := has_cell wa 1 rfl
        have walt := has_lt wa
        have tac0 := has_cell ta 0 rfl; have tac1 := has_cell ta 1 rfl; have tac2 := has_cell ta 2 rfl; have tac3 := has_cell ta 3 rfl; have tac4 := has_cell ta 4 rfl; have tac5 := has_cell ta 5 rfl; have tac6 := has_cell ta 6 rfl; have tac7 := has_cell ta 7 rfl
        have talt := has_lt ta
        have WAH := Lib.hid wa; clear wa
        have TAH := Lib.hid ta; clear ta
        have ZB := Lib.hid zb; clear zb
        go_wp2_with fail
        clear wac0 wac1 walt tac0 tac1 tac2 tac3 tac4 tac5 tac6 tac7 talt
        have wa := WAH.out; clear WAH
        have ta := TAH.out; clear TAH
        have zb := ZB.out; clear ZB
        refine (feeI_any _ w1.heap.size A1 A2 m m' o c t (1 + z) a (y - 1) e hlo' hlc' (by omega) SL_wk.out SL_wkk.out).mono ?_
        rintro e w15 ⟨rfl, hb⟩
        rw [H4.out]
        have kk := SL.later SL_wk.out (by omega) hb; clear SL_wk; have SL_wk := Lib.hid kk; clear kk
        have kk := SL.later SL_wkk.out (by omega) hb; clear SL_wkk; have SL_wkk := Lib.hid kk; clear kk
        have hsw15 := hb.size
        replace wa := has_call wa hb
        replace ta := has_call ta hb
        replace zb := bthen zb hb; clear hb
        have wac0 := has_cell wa 0 rfl; have wac1 := has_cell wa 1 rfl
        have walt := has_lt wa
        have tac0 := has_cell ta 0 rfl; have tac1 := has_cell ta 1 rfl; have tac2 := has_cell ta 2 rfl; have tac3 := has_cell ta 3 rfl; have tac4 := has_cell ta 4 rfl; have tac5 := has_cell ta 5 rfl; have tac6 := has_cell ta 6 rfl; have tac7 := has_cell ta 7 rfl
        have talt := has_lt ta
        have WAH := Lib.hid wa; clear wa
        have TAH := Lib.hid ta; clear ta
        have ZB := Lib.hid zb; clear zb
        go_wp2_with fail
        clear wac0 wac1 walt tac0 tac1 tac2 tac3 tac4 tac5 tac6 tac7 talt
        have wa := WAH.out; clear WAH
        have ta := TAH.out; clear TAH
        have zb := ZB.out; clear ZB
        go_ret
        exact ⟨rfl, zb⟩
    · skip
      have d1 : decide (u < 20000) = true := decide_eq_true hc1
      have d2 : decide (0 < t.rate) = true := decide_eq_true hc2
      have d3 : decide (0 < t.cap) = true := decide_eq_true hc3
      have hpz := HPA.out hc1 hc2 hc3
      obtain ⟨v9, hv9⟩ : ∃ v, feeB o c t (1 + z) a (u + 1) e = v := ⟨_, rfl⟩
      rw [hv9] at hpz
      have HV9 := Lib.hid hv9; clear hv9
      have d4 : decide (v9 ≤ p) = false := decide_eq_false (by omega)
      have uw : IntKind.i64.wrap (u + 1) = u + 1 := IntWalk.i64_in _ (by omega)
      have wac0 := has_cell wa 0 rfl; have wac1 := has_cell wa 1 rfl
      have walt := has_lt wa
      have tac0 := has_cell ta 0 rfl; have tac1 := has_cell ta 1 rfl; have tac2 := has_cell ta 2 rfl; have tac3 := has_cell ta 3 rfl; have tac4 := has_cell ta 4 rfl; have tac5 := has_cell ta 5 rfl; have tac6 := has_cell ta 6 rfl; have tac7 := has_cell ta 7 rfl
      have talt := has_lt ta
      have WAH := Lib.hid wa; clear wa
      have TAH := Lib.hid ta; clear ta
      have ZB := Lib.hid zb; clear zb
      try go_wp2_with fail
      have S0 : (fun W : World => (W.cell? ⟨w1.heap.size, 0, none⟩ = some (.slice A1 o.length m) ∧ W.cell? ⟨w1.heap.size, 1, none⟩ = some (.slice A2 c.length m') ∧ W.cell? ⟨w3.heap.size, 0, none⟩ = some (.int .i64 t.keep) ∧ W.cell? ⟨w3.heap.size, 1, none⟩ = some (.int .i64 t.free) ∧ W.cell? ⟨w3.heap.size, 2, none⟩ = some (.int .i64 t.step) ∧ W.cell? ⟨w3.heap.size, 3, none⟩ = some (.int .i64 t.rate) ∧ W.cell? ⟨w3.heap.size, 4, none⟩ = some (.int .i64 t.cap) ∧ W.cell? ⟨w3.heap.size, 5, none⟩ = some (.int .i64 t.longer) ∧ W.cell? ⟨w3.heap.size, 6, none⟩ = some (.int .i64 t.price) ∧ W.cell? ⟨w3.heap.size, 7, none⟩ = some (.int .i64 t.most)) ∧ Below w10.heap.size w10 W) w10.drew := ⟨⟨wac0, wac1, tac0, tac1, tac2, tac3, tac4, tac5, tac6, tac7⟩, (Below.refl _ _).drew⟩
      have zc := ZB.out; have hzz := zc.size; have hlwa9 := walt; have hlta9 := talt
      clear wac0 wac1 walt tac0 tac1 tac2 tac3 tac4 tac5 tac6 tac7 talt
      refine wp_region_held_drew (S := (fun W : World => (W.cell? ⟨w1.heap.size, 0, none⟩ = some (.slice A1 o.length m) ∧ W.cell? ⟨w1.heap.size, 1, none⟩ = some (.slice A2 c.length m') ∧ W.cell? ⟨w3.heap.size, 0, none⟩ = some (.int .i64 t.keep) ∧ W.cell? ⟨w3.heap.size, 1, none⟩ = some (.int .i64 t.free) ∧ W.cell? ⟨w3.heap.size, 2, none⟩ = some (.int .i64 t.step) ∧ W.cell? ⟨w3.heap.size, 3, none⟩ = some (.int .i64 t.rate) ∧ W.cell? ⟨w3.heap.size, 4, none⟩ = some (.int .i64 t.cap) ∧ W.cell? ⟨w3.heap.size, 5, none⟩ = some (.int .i64 t.longer) ∧ W.cell? ⟨w3.heap.size, 6, none⟩ = some (.int .i64 t.price) ∧ W.cell? ⟨w3.heap.size, 7, none⟩ = some (.int .i64 t.most)) ∧ Below w10.heap.size w10 W)) (by kernel_rfl) S0 (fun _ => ?_)
      refine any_take (i := 0) (some 135) (.int .i64 u) rfl rfl (by kernel_rfl) (by kernel_rfl) (by kernel_rfl) (fun _ _ _ h => h) rfl (fun W hSw => ?_) (S0) ?_
      · (try dsimp only at hSw); go_simp <;> with_reducible rfl
      try simp only [Act.put, List.setIfInBounds_toArray, List.set_cons_zero, List.set_cons_succ]
      refine any_take (i := 1) (some 136) (.bool true) rfl rfl (by kernel_rfl) (by kernel_rfl) (by kernel_rfl) (fun _ _ _ h => h) rfl (fun W hSw => ?_) (S0) ?_
      · (try dsimp only at hSw); go_simp <;> with_reducible rfl
      try simp only [Act.put, List.setIfInBounds_toArray, List.set_cons_zero, List.set_cons_succ]
      refine any_take (i := 2) (some 137) (.bool true) rfl rfl (by kernel_rfl) (by kernel_rfl) (by kernel_rfl) (fun _ _ _ h => h) rfl (fun W hSw => ?_) (S0) ?_
      · (try dsimp only at hSw); go_simp <;> with_reducible rfl
      try simp only [Act.put, List.setIfInBounds_toArray, List.set_cons_zero, List.set_cons_succ]
      refine any_take (i := 3) (some 138) (.pointer (some ⟨w3.heap.size, 3, none⟩)) rfl rfl (by kernel_rfl) (by kernel_rfl) (by kernel_rfl) (fun _ _ _ h => h) rfl (fun W hSw => ?_) (S0) ?_
      · (try dsimp only at hSw); go_simp <;> with_reducible rfl
      try simp only [Act.put, List.setIfInBounds_toArray, List.set_cons_zero, List.set_cons_succ]
      refine any_take (i := 4) (some 139) (.int .i64 t.rate) rfl rfl (by kernel_rfl) (by kernel_rfl) (by kernel_rfl) (fun _ _ _ h => h) rfl (fun W hSw => ?_) (S0) ?_
      · (try dsimp only at hSw); go_simp <;> with_reducible rfl
      try simp only [Act.put, List.setIfInBounds_toArray, List.set_cons_zero, List.set_cons_succ]
      refine any_take (i := 5) (some 140) (.bool true) rfl rfl (by kernel_rfl) (by kernel_rfl) (by kernel_rfl) (fun _ _ _ h => h) rfl (fun W hSw => ?_) (S0) ?_
      · (try dsimp only at hSw); go_simp <;> with_reducible rfl
      try simp only [Act.put, List.setIfInBounds_toArray, List.set_cons_zero, List.set_cons_succ]
      refine any_take (i := 6) (some 141) (.bool true) rfl rfl (by kernel_rfl) (by kernel_rfl) (by kernel_rfl) (fun _ _ _ h => h) rfl (fun W hSw => ?_) (S0) ?_
      · (try dsimp only at hSw); go_simp <;> with_reducible rfl
      try simp only [Act.put, List.setIfInBounds_toArray, List.set_cons_zero, List.set_cons_succ]
      refine any_take (i := 7) (some 142) (.bool true) rfl rfl (by kernel_rfl) (by kernel_rfl) (by kernel_rfl) (fun _ _ _ h => h) rfl (fun W hSw => ?_) (S0) ?_
      · (try dsimp only at hSw); go_simp <;> with_reducible rfl
      try simp only [Act.put, List.setIfInBounds_toArray, List.set_cons_zero, List.set_cons_succ]
      refine any_take (i := 8) (some 143) (.pointer (some ⟨w3.heap.size, 4, none⟩)) rfl rfl (by kernel_rfl) (by kernel_rfl) (by kernel_rfl) (fun _ _ _ h => h) rfl (fun W hSw => ?_) (S0) ?_
      · (try dsimp only at hSw); go_simp <;> with_reducible rfl
      try simp only [Act.put, List.setIfInBounds_toArray, List.set_cons_zero, List.set_cons_succ]
      refine any_take (i := 9) (some 144) (.int .i64 t.cap) rfl rfl (by kernel_rfl) (by kernel_rfl) (by kernel_rfl) (fun _ _ _ h => h) rfl (fun W hSw => ?_) (S0) ?_
      · (try dsimp only at hSw); go_simp <;> with_reducible rfl
      try simp only [Act.put, List.setIfInBounds_toArray, List.set_cons_zero, List.set_cons_succ]
      refine any_take (i := 10) (some 145) (.bool true) rfl rfl (by kernel_rfl) (by kernel_rfl) (by kernel_rfl) (fun _ _ _ h => h) rfl (fun W hSw => ?_) (S0) ?_
      · (try dsimp only at hSw); go_simp <;> with_reducible rfl
      try simp only [Act.put, List.setIfInBounds_toArray, List.set_cons_zero, List.set_cons_succ]
      refine any_take (i := 11) (some 146) (.bool true) rfl rfl (by kernel_rfl) (by kernel_rfl) (by kernel_rfl) (fun _ _ _ h => h) rfl (fun W hSw => ?_) (S0) ?_
      · (try dsimp only at hSw); go_simp <;> with_reducible rfl
      try simp only [Act.put, List.setIfInBounds_toArray, List.set_cons_zero, List.set_cons_succ]
      refine any_take (i := 12) (some 147) (.bool true) rfl rfl (by kernel_rfl) (by kernel_rfl) (by kernel_rfl) (fun _ _ _ h => h) rfl (fun W hSw => ?_) (S0) ?_
      · (try dsimp only at hSw); go_simp <;> with_reducible rfl
      try simp only [Act.put, List.setIfInBounds_toArray, List.set_cons_zero, List.set_cons_succ]
      refine any_take (i := 13) (some 148) (.agg #[.slice A1 o.length m, .slice A2 c.length m']) rfl rfl (by kernel_rfl) (by kernel_rfl) (by kernel_rfl) (fun _ _ _ h => h) rfl (fun W hSw => ?_) (S0) ?_
      · (try dsimp only at hSw); go_simp <;> with_reducible rfl
      try simp only [Act.put, List.setIfInBounds_toArray, List.set_cons_zero, List.set_cons_succ]
      refine any_take (i := 14) (some 149) (.agg #[.int .i64 t.keep, .int .i64 t.free, .int .i64 t.step, .int .i64 t.rate, .int .i64 t.cap, .int .i64 t.longer, .int .i64 t.price, .int .i64 t.most]) rfl rfl (by kernel_rfl) (by kernel_rfl) (by kernel_rfl) (fun _ _ _ h => h) rfl (fun W hSw => ?_) (S0) ?_
      · (try dsimp only at hSw); go_simp <;> with_reducible rfl
      try simp only [Act.put, List.setIfInBounds_toArray, List.set_cons_zero, List.set_cons_succ]
      refine any_take (i := 15) (some 150) (.int .i64 (1 + z)) rfl rfl (by kernel_rfl) (by kernel_rfl) (by kernel_rfl) (fun _ _ _ h => h) rfl (fun W hSw => ?_) (S0) ?_
      · (try dsimp only at hSw); go_simp <;> with_reducible rfl
      try simp only [Act.put, List.setIfInBounds_toArray, List.set_cons_zero, List.set_cons_succ]
      refine any_take (i := 16) (some 151) (.int .i64 a) rfl rfl (by kernel_rfl) (by kernel_rfl) (by kernel_rfl) (fun _ _ _ h => h) rfl (fun W hSw => ?_) (S0) ?_
      · (try dsimp only at hSw); go_simp <;> with_reducible rfl
      try simp only [Act.put, List.setIfInBounds_toArray, List.set_cons_zero, List.set_cons_succ]
      refine any_take (i := 17) (some 152) (.int .i64 u) rfl rfl (by kernel_rfl) (by kernel_rfl) (by kernel_rfl) (fun _ _ _ h => h) rfl (fun W hSw => ?_) (S0) ?_
      · (try dsimp only at hSw); go_simp <;> with_reducible rfl
      try simp only [Act.put, List.setIfInBounds_toArray, List.set_cons_zero, List.set_cons_succ]
      refine any_take (i := 18) (some 153) (.int .i64 (u + 1)) rfl rfl (by kernel_rfl) (by kernel_rfl) (by kernel_rfl) (fun _ _ _ h => h) rfl (fun W hSw => ?_) (S0) ?_
      · (try dsimp only at hSw); go_simp <;> with_reducible rfl
      try simp only [Act.put, List.setIfInBounds_toArray, List.set_cons_zero, List.set_cons_succ]
      refine any_take (i := 19) (some 154) (.int .i64 e) rfl rfl (by kernel_rfl) (by kernel_rfl) (by kernel_rfl) (fun _ _ _ h => h) rfl (fun W hSw => ?_) (S0) ?_
      · (try dsimp only at hSw); go_simp <;> with_reducible rfl
      try simp only [Act.put, List.setIfInBounds_toArray, List.set_cons_zero, List.set_cons_succ]
      refine any_take (i := 21) (some 156) (.int .i64 e) rfl rfl (by kernel_rfl) (by kernel_rfl) (by kernel_rfl) (fun _ _ _ h => h) rfl (fun W hSw => ?_) (S0) ?_
      · (try dsimp only at hSw); go_simp <;> with_reducible rfl
      try simp only [Act.put, List.setIfInBounds_toArray, List.set_cons_zero, List.set_cons_succ]
      refine any_take (i := 22) (some 157) (.pointer (some ⟨w3.heap.size, 6, none⟩)) rfl rfl (by kernel_rfl) (by kernel_rfl) (by kernel_rfl) (fun _ _ _ h => h) rfl (fun W hSw => ?_) (S0) ?_
      · (try dsimp only at hSw); go_simp <;> with_reducible rfl
      try simp only [Act.put, List.setIfInBounds_toArray, List.set_cons_zero, List.set_cons_succ]
      refine any_take (i := 23) (some 158) (.int .i64 t.price) rfl rfl (by kernel_rfl) (by kernel_rfl) (by kernel_rfl) (fun _ _ _ h => h) rfl (fun W hSw => ?_) (S0) ?_
      · (try dsimp only at hSw); go_simp <;> with_reducible rfl
      try simp only [Act.put, List.setIfInBounds_toArray, List.set_cons_zero, List.set_cons_succ]
      refine any_take (i := 24) (some 159) (.int .i64 p) rfl rfl (by kernel_rfl) (by kernel_rfl) (by kernel_rfl) (fun _ _ _ h => h) rfl (fun W hSw => ?_) (S0) ?_
      · (try dsimp only at hSw); go_simp <;> with_reducible rfl
      try simp only [Act.put, List.setIfInBounds_toArray, List.set_cons_zero, List.set_cons_succ]
      refine wpAnyH_ready (rs := [20]) (by kernel_rfl) (by simp) ?_
      refine AllReadyH.cons rfl (fun K hK => ?_) AllReadyH.nil
      go_simp
      go_at_call 17
      refine (feeI_any w10.drew w1.heap.size A1 A2 m m' o c t (1 + z) a (u + 1) e hlo' hlc' (show w1.heap.size ≤ w10.heap.size by omega) (SL.later SL_wk.out (by omega) ((Below.refl w10.heap.size w10).drew)) (SL.later SL_wkk.out (by omega) ((Below.refl w10.heap.size w10).drew))).mono ?_
      rintro e wk9 ⟨rfl, hb8⟩
      rw [HV9.out]
      have hb9wk9 : Below w10.heap.size w10 wk9 := ((Below.refl w10.heap.size w10).drew).trans hb8
      have Swk9 : (fun W : World => (W.cell? ⟨w1.heap.size, 0, none⟩ = some (.slice A1 o.length m) ∧ W.cell? ⟨w1.heap.size, 1, none⟩ = some (.slice A2 c.length m') ∧ W.cell? ⟨w3.heap.size, 0, none⟩ = some (.int .i64 t.keep) ∧ W.cell? ⟨w3.heap.size, 1, none⟩ = some (.int .i64 t.free) ∧ W.cell? ⟨w3.heap.size, 2, none⟩ = some (.int .i64 t.step) ∧ W.cell? ⟨w3.heap.size, 3, none⟩ = some (.int .i64 t.rate) ∧ W.cell? ⟨w3.heap.size, 4, none⟩ = some (.int .i64 t.cap) ∧ W.cell? ⟨w3.heap.size, 5, none⟩ = some (.int .i64 t.longer) ∧ W.cell? ⟨w3.heap.size, 6, none⟩ = some (.int .i64 t.price) ∧ W.cell? ⟨w3.heap.size, 7, none⟩ = some (.int .i64 t.most)) ∧ Below w10.heap.size w10 W) wk9 := ⟨⟨(bold hb9wk9 _ _ (by omega)).trans S0.1.1, (bold hb9wk9 _ _ (by omega)).trans S0.1.2.1, (bold hb9wk9 _ _ (by omega)).trans S0.1.2.2.1, (bold hb9wk9 _ _ (by omega)).trans S0.1.2.2.2.1, (bold hb9wk9 _ _ (by omega)).trans S0.1.2.2.2.2.1, (bold hb9wk9 _ _ (by omega)).trans S0.1.2.2.2.2.2.1, (bold hb9wk9 _ _ (by omega)).trans S0.1.2.2.2.2.2.2.1, (bold hb9wk9 _ _ (by omega)).trans S0.1.2.2.2.2.2.2.2.1, (bold hb9wk9 _ _ (by omega)).trans S0.1.2.2.2.2.2.2.2.2.1, (bold hb9wk9 _ _ (by omega)).trans S0.1.2.2.2.2.2.2.2.2.2⟩, hb9wk9⟩
      clear hb8
      go_wp2_with fail
      refine hK.out _ _ Swk9 (fun _ => ?_)
      clear hK K
      try simp only [Act.put, List.setIfInBounds_toArray, List.set_cons_zero, List.set_cons_succ]
      refine any_take (i := 25) (some 160) (.bool false) rfl rfl (by kernel_rfl) (by kernel_rfl) (by kernel_rfl) (fun _ _ _ h => h) rfl (fun W hSw => ?_) (Swk9) ?_
      · (try dsimp only at hSw); go_simp <;> with_reducible rfl
      try simp only [Act.put, List.setIfInBounds_toArray, List.set_cons_zero, List.set_cons_succ]
      refine any_take (i := 26) (some 161) (.bool false) rfl rfl (by kernel_rfl) (by kernel_rfl) (by kernel_rfl) (fun _ _ _ h => h) rfl (fun W hSw => ?_) (Swk9) ?_
      · (try dsimp only at hSw); go_simp <;> with_reducible rfl
      try simp only [Act.put, List.setIfInBounds_toArray, List.set_cons_zero, List.set_cons_succ]
      refine wpAnyH_done (by kernel_rfl) ?_ _
      have hb : Below w10.heap.size w10 wk9 := Swk9.2
      clear S0 Swk9 hb9wk9 zc hzz hlwa9 hlta9
      have wa := WAH.out; clear WAH
      have ta := TAH.out; clear TAH
      have zb := ZB.out; clear ZB
      have kk := SL.later SL_wk.out (by omega) hb; clear SL_wk; have SL_wk := Lib.hid kk; clear kk
      have kk := SL.later SL_wkk.out (by omega) hb; clear SL_wkk; have SL_wkk := Lib.hid kk; clear kk
      have hswk9 := hb.size
      replace wa := has_call wa hb
      replace ta := has_call ta hb
      replace zb := bthen zb hb; clear hb
      obtain ⟨q, hq⟩ : ∃ q, nextB o c t (1 + z) a (a + d) e = q := ⟨_, rfl⟩
      cases q with
      | none =>
        have hn := next_none6 HFA.out hq; rw [HV.out] at hn
        have HN := Lib.hid hn; have HQ := Lib.hid hq; clear hn hq
        have wac0 := has_cell wa 0 rfl; have wac1 := has_cell wa 1 rfl
        have walt := has_lt wa
        have tac0 := has_cell ta 0 rfl; have tac1 := has_cell ta 1 rfl; have tac2 := has_cell ta 2 rfl; have tac3 := has_cell ta 3 rfl; have tac4 := has_cell ta 4 rfl; have tac5 := has_cell ta 5 rfl; have tac6 := has_cell ta 6 rfl; have tac7 := has_cell ta 7 rfl
        have talt := has_lt ta
        have WAH := Lib.hid wa; clear wa
        have TAH := Lib.hid ta; clear ta
        have ZB := Lib.hid zb; clear zb
        go_wp2_with fail
        clear wac0 wac1 walt tac0 tac1 tac2 tac3 tac4 tac5 tac6 tac7 talt
        have wa := WAH.out; clear WAH
        have ta := TAH.out; clear TAH
        have zb := ZB.out; clear ZB
        refine (nextI_any _ w1.heap.size A1 A2 m m' o c t (1 + z) a (a + d) e hlo' hlc' (by omega) SL_wk.out SL_wkk.out).mono ?_
        rintro e w12 ⟨rfl, hb⟩
        rw [HQ.out]
        have kk := SL.later SL_wk.out (by omega) hb; clear SL_wk; have SL_wk := Lib.hid kk; clear kk
        have kk := SL.later SL_wkk.out (by omega) hb; clear SL_wkk; have SL_wkk := Lib.hid kk; clear kk
        have hsw12 := hb.size
        replace wa := has_call wa hb
        replace ta := has_call ta hb
        replace zb := bthen zb hb; clear hb
        unfold pairV
        have wac0 := has_cell wa 0 rfl; have wac1 := has_cell wa 1 rfl
        have walt := has_lt wa
        have tac0 := has_cell ta 0 rfl; have tac1 := has_cell ta 1 rfl; have tac2 := has_cell ta 2 rfl; have tac3 := has_cell ta 3 rfl; have tac4 := has_cell ta 4 rfl; have tac5 := has_cell ta 5 rfl; have tac6 := has_cell ta 6 rfl; have tac7 := has_cell ta 7 rfl
        have talt := has_lt ta
        have WAH := Lib.hid wa; clear wa
        have TAH := Lib.hid ta; clear ta
        have ZB := Lib.hid zb; clear zb
        go_wp2_with fail
        clear wac0 wac1 walt tac0 tac1 tac2 tac3 tac4 tac5 tac6 tac7 talt
        have wa := WAH.out; clear WAH
        have ta := TAH.out; clear TAH
        have zb := ZB.out; clear ZB
        refine (nextS_any _ w1.heap.size A1 A2 m m' o c t (1 + z) a (a + d) e hlo' hlc' (by omega) SL_wk.out SL_wkk.out).mono ?_
        rintro e w13 ⟨rfl, hb⟩
        rw [HQ.out]
        have kk := SL.later SL_wk.out (by omega) hb; clear SL_wk; have SL_wk := Lib.hid kk; clear kk
        have kk := SL.later SL_wkk.out (by omega) hb; clear SL_wkk; have SL_wkk := Lib.hid kk; clear kk
        have hsw13 := hb.size
        replace wa := has_call wa hb
        replace ta := has_call ta hb
        replace zb := bthen zb hb; clear hb
        unfold pairV
        have wac0 := has_cell wa 0 rfl; have wac1 := has_cell wa 1 rfl
        have walt := has_lt wa
        have tac0 := has_cell ta 0 rfl; have tac1 := has_cell ta 1 rfl; have tac2 := has_cell ta 2 rfl; have tac3 := has_cell ta 3 rfl; have tac4 := has_cell ta 4 rfl; have tac5 := has_cell ta 5 rfl; have tac6 := has_cell ta 6 rfl; have tac7 := has_cell ta 7 rfl
        have talt := has_lt ta
        have WAH := Lib.hid wa; clear wa
        have TAH := Lib.hid ta; clear ta
        have ZB := Lib.hid zb; clear zb
        go_wp2_with fail
        clear wac0 wac1 walt tac0 tac1 tac2 tac3 tac4 tac5 tac6 tac7 talt
        have wa := WAH.out; clear WAH
        have ta := TAH.out; clear TAH
        have zb := ZB.out; clear ZB
        refine (feeI_any _ w1.heap.size A1 A2 m m' o c t (1 + z) a 20000 e hlo' hlc' (by omega) SL_wk.out SL_wkk.out).mono ?_
        rintro e w14 ⟨rfl, hb⟩
        rw [HN.out]
        have kk := SL.later SL_wk.out (by omega) hb; clear SL_wk; have SL_wk := Lib.hid kk; clear kk
        have kk := SL.later SL_wkk.out (by omega) hb; clear SL_wkk; have SL_wkk := Lib.hid kk; clear kk
        have hsw14 := hb.size
        replace wa := has_call wa hb
        replace ta := has_call ta hb
        replace zb := bthen zb hb; clear hb
        have wac0 := has_cell wa 0 rfl; have wac1 := has_cell wa 1 rfl
        have walt := has_lt wa
        have tac0 := has_cell ta 0 rfl; have tac1 := has_cell ta 1 rfl; have tac2 := has_cell ta 2 rfl; have tac3 := has_cell ta 3 rfl; have tac4 := has_cell ta 4 rfl; have tac5 := has_cell ta 5 rfl; have tac6 := has_cell ta 6 rfl; have tac7 := has_cell ta 7 rfl
        have talt := has_lt ta
        have WAH := Lib.hid wa; clear wa
        have TAH := Lib.hid ta; clear ta
        have ZB := Lib.hid zb; clear zb
        go_wp2_with fail
        clear wac0 wac1 walt tac0 tac1 tac2 tac3 tac4 tac5 tac6 tac7 talt
        have wa := WAH.out; clear WAH
        have ta := TAH.out; clear TAH
        have zb := ZB.out; clear ZB
        go_ret
        exact ⟨rfl, zb⟩
      | some y =>
        obtain ⟨y0, y1, y2, y3⟩ := next_some6 HFA.out hq; rw [HV.out] at y2 y3
        obtain ⟨v3, hv3⟩ : ∃ v, feeB o c t (1 + z) a y e = v := ⟨_, rfl⟩
        rw [hv3] at y2
        have H3 := Lib.hid hv3; have H4 := Lib.hid y3; have HQ := Lib.hid hq; clear hv3 y3 hq
        have ny : (y != y) = false := by simp
        have wac0 := has_cell wa 0 rfl; have wac1 := has_cell wa 1 rfl
        have walt := has_lt wa
        have tac0 := has_cell ta 0 rfl; have tac1 := has_cell ta 1 rfl; have tac2 := has_cell ta 2 rfl; have tac3 := has_cell ta 3 rfl; have tac4 := has_cell ta 4 rfl; have tac5 := has_cell ta 5 rfl; have tac6 := has_cell ta 6 rfl; have tac7 := has_cell ta 7 rfl
        have talt := has_lt ta
        have WAH := Lib.hid wa; clear wa
        have TAH := Lib.hid ta; clear ta
        have ZB := Lib.hid zb; clear zb
        go_wp2_with fail
        clear wac0 wac1 walt tac0 tac1 tac2 tac3 tac4 tac5 tac6 tac7 talt
        have wa := WAH.out; clear WAH
        have ta := TAH.out; clear TAH
        have zb := ZB.out; clear ZB
        refine (nextI_any _ w1.heap.size A1 A2 m m' o c t (1 + z) a (a + d) e hlo' hlc' (by omega) SL_wk.out SL_wkk.out).mono ?_
        rintro e w12 ⟨rfl, hb⟩
        rw [HQ.out]
        have kk := SL.later SL_wk.out (by omega) hb; clear SL_wk; have SL_wk := Lib.hid kk; clear kk
        have kk := SL.later SL_wkk.out (by omega) hb; clear SL_wkk; have SL_wkk := Lib.hid kk; clear kk
        have hsw12 := hb.size
        replace wa := has_call wa hb
        replace ta := has_call ta hb
        replace zb := bthen zb hb; clear hb
        unfold pairV
        have wac0 := has_cell wa 0 rfl; have wac1 := has_cell wa 1 rfl
        have walt := has_lt wa
        have tac0 := has_cell ta 0 rfl; have tac1 := has_cell ta 1 rfl; have tac2 := has_cell ta 2 rfl; have tac3 := has_cell ta 3 rfl; have tac4 := has_cell ta 4 rfl; have tac5 := has_cell ta 5 rfl; have tac6 := has_cell ta 6 rfl; have tac7 := has_cell ta 7 rfl
        have talt := has_lt ta
        have WAH := Lib.hid wa; clear wa
        have TAH := Lib.hid ta; clear ta
        have ZB := Lib.hid zb; clear zb
        go_wp2_with fail
        clear wac0 wac1 walt tac0 tac1 tac2 tac3 tac4 tac5 tac6 tac7 talt
        have wa := WAH.out; clear WAH
        have ta := TAH.out; clear TAH
        have zb := ZB.out; clear ZB
        refine (nextS_any _ w1.heap.size A1 A2 m m' o c t (1 + z) a (a + d) e hlo' hlc' (by omega) SL_wk.out SL_wkk.out).mono ?_
        rintro e w13 ⟨rfl, hb⟩
        rw [HQ.out]
        have kk := SL.later SL_wk.out (by omega) hb; clear SL_wk; have SL_wk := Lib.hid kk; clear kk
        have kk := SL.later SL_wkk.out (by omega) hb; clear SL_wkk; have SL_wkk := Lib.hid kk; clear kk
        have hsw13 := hb.size
        replace wa := has_call wa hb
        replace ta := has_call ta hb
        replace zb := bthen zb hb; clear hb
        unfold pairV
        have wac0 := has_cell wa 0 rfl; have wac1 := has_cell wa 1 rfl
        have walt := has_lt wa
        have tac0 := has_cell ta 0 rfl; have tac1 := has_cell ta 1 rfl; have tac2 := has_cell ta 2 rfl; have tac3 := has_cell ta 3 rfl; have tac4 := has_cell ta 4 rfl; have tac5 := has_cell ta 5 rfl; have tac6 := has_cell ta 6 rfl; have tac7 := has_cell ta 7 rfl
        have talt := has_lt ta
        have WAH := Lib.hid wa; clear wa
        have TAH := Lib.hid ta; clear ta
        have ZB := Lib.hid zb; clear zb
        go_wp2_with fail
        clear wac0 wac1 walt tac0 tac1 tac2 tac3 tac4 tac5 tac6 tac7 talt
        have wa := WAH.out; clear WAH
        have ta := TAH.out; clear TAH
        have zb := ZB.out; clear ZB
        refine (feeI_any _ w1.heap.size A1 A2 m m' o c t (1 + z) a y e hlo' hlc' (by omega) SL_wk.out SL_wkk.out).mono ?_
        rintro e w14 ⟨rfl, hb⟩
        rw [H3.out]
        have kk := SL.later SL_wk.out (by omega) hb; clear SL_wk; have SL_wk := Lib.hid kk; clear kk
        have kk := SL.later SL_wkk.out (by omega) hb; clear SL_wkk; have SL_wkk := Lib.hid kk; clear kk
        have hsw14 := hb.size
        replace wa := has_call wa hb
        replace ta := has_call ta hb
        replace zb := bthen zb hb; clear hb
        have wac0 := has_cell wa 0 rfl; have wac1 := has_cell wa 1 rfl
        have walt := has_lt wa
        have tac0 := has_cell ta 0 rfl; have tac1 := has_cell ta 1 rfl; have tac2 := has_cell ta 2 rfl; have tac3 := has_cell ta 3 rfl; have tac4 := has_cell ta 4 rfl; have tac5 := has_cell ta 5 rfl; have tac6 := has_cell ta 6 rfl; have tac7 := has_cell ta 7 rfl
        have talt := has_lt ta
        have WAH := Lib.hid wa; clear wa
        have TAH := Lib.hid ta; clear ta
        have ZB := Lib.hid zb; clear zb
        go_wp2_with fail
        clear wac0 wac1 walt tac0 tac1 tac2 tac3 tac4 tac5 tac6 tac7 talt
        have wa := WAH.out; clear WAH
        have ta := TAH.out; clear TAH
        have zb := ZB.out; clear ZB
        refine (feeI_any _ w1.heap.size A1 A2 m m' o c t (1 + z) a (y - 1) e hlo' hlc' (by omega) SL_wk.out SL_wkk.out).mono ?_
        rintro e w15 ⟨rfl, hb⟩
        rw [H4.out]
        have kk := SL.later SL_wk.out (by omega) hb; clear SL_wk; have SL_wk := Lib.hid kk; clear kk
        have kk := SL.later SL_wkk.out (by omega) hb; clear SL_wkk; have SL_wkk := Lib.hid kk; clear kk
        have hsw15 := hb.size
        replace wa := has_call wa hb
        replace ta := has_call ta hb
        replace zb := bthen zb hb; clear hb
        have wac0 := has_cell wa 0 rfl; have wac1 := has_cell wa 1 rfl
        have walt := has_lt wa
        have tac0 := has_cell ta 0 rfl; have tac1 := has_cell ta 1 rfl; have tac2 := has_cell ta 2 rfl; have tac3 := has_cell ta 3 rfl; have tac4 := has_cell ta 4 rfl; have tac5 := has_cell ta 5 rfl; have tac6 := has_cell ta 6 rfl; have tac7 := has_cell ta 7 rfl
        have talt := has_lt ta
        have WAH := Lib.hid wa; clear wa
        have TAH := Lib.hid ta; clear ta
        have ZB := Lib.hid zb; clear zb
        go_wp2_with fail
        clear wac0 wac1 walt tac0 tac1 tac2 tac3 tac4 tac5 tac6 tac7 talt
        have wa := WAH.out; clear WAH
        have ta := TAH.out; clear TAH
        have zb := ZB.out; clear ZB
        go_ret
        exact ⟨rfl, zb⟩
  · skip
    have wac0 := has_cell wa 0 rfl; have wac1 := has_cell wa 1 rfl
    have walt := has_lt wa
    have tac0 := has_cell ta 0 rfl; have tac1 := has_cell ta 1 rfl; have tac2 := has_cell ta 2 rfl; have tac3 := has_cell ta 3 rfl; have tac4 := has_cell ta 4 rfl; have tac5 := has_cell ta 5 rfl; have tac6 := has_cell ta 6 rfl; have tac7 := has_cell ta 7 rfl
    have talt := has_lt ta
    have WAH := Lib.hid wa; clear wa
    have TAH := Lib.hid ta; clear ta
    have ZB := Lib.hid zb; clear zb
    go_wp2_with fail
    clear wac0 wac1 walt tac0 tac1 tac2 tac3 tac4 tac5 tac6 tac7 talt
    have wa := WAH.out; clear WAH
    have ta := TAH.out; clear TAH
    have zb := ZB.out; clear ZB
    refine (feeI_any _ w1.heap.size A1 A2 m m' o c t (1 + z) a (a - 1) e hlo' hlc' (by omega) SL_wk.out SL_wkk.out).mono ?_
    rintro e w10 ⟨rfl, hb⟩
    rw [HBK.out]
    have kk := SL.later SL_wk.out (by omega) hb; clear SL_wk; have SL_wk := Lib.hid kk; clear kk
    have kk := SL.later SL_wkk.out (by omega) hb; clear SL_wkk; have SL_wkk := Lib.hid kk; clear kk
    have hsw10 := hb.size
    replace wa := has_call wa hb
    replace ta := has_call ta hb
    replace zb := bthen zb hb; clear hb
    have wac0 := has_cell wa 0 rfl; have wac1 := has_cell wa 1 rfl
    have walt := has_lt wa
    have tac0 := has_cell ta 0 rfl; have tac1 := has_cell ta 1 rfl; have tac2 := has_cell ta 2 rfl; have tac3 := has_cell ta 3 rfl; have tac4 := has_cell ta 4 rfl; have tac5 := has_cell ta 5 rfl; have tac6 := has_cell ta 6 rfl; have tac7 := has_cell ta 7 rfl
    have talt := has_lt ta
    have WAH := Lib.hid wa; clear wa
    have TAH := Lib.hid ta; clear ta
    have ZB := Lib.hid zb; clear zb
    go_wp2_with fail
    clear wac0 wac1 walt tac0 tac1 tac2 tac3 tac4 tac5 tac6 tac7 talt
    have wa := WAH.out; clear WAH
    have ta := TAH.out; clear TAH
    have zb := ZB.out; clear ZB
    clear hbu
    have hcs : ¬ u < 20000 ∨ (u < 20000 ∧ ¬ 0 < t.rate) ∨ (u < 20000 ∧ 0 < t.rate ∧ ¬ 0 < t.cap) ∨ (u < 20000 ∧ 0 < t.rate ∧ 0 < t.cap) := by omega
    rcases hcs with hc1 | ⟨hc1, hc2⟩ | ⟨hc1, hc2, hc3⟩ | ⟨hc1, hc2, hc3⟩
    · skip
      have d1 : decide (u < 20000) = false := decide_eq_false hc1
      have wac0 := has_cell wa 0 rfl; have wac1 := has_cell wa 1 rfl
      have walt := has_lt wa
      have tac0 := has_cell ta 0 rfl; have tac1 := has_cell ta 1 rfl; have tac2 := has_cell ta 2 rfl; have tac3 := has_cell ta 3 rfl; have tac4 := has_cell ta 4 rfl; have tac5 := has_cell ta 5 rfl; have tac6 := has_cell ta 6 rfl; have tac7 := has_cell ta 7 rfl
      have talt := has_lt ta
      have WAH := Lib.hid wa; clear wa
      have TAH := Lib.hid ta; clear ta
      have ZB := Lib.hid zb; clear zb
      try go_wp2_with fail
      have S0 : (fun W : World => (W.cell? ⟨w1.heap.size, 0, none⟩ = some (.slice A1 o.length m) ∧ W.cell? ⟨w1.heap.size, 1, none⟩ = some (.slice A2 c.length m') ∧ W.cell? ⟨w3.heap.size, 0, none⟩ = some (.int .i64 t.keep) ∧ W.cell? ⟨w3.heap.size, 1, none⟩ = some (.int .i64 t.free) ∧ W.cell? ⟨w3.heap.size, 2, none⟩ = some (.int .i64 t.step) ∧ W.cell? ⟨w3.heap.size, 3, none⟩ = some (.int .i64 t.rate) ∧ W.cell? ⟨w3.heap.size, 4, none⟩ = some (.int .i64 t.cap) ∧ W.cell? ⟨w3.heap.size, 5, none⟩ = some (.int .i64 t.longer) ∧ W.cell? ⟨w3.heap.size, 6, none⟩ = some (.int .i64 t.price) ∧ W.cell? ⟨w3.heap.size, 7, none⟩ = some (.int .i64 t.most)) ∧ Below w10.heap.size w10 W) w10.drew := ⟨⟨wac0, wac1, tac0, tac1, tac2, tac3, tac4, tac5, tac6, tac7⟩, (Below.refl _ _).drew⟩
      have zc := ZB.out; have hzz := zc.size; have hlwa9 := walt; have hlta9 := talt
      clear wac0 wac1 walt tac0 tac1 tac2 tac3 tac4 tac5 tac6 tac7 talt
      refine wp_region_held_drew (S := (fun W : World => (W.cell? ⟨w1.heap.size, 0, none⟩ = some (.slice A1 o.length m) ∧ W.cell? ⟨w1.heap.size, 1, none⟩ = some (.slice A2 c.length m') ∧ W.cell? ⟨w3.heap.size, 0, none⟩ = some (.int .i64 t.keep) ∧ W.cell? ⟨w3.heap.size, 1, none⟩ = some (.int .i64 t.free) ∧ W.cell? ⟨w3.heap.size, 2, none⟩ = some (.int .i64 t.step) ∧ W.cell? ⟨w3.heap.size, 3, none⟩ = some (.int .i64 t.rate) ∧ W.cell? ⟨w3.heap.size, 4, none⟩ = some (.int .i64 t.cap) ∧ W.cell? ⟨w3.heap.size, 5, none⟩ = some (.int .i64 t.longer) ∧ W.cell? ⟨w3.heap.size, 6, none⟩ = some (.int .i64 t.price) ∧ W.cell? ⟨w3.heap.size, 7, none⟩ = some (.int .i64 t.most)) ∧ Below w10.heap.size w10 W)) (by kernel_rfl) S0 (fun _ => ?_)
      refine any_take (i := 0) (some 135) (.int .i64 u) rfl rfl (by kernel_rfl) (by kernel_rfl) (by kernel_rfl) (fun _ _ _ h => h) rfl (fun W hSw => ?_) (S0) ?_
      · (try dsimp only at hSw); go_simp <;> with_reducible rfl
      try simp only [Act.put, List.setIfInBounds_toArray, List.set_cons_zero, List.set_cons_succ]
      refine any_take (i := 1) (some 136) (.bool false) rfl rfl (by kernel_rfl) (by kernel_rfl) (by kernel_rfl) (fun _ _ _ h => h) rfl (fun W hSw => ?_) (S0) ?_
      · (try dsimp only at hSw); go_simp <;> with_reducible rfl
      try simp only [Act.put, List.setIfInBounds_toArray, List.set_cons_zero, List.set_cons_succ]
      refine any_take (i := 2) (some 137) (.bool false) rfl rfl (by kernel_rfl) (by kernel_rfl) (by kernel_rfl) (fun _ _ _ h => h) rfl (fun W hSw => ?_) (S0) ?_
      · (try dsimp only at hSw); go_simp <;> with_reducible rfl
      try simp only [Act.put, List.setIfInBounds_toArray, List.set_cons_zero, List.set_cons_succ]
      refine any_skip (i := 3) (some 138) rfl rfl (by kernel_rfl) (by kernel_rfl) (by kernel_rfl) (fun _ _ _ h => h) rfl (S0) ?_
      try simp only [Act.put, List.setIfInBounds_toArray, List.set_cons_zero, List.set_cons_succ]
      refine any_skip (i := 4) (some 139) rfl rfl (by kernel_rfl) (by kernel_rfl) (by kernel_rfl) (fun _ _ _ h => h) rfl (S0) ?_
      try simp only [Act.put, List.setIfInBounds_toArray, List.set_cons_zero, List.set_cons_succ]
      refine any_skip (i := 5) (some 140) rfl rfl (by kernel_rfl) (by kernel_rfl) (by kernel_rfl) (fun _ _ _ h => h) rfl (S0) ?_
      try simp only [Act.put, List.setIfInBounds_toArray, List.set_cons_zero, List.set_cons_succ]
      refine any_take (i := 6) (some 141) (.bool false) rfl rfl (by kernel_rfl) (by kernel_rfl) (by kernel_rfl) (fun _ _ _ h => h) rfl (fun W hSw => ?_) (S0) ?_
      · (try dsimp only at hSw); go_simp <;> with_reducible rfl
      try simp only [Act.put, List.setIfInBounds_toArray, List.set_cons_zero, List.set_cons_succ]
      refine any_take (i := 7) (some 142) (.bool false) rfl rfl (by kernel_rfl) (by kernel_rfl) (by kernel_rfl) (fun _ _ _ h => h) rfl (fun W hSw => ?_) (S0) ?_
      · (try dsimp only at hSw); go_simp <;> with_reducible rfl
      try simp only [Act.put, List.setIfInBounds_toArray, List.set_cons_zero, List.set_cons_succ]
      refine any_skip (i := 8) (some 143) rfl rfl (by kernel_rfl) (by kernel_rfl) (by kernel_rfl) (fun _ _ _ h => h) rfl (S0) ?_
      try simp only [Act.put, List.setIfInBounds_toArray, List.set_cons_zero, List.set_cons_succ]
      refine any_skip (i := 9) (some 144) rfl rfl (by kernel_rfl) (by kernel_rfl) (by kernel_rfl) (fun _ _ _ h => h) rfl (S0) ?_
      try simp only [Act.put, List.setIfInBounds_toArray, List.set_cons_zero, List.set_cons_succ]
      refine any_skip (i := 10) (some 145) rfl rfl (by kernel_rfl) (by kernel_rfl) (by kernel_rfl) (fun _ _ _ h => h) rfl (S0) ?_
      try simp only [Act.put, List.setIfInBounds_toArray, List.set_cons_zero, List.set_cons_succ]
      refine any_take (i := 11) (some 146) (.bool false) rfl rfl (by kernel_rfl) (by kernel_rfl) (by kernel_rfl) (fun _ _ _ h => h) rfl (fun W hSw => ?_) (S0) ?_
      · (try dsimp only at hSw); go_simp <;> with_reducible rfl
      try simp only [Act.put, List.setIfInBounds_toArray, List.set_cons_zero, List.set_cons_succ]
      refine any_take (i := 12) (some 147) (.bool false) rfl rfl (by kernel_rfl) (by kernel_rfl) (by kernel_rfl) (fun _ _ _ h => h) rfl (fun W hSw => ?_) (S0) ?_
      · (try dsimp only at hSw); go_simp <;> with_reducible rfl
      try simp only [Act.put, List.setIfInBounds_toArray, List.set_cons_zero, List.set_cons_succ]
      refine any_skip (i := 13) (some 148) rfl rfl (by kernel_rfl) (by kernel_rfl) (by kernel_rfl) (fun _ _ _ h => h) rfl (S0) ?_
      try simp only [Act.put, List.setIfInBounds_toArray, List.set_cons_zero, List.set_cons_succ]
      refine any_skip (i := 14) (some 149) rfl rfl (by kernel_rfl) (by kernel_rfl) (by kernel_rfl) (fun _ _ _ h => h) rfl (S0) ?_
      try simp only [Act.put, List.setIfInBounds_toArray, List.set_cons_zero, List.set_cons_succ]
      refine any_skip (i := 15) (some 150) rfl rfl (by kernel_rfl) (by kernel_rfl) (by kernel_rfl) (fun _ _ _ h => h) rfl (S0) ?_
      try simp only [Act.put, List.setIfInBounds_toArray, List.set_cons_zero, List.set_cons_succ]
      refine any_skip (i := 16) (some 151) rfl rfl (by kernel_rfl) (by kernel_rfl) (by kernel_rfl) (fun _ _ _ h => h) rfl (S0) ?_
      try simp only [Act.put, List.setIfInBounds_toArray, List.set_cons_zero, List.set_cons_succ]
      refine any_skip (i := 17) (some 152) rfl rfl (by kernel_rfl) (by kernel_rfl) (by kernel_rfl) (fun _ _ _ h => h) rfl (S0) ?_
      try simp only [Act.put, List.setIfInBounds_toArray, List.set_cons_zero, List.set_cons_succ]
      refine any_skip (i := 18) (some 153) rfl rfl (by kernel_rfl) (by kernel_rfl) (by kernel_rfl) (fun _ _ _ h => h) rfl (S0) ?_
      try simp only [Act.put, List.setIfInBounds_toArray, List.set_cons_zero, List.set_cons_succ]
      refine any_skip (i := 19) (some 154) rfl rfl (by kernel_rfl) (by kernel_rfl) (by kernel_rfl) (fun _ _ _ h => h) rfl (S0) ?_
      try simp only [Act.put, List.setIfInBounds_toArray, List.set_cons_zero, List.set_cons_succ]
      refine any_skip (i := 21) (some 156) rfl rfl (by kernel_rfl) (by kernel_rfl) (by kernel_rfl) (fun _ _ _ h => h) rfl (S0) ?_
      try simp only [Act.put, List.setIfInBounds_toArray, List.set_cons_zero, List.set_cons_succ]
      refine any_skip (i := 22) (some 157) rfl rfl (by kernel_rfl) (by kernel_rfl) (by kernel_rfl) (fun _ _ _ h => h) rfl (S0) ?_
      try simp only [Act.put, List.setIfInBounds_toArray, List.set_cons_zero, List.set_cons_succ]
      refine any_skip (i := 23) (some 158) rfl rfl (by kernel_rfl) (by kernel_rfl) (by kernel_rfl) (fun _ _ _ h => h) rfl (S0) ?_
      try simp only [Act.put, List.setIfInBounds_toArray, List.set_cons_zero, List.set_cons_succ]
      refine any_skip (i := 24) (some 159) rfl rfl (by kernel_rfl) (by kernel_rfl) (by kernel_rfl) (fun _ _ _ h => h) rfl (S0) ?_
      try simp only [Act.put, List.setIfInBounds_toArray, List.set_cons_zero, List.set_cons_succ]
      refine any_skip (i := 20) (some 155) rfl rfl (by kernel_rfl) (by kernel_rfl) (by kernel_rfl) (fun _ _ _ h => h) rfl (S0) ?_
      try simp only [Act.put, List.setIfInBounds_toArray, List.set_cons_zero, List.set_cons_succ]
      refine any_skip (i := 25) (some 160) rfl rfl (by kernel_rfl) (by kernel_rfl) (by kernel_rfl) (fun _ _ _ h => h) rfl (S0) ?_
      try simp only [Act.put, List.setIfInBounds_toArray, List.set_cons_zero, List.set_cons_succ]
      refine any_take (i := 26) (some 161) (.bool false) rfl rfl (by kernel_rfl) (by kernel_rfl) (by kernel_rfl) (fun _ _ _ h => h) rfl (fun W hSw => ?_) (S0) ?_
      · (try dsimp only at hSw); go_simp <;> with_reducible rfl
      try simp only [Act.put, List.setIfInBounds_toArray, List.set_cons_zero, List.set_cons_succ]
      refine wpAnyH_done (by kernel_rfl) ?_ _
      have hb : Below w10.heap.size w10 w10.drew := S0.2
      clear S0 zc hzz hlwa9 hlta9
      have wa := WAH.out; clear WAH
      have ta := TAH.out; clear TAH
      have zb := ZB.out; clear ZB
      have kk := SL.later SL_wk.out (by omega) hb; clear SL_wk; have SL_wk := Lib.hid kk; clear kk
      have kk := SL.later SL_wkk.out (by omega) hb; clear SL_wkk; have SL_wkk := Lib.hid kk; clear kk
      have hsw10.drew := hb.size
      replace wa := has_call wa hb
      replace ta := has_call ta hb
      replace zb := bthen zb hb; clear hb
      obtain ⟨q, hq⟩ : ∃ q, nextB o c t (1 + z) a (a + d) e = q := ⟨_, rfl⟩
      cases q with
      | none =>
        have hn := next_none6 HFA.out hq; rw [HV.out] at hn
        have HN := Lib.hid hn; have HQ := Lib.hid hq; clear hn hq
        have wac0 := has_cell wa 0 rfl; have wac1 := has_cell wa 1 rfl
        have walt := has_lt wa
        have tac0 := has_cell ta 0 rfl; have tac1 := has_cell ta 1 rfl; have tac2 := has_cell ta 2 rfl; have tac3 := has_cell ta 3 rfl; have tac4 := has_cell ta 4 rfl; have tac5 := has_cell ta 5 rfl; have tac6 := has_cell ta 6 rfl; have tac7 := has_cell ta 7 rfl
        have talt := has_lt ta
        have WAH := Lib.hid wa; clear wa
        have TAH := Lib.hid ta; clear ta
        have ZB := Lib.hid zb; clear zb
        go_wp2_with fail
        clear wac0 wac1 walt tac0 tac1 tac2 tac3 tac4 tac5 tac6 tac7 talt
        have wa := WAH.out; clear WAH
        have ta := TAH.out; clear TAH
        have zb := ZB.out; clear ZB
        refine (nextI_any _ w1.heap.size A1 A2 m m' o c t (1 + z) a (a + d) e hlo' hlc' (by omega) SL_wk.out SL_wkk.out).mono ?_
        rintro e w12 ⟨rfl, hb⟩
        rw [HQ.out]
        have kk := SL.later SL_wk.out (by omega) hb; clear SL_wk; have SL_wk := Lib.hid kk; clear kk
        have kk := SL.later SL_wkk.out (by omega) hb; clear SL_wkk; have SL_wkk := Lib.hid kk; clear kk
        have hsw12 := hb.size
        replace wa := has_call wa hb
        replace ta := has_call ta hb
        replace zb := bthen zb hb; clear hb
        unfold pairV
        have wac0 := has_cell wa 0 rfl; have wac1 := has_cell wa 1 rfl
        have walt := has_lt wa
        have tac0 := has_cell ta 0 rfl; have tac1 := has_cell ta 1 rfl; have tac2 := has_cell ta 2 rfl; have tac3 := has_cell ta 3 rfl; have tac4 := has_cell ta 4 rfl; have tac5 := has_cell ta 5 rfl; have tac6 := has_cell ta 6 rfl; have tac7 := has_cell ta 7 rfl
        have talt := has_lt ta
        have WAH := Lib.hid wa; clear wa
        have TAH := Lib.hid ta; clear ta
        have ZB := Lib.hid zb; clear zb
        go_wp2_with fail
        clear wac0 wac1 walt tac0 tac1 tac2 tac3 tac4 tac5 tac6 tac7 talt
        have wa := WAH.out; clear WAH
        have ta := TAH.out; clear TAH
        have zb := ZB.out; clear ZB
        refine (nextS_any _ w1.heap.size A1 A2 m m' o c t (1 + z) a (a + d) e hlo' hlc' (by omega) SL_wk.out SL_wkk.out).mono ?_
        rintro e w13 ⟨rfl, hb⟩
        rw [HQ.out]
        have kk := SL.later SL_wk.out (by omega) hb; clear SL_wk; have SL_wk := Lib.hid kk; clear kk
        have kk := SL.later SL_wkk.out (by omega) hb; clear SL_wkk; have SL_wkk := Lib.hid kk; clear kk
        have hsw13 := hb.size
        replace wa := has_call wa hb
        replace ta := has_call ta hb
        replace zb := bthen zb hb; clear hb
        unfold pairV
        have wac0 := has_cell wa 0 rfl; have wac1 := has_cell wa 1 rfl
        have walt := has_lt wa
        have tac0 := has_cell ta 0 rfl; have tac1 := has_cell ta 1 rfl; have tac2 := has_cell ta 2 rfl; have tac3 := has_cell ta 3 rfl; have tac4 := has_cell ta 4 rfl; have tac5 := has_cell ta 5 rfl; have tac6 := has_cell ta 6 rfl; have tac7 := has_cell ta 7 rfl
        have talt := has_lt ta
        have WAH := Lib.hid wa; clear wa
        have TAH := Lib.hid ta; clear ta
        have ZB := Lib.hid zb; clear zb
        go_wp2_with fail
        clear wac0 wac1 walt tac0 tac1 tac2 tac3 tac4 tac5 tac6 tac7 talt
        have wa := WAH.out; clear WAH
        have ta := TAH.out; clear TAH
        have zb := ZB.out; clear ZB
        refine (feeI_any _ w1.heap.size A1 A2 m m' o c t (1 + z) a 20000 e hlo' hlc' (by omega) SL_wk.out SL_wkk.out).mono ?_
        rintro e w14 ⟨rfl, hb⟩
        rw [HN.out]
        have kk := SL.later SL_wk.out (by omega) hb; clear SL_wk; have SL_wk := Lib.hid kk; clear kk
        have kk := SL.later SL_wkk.out (by omega) hb; clear SL_wkk; have SL_wkk := Lib.hid kk; clear kk
        have hsw14 := hb.size
        replace wa := has_call wa hb
        replace ta := has_call ta hb
        replace zb := bthen zb hb; clear hb
        have wac0 := has_cell wa 0 rfl; have wac1 := has_cell wa 1 rfl
        have walt := has_lt wa
        have tac0 := has_cell ta 0 rfl; have tac1 := has_cell ta 1 rfl; have tac2 := has_cell ta 2 rfl; have tac3 := has_cell ta 3 rfl; have tac4 := has_cell ta 4 rfl; have tac5 := has_cell ta 5 rfl; have tac6 := has_cell ta 6 rfl; have tac7 := has_cell ta 7 rfl
        have talt := has_lt ta
        have WAH := Lib.hid wa; clear wa
        have TAH := Lib.hid ta; clear ta
        have ZB := Lib.hid zb; clear zb
        go_wp2_with fail
        clear wac0 wac1 walt tac0 tac1 tac2 tac3 tac4 tac5 tac6 tac7 talt
        have wa := WAH.out; clear WAH
        have ta := TAH.out; clear TAH
        have zb := ZB.out; clear ZB
        go_ret
        exact ⟨rfl, zb⟩
      | some y =>
        obtain ⟨y0, y1, y2, y3⟩ := next_some6 HFA.out hq; rw [HV.out] at y2 y3
        obtain ⟨v3, hv3⟩ : ∃ v, feeB o c t (1 + z) a y e = v := ⟨_, rfl⟩
        rw [hv3] at y2
        have H3 := Lib.hid hv3; have H4 := Lib.hid y3; have HQ := Lib.hid hq; clear hv3 y3 hq
        have ny : (y != y) = false := by simp
        have wac0 := has_cell wa 0 rfl; have wac1 := has_cell wa 1 rfl
        have walt := has_lt wa
        have tac0 := has_cell ta 0 rfl; have tac1 := has_cell ta 1 rfl; have tac2 := has_cell ta 2 rfl; have tac3 := has_cell ta 3 rfl; have tac4 := has_cell ta 4 rfl; have tac5 := has_cell ta 5 rfl; have tac6 := has_cell ta 6 rfl; have tac7 := has_cell ta 7 rfl
        have talt := has_lt ta
        have WAH := Lib.hid wa; clear wa
        have TAH := Lib.hid ta; clear ta
        have ZB := Lib.hid zb; clear zb
        go_wp2_with fail
        clear wac0 wac1 walt tac0 tac1 tac2 tac3 tac4 tac5 tac6 tac7 talt
        have wa := WAH.out; clear WAH
        have ta := TAH.out; clear TAH
        have zb := ZB.out; clear ZB
        refine (nextI_any _ w1.heap.size A1 A2 m m' o c t (1 + z) a (a + d) e hlo' hlc' (by omega) SL_wk.out SL_wkk.out).mono ?_
        rintro e w12 ⟨rfl, hb⟩
        rw [HQ.out]
        have kk := SL.later SL_wk.out (by omega) hb; clear SL_wk; have SL_wk := Lib.hid kk; clear kk
        have kk := SL.later SL_wkk.out (by omega) hb; clear SL_wkk; have SL_wkk := Lib.hid kk; clear kk
        have hsw12 := hb.size
        replace wa := has_call wa hb
        replace ta := has_call ta hb
        replace zb := bthen zb hb; clear hb
        unfold pairV
        have wac0 := has_cell wa 0 rfl; have wac1 := has_cell wa 1 rfl
        have walt := has_lt wa
        have tac0 := has_cell ta 0 rfl; have tac1 := has_cell ta 1 rfl; have tac2 := has_cell ta 2 rfl; have tac3 := has_cell ta 3 rfl; have tac4 := has_cell ta 4 rfl; have tac5 := has_cell ta 5 rfl; have tac6 := has_cell ta 6 rfl; have tac7 := has_cell ta 7 rfl
        have talt := has_lt ta
        have WAH := Lib.hid wa; clear wa
        have TAH := Lib.hid ta; clear ta
        have ZB := Lib.hid zb; clear zb
        go_wp2_with fail
        clear wac0 wac1 walt tac0 tac1 tac2 tac3 tac4 tac5 tac6 tac7 talt
        have wa := WAH.out; clear WAH
        have ta := TAH.out; clear TAH
        have zb := ZB.out; clear ZB
        refine (nextS_any _ w1.heap.size A1 A2 m m' o c t (1 + z) a (a + d) e hlo' hlc' (by omega) SL_wk.out SL_wkk.out).mono ?_
        rintro e w13 ⟨rfl, hb⟩
        rw [HQ.out]
        have kk := SL.later SL_wk.out (by omega) hb; clear SL_wk; have SL_wk := Lib.hid kk; clear kk
        have kk := SL.later SL_wkk.out (by omega) hb; clear SL_wkk; have SL_wkk := Lib.hid kk; clear kk
        have hsw13 := hb.size
        replace wa := has_call wa hb
        replace ta := has_call ta hb
        replace zb := bthen zb hb; clear hb
        unfold pairV
        have wac0 := has_cell wa 0 rfl; have wac1 := has_cell wa 1 rfl
        have walt := has_lt wa
        have tac0 := has_cell ta 0 rfl; have tac1 := has_cell ta 1 rfl; have tac2 := has_cell ta 2 rfl; have tac3 := has_cell ta 3 rfl; have tac4 := has_cell ta 4 rfl; have tac5 := has_cell ta 5 rfl; have tac6 := has_cell ta 6 rfl; have tac7 := has_cell ta 7 rfl
        have talt := has_lt ta
        have WAH := Lib.hid wa; clear wa
        have TAH := Lib.hid ta; clear ta
        have ZB := Lib.hid zb; clear zb
        go_wp2_with fail
        clear wac0 wac1 walt tac0 tac1 tac2 tac3 tac4 tac5 tac6 tac7 talt
        have wa := WAH.out; clear WAH
        have ta := TAH.out; clear TAH
        have zb := ZB.out; clear ZB
        refine (feeI_any _ w1.heap.size A1 A2 m m' o c t (1 + z) a y e hlo' hlc' (by omega) SL_wk.out SL_wkk.out).mono ?_
        rintro e w14 ⟨rfl, hb⟩
        rw [H3.out]
        have kk := SL.later SL_wk.out (by omega) hb; clear SL_wk; have SL_wk := Lib.hid kk; clear kk
        have kk := SL.later SL_wkk.out (by omega) hb; clear SL_wkk; have SL_wkk := Lib.hid kk; clear kk
        have hsw14 := hb.size
        replace wa := has_call wa hb
        replace ta := has_call ta hb
        replace zb := bthen zb hb; clear hb
        have wac0 := has_cell wa 0 rfl; have wac1 := has_cell wa 1 rfl
        have walt := has_lt wa
        have tac0 := has_cell ta 0 rfl; have tac1 := has_cell ta 1 rfl; have tac2 := has_cell ta 2 rfl; have tac3 := has_cell ta 3 rfl; have tac4 := has_cell ta 4 rfl; have tac5 := has_cell ta 5 rfl; have tac6 := has_cell ta 6 rfl; have tac7 := has_cell ta 7 rfl
        have talt := has_lt ta
        have WAH := Lib.hid wa; clear wa
        have TAH := Lib.hid ta; clear ta
        have ZB := Lib.hid zb; clear zb
        go_wp2_with fail
        clear wac0 wac1 walt tac0 tac1 tac2 tac3 tac4 tac5 tac6 tac7 talt
        have wa := WAH.out; clear WAH
        have ta := TAH.out; clear TAH
        have zb := ZB.out; clear ZB
        refine (feeI_any _ w1.heap.size A1 A2 m m' o c t (1 + z) a (y - 1) e hlo' hlc' (by omega) SL_wk.out SL_wkk.out).mono ?_
        rintro e w15 ⟨rfl, hb⟩
        rw [H4.out]
        have kk := SL.later SL_wk.out (by omega) hb; clear SL_wk; have SL_wk := Lib.hid kk; clear kk
        have kk := SL.later SL_wkk.out (by omega) hb; clear SL_wkk; have SL_wkk := Lib.hid kk; clear kk
        have hsw15 := hb.size
        replace wa := has_call wa hb
        replace ta := has_call ta hb
        replace zb := bthen zb hb; clear hb
        have wac0 := has_cell wa 0 rfl; have wac1 := has_cell wa 1 rfl
        have walt := has_lt wa
        have tac0 := has_cell ta 0 rfl; have tac1 := has_cell ta 1 rfl; have tac2 := has_cell ta 2 rfl; have tac3 := has_cell ta 3 rfl; have tac4 := has_cell ta 4 rfl; have tac5 := has_cell ta 5 rfl; have tac6 := has_cell ta 6 rfl; have tac7 := has_cell ta 7 rfl
        have talt := has_lt ta
        have WAH := Lib.hid wa; clear wa
        have TAH := Lib.hid ta; clear ta
        have ZB := Lib.hid zb; clear zb
        go_wp2_with fail
        clear wac0 wac1 walt tac0 tac1 tac2 tac3 tac4 tac5 tac6 tac7 talt
        have wa := WAH.out; clear WAH
        have ta := TAH.out; clear TAH
        have zb := ZB.out; clear ZB
        go_ret
        exact ⟨rfl, zb⟩
    · skip
      have d1 : decide (u < 20000) = true := decide_eq_true hc1
      have d2 : decide (0 < t.rate) = false := decide_eq_false hc2
      have wac0 := has_cell wa 0 rfl; have wac1 := has_cell wa 1 rfl
      have walt := has_lt wa
      have tac0 := has_cell ta 0 rfl; have tac1 := has_cell ta 1 rfl; have tac2 := has_cell ta 2 rfl; have tac3 := has_cell ta 3 rfl; have tac4 := has_cell ta 4 rfl; have tac5 := has_cell ta 5 rfl; have tac6 := has_cell ta 6 rfl; have tac7 := has_cell ta 7 rfl
      have talt := has_lt ta
      have WAH := Lib.hid wa; clear wa
      have TAH := Lib.hid ta; clear ta
      have ZB := Lib.hid zb; clear zb
      try go_wp2_with fail
      have S0 : (fun W : World => (W.cell? ⟨w1.heap.size, 0, none⟩ = some (.slice A1 o.length m) ∧ W.cell? ⟨w1.heap.size, 1, none⟩ = some (.slice A2 c.length m') ∧ W.cell? ⟨w3.heap.size, 0, none⟩ = some (.int .i64 t.keep) ∧ W.cell? ⟨w3.heap.size, 1, none⟩ = some (.int .i64 t.free) ∧ W.cell? ⟨w3.heap.size, 2, none⟩ = some (.int .i64 t.step) ∧ W.cell? ⟨w3.heap.size, 3, none⟩ = some (.int .i64 t.rate) ∧ W.cell? ⟨w3.heap.size, 4, none⟩ = some (.int .i64 t.cap) ∧ W.cell? ⟨w3.heap.size, 5, none⟩ = some (.int .i64 t.longer) ∧ W.cell? ⟨w3.heap.size, 6, none⟩ = some (.int .i64 t.price) ∧ W.cell? ⟨w3.heap.size, 7, none⟩ = some (.int .i64 t.most)) ∧ Below w10.heap.size w10 W) w10.drew := ⟨⟨wac0, wac1, tac0, tac1, tac2, tac3, tac4, tac5, tac6, tac7⟩, (Below.refl _ _).drew⟩
      have zc := ZB.out; have hzz := zc.size; have hlwa9 := walt; have hlta9 := talt
      clear wac0 wac1 walt tac0 tac1 tac2 tac3 tac4 tac5 tac6 tac7 talt
      refine wp_region_held_drew (S := (fun W : World => (W.cell? ⟨w1.heap.size, 0, none⟩ = some (.slice A1 o.length m) ∧ W.cell? ⟨w1.heap.size, 1, none⟩ = some (.slice A2 c.length m') ∧ W.cell? ⟨w3.heap.size, 0, none⟩ = some (.int .i64 t.keep) ∧ W.cell? ⟨w3.heap.size, 1, none⟩ = some (.int .i64 t.free) ∧ W.cell? ⟨w3.heap.size, 2, none⟩ = some (.int .i64 t.step) ∧ W.cell? ⟨w3.heap.size, 3, none⟩ = some (.int .i64 t.rate) ∧ W.cell? ⟨w3.heap.size, 4, none⟩ = some (.int .i64 t.cap) ∧ W.cell? ⟨w3.heap.size, 5, none⟩ = some (.int .i64 t.longer) ∧ W.cell? ⟨w3.heap.size, 6, none⟩ = some (.int .i64 t.price) ∧ W.cell? ⟨w3.heap.size, 7, none⟩ = some (.int .i64 t.most)) ∧ Below w10.heap.size w10 W)) (by kernel_rfl) S0 (fun _ => ?_)
      refine any_take (i := 0) (some 135) (.int .i64 u) rfl rfl (by kernel_rfl) (by kernel_rfl) (by kernel_rfl) (fun _ _ _ h => h) rfl (fun W hSw => ?_) (S0) ?_
      · (try dsimp only at hSw); go_simp <;> with_reducible rfl
      try simp only [Act.put, List.setIfInBounds_toArray, List.set_cons_zero, List.set_cons_succ]
      refine any_take (i := 1) (some 136) (.bool true) rfl rfl (by kernel_rfl) (by kernel_rfl) (by kernel_rfl) (fun _ _ _ h => h) rfl (fun W hSw => ?_) (S0) ?_
      · (try dsimp only at hSw); go_simp <;> with_reducible rfl
      try simp only [Act.put, List.setIfInBounds_toArray, List.set_cons_zero, List.set_cons_succ]
      refine any_take (i := 2) (some 137) (.bool true) rfl rfl (by kernel_rfl) (by kernel_rfl) (by kernel_rfl) (fun _ _ _ h => h) rfl (fun W hSw => ?_) (S0) ?_
      · (try dsimp only at hSw); go_simp <;> with_reducible rfl
      try simp only [Act.put, List.setIfInBounds_toArray, List.set_cons_zero, List.set_cons_succ]
      refine any_take (i := 3) (some 138) (.pointer (some ⟨w3.heap.size, 3, none⟩)) rfl rfl (by kernel_rfl) (by kernel_rfl) (by kernel_rfl) (fun _ _ _ h => h) rfl (fun W hSw => ?_) (S0) ?_
      · (try dsimp only at hSw); go_simp <;> with_reducible rfl
      try simp only [Act.put, List.setIfInBounds_toArray, List.set_cons_zero, List.set_cons_succ]
      refine any_take (i := 4) (some 139) (.int .i64 t.rate) rfl rfl (by kernel_rfl) (by kernel_rfl) (by kernel_rfl) (fun _ _ _ h => h) rfl (fun W hSw => ?_) (S0) ?_
      · (try dsimp only at hSw); go_simp <;> with_reducible rfl
      try simp only [Act.put, List.setIfInBounds_toArray, List.set_cons_zero, List.set_cons_succ]
      refine any_take (i := 5) (some 140) (.bool false) rfl rfl (by kernel_rfl) (by kernel_rfl) (by kernel_rfl) (fun _ _ _ h => h) rfl (fun W hSw => ?_) (S0) ?_
      · (try dsimp only at hSw); go_simp <;> with_reducible rfl
      try simp only [Act.put, List.setIfInBounds_toArray, List.set_cons_zero, List.set_cons_succ]
      refine any_take (i := 6) (some 141) (.bool false) rfl rfl (by kernel_rfl) (by kernel_rfl) (by kernel_rfl) (fun _ _ _ h => h) rfl (fun W hSw => ?_) (S0) ?_
      · (try dsimp only at hSw); go_simp <;> with_reducible rfl
      try simp only [Act.put, List.setIfInBounds_toArray, List.set_cons_zero, List.set_cons_succ]
      refine any_take (i := 7) (some 142) (.bool false) rfl rfl (by kernel_rfl) (by kernel_rfl) (by kernel_rfl) (fun _ _ _ h => h) rfl (fun W hSw => ?_) (S0) ?_
      · (try dsimp only at hSw); go_simp <;> with_reducible rfl
      try simp only [Act.put, List.setIfInBounds_toArray, List.set_cons_zero, List.set_cons_succ]
      refine any_skip (i := 8) (some 143) rfl rfl (by kernel_rfl) (by kernel_rfl) (by kernel_rfl) (fun _ _ _ h => h) rfl (S0) ?_
      try simp only [Act.put, List.setIfInBounds_toArray, List.set_cons_zero, List.set_cons_succ]
      refine any_skip (i := 9) (some 144) rfl rfl (by kernel_rfl) (by kernel_rfl) (by kernel_rfl) (fun _ _ _ h => h) rfl (S0) ?_
      try simp only [Act.put, List.setIfInBounds_toArray, List.set_cons_zero, List.set_cons_succ]
      refine any_skip (i := 10) (some 145) rfl rfl (by kernel_rfl) (by kernel_rfl) (by kernel_rfl) (fun _ _ _ h => h) rfl (S0) ?_
      try simp only [Act.put, List.setIfInBounds_toArray, List.set_cons_zero, List.set_cons_succ]
      refine any_take (i := 11) (some 146) (.bool false) rfl rfl (by kernel_rfl) (by kernel_rfl) (by kernel_rfl) (fun _ _ _ h => h) rfl (fun W hSw => ?_) (S0) ?_
      · (try dsimp only at hSw); go_simp <;> with_reducible rfl
      try simp only [Act.put, List.setIfInBounds_toArray, List.set_cons_zero, List.set_cons_succ]
      refine any_take (i := 12) (some 147) (.bool false) rfl rfl (by kernel_rfl) (by kernel_rfl) (by kernel_rfl) (fun _ _ _ h => h) rfl (fun W hSw => ?_) (S0) ?_
      · (try dsimp only at hSw); go_simp <;> with_reducible rfl
      try simp only [Act.put, List.setIfInBounds_toArray, List.set_cons_zero, List.set_cons_succ]
      refine any_skip (i := 13) (some 148) rfl rfl (by kernel_rfl) (by kernel_rfl) (by kernel_rfl) (fun _ _ _ h => h) rfl (S0) ?_
      try simp only [Act.put, List.setIfInBounds_toArray, List.set_cons_zero, List.set_cons_succ]
      refine any_skip (i := 14) (some 149) rfl rfl (by kernel_rfl) (by kernel_rfl) (by kernel_rfl) (fun _ _ _ h => h) rfl (S0) ?_
      try simp only [Act.put, List.setIfInBounds_toArray, List.set_cons_zero, List.set_cons_succ]
      refine any_skip (i := 15) (some 150) rfl rfl (by kernel_rfl) (by kernel_rfl) (by kernel_rfl) (fun _ _ _ h => h) rfl (S0) ?_
      try simp only [Act.put, List.setIfInBounds_toArray, List.set_cons_zero, List.set_cons_succ]
      refine any_skip (i := 16) (some 151) rfl rfl (by kernel_rfl) (by kernel_rfl) (by kernel_rfl) (fun _ _ _ h => h) rfl (S0) ?_
      try simp only [Act.put, List.setIfInBounds_toArray, List.set_cons_zero, List.set_cons_succ]
      refine any_skip (i := 17) (some 152) rfl rfl (by kernel_rfl) (by kernel_rfl) (by kernel_rfl) (fun _ _ _ h => h) rfl (S0) ?_
      try simp only [Act.put, List.setIfInBounds_toArray, List.set_cons_zero, List.set_cons_succ]
      refine any_skip (i := 18) (some 153) rfl rfl (by kernel_rfl) (by kernel_rfl) (by kernel_rfl) (fun _ _ _ h => h) rfl (S0) ?_
      try simp only [Act.put, List.setIfInBounds_toArray, List.set_cons_zero, List.set_cons_succ]
      refine any_skip (i := 19) (some 154) rfl rfl (by kernel_rfl) (by kernel_rfl) (by kernel_rfl) (fun _ _ _ h => h) rfl (S0) ?_
      try simp only [Act.put, List.setIfInBounds_toArray, List.set_cons_zero, List.set_cons_succ]
      refine any_skip (i := 21) (some 156) rfl rfl (by kernel_rfl) (by kernel_rfl) (by kernel_rfl) (fun _ _ _ h => h) rfl (S0) ?_
      try simp only [Act.put, List.setIfInBounds_toArray, List.set_cons_zero, List.set_cons_succ]
      refine any_skip (i := 22) (some 157) rfl rfl (by kernel_rfl) (by kernel_rfl) (by kernel_rfl) (fun _ _ _ h => h) rfl (S0) ?_
      try simp only [Act.put, List.setIfInBounds_toArray, List.set_cons_zero, List.set_cons_succ]
      refine any_skip (i := 23) (some 158) rfl rfl (by kernel_rfl) (by kernel_rfl) (by kernel_rfl) (fun _ _ _ h => h) rfl (S0) ?_
      try simp only [Act.put, List.setIfInBounds_toArray, List.set_cons_zero, List.set_cons_succ]
      refine any_skip (i := 24) (some 159) rfl rfl (by kernel_rfl) (by kernel_rfl) (by kernel_rfl) (fun _ _ _ h => h) rfl (S0) ?_
      try simp only [Act.put, List.setIfInBounds_toArray, List.set_cons_zero, List.set_cons_succ]
      refine any_skip (i := 20) (some 155) rfl rfl (by kernel_rfl) (by kernel_rfl) (by kernel_rfl) (fun _ _ _ h => h) rfl (S0) ?_
      try simp only [Act.put, List.setIfInBounds_toArray, List.set_cons_zero, List.set_cons_succ]
      refine any_skip (i := 25) (some 160) rfl rfl (by kernel_rfl) (by kernel_rfl) (by kernel_rfl) (fun _ _ _ h => h) rfl (S0) ?_
      try simp only [Act.put, List.setIfInBounds_toArray, List.set_cons_zero, List.set_cons_succ]
      refine any_take (i := 26) (some 161) (.bool false) rfl rfl (by kernel_rfl) (by kernel_rfl) (by kernel_rfl) (fun _ _ _ h => h) rfl (fun W hSw => ?_) (S0) ?_
      · (try dsimp only at hSw); go_simp <;> with_reducible rfl
      try simp only [Act.put, List.setIfInBounds_toArray, List.set_cons_zero, List.set_cons_succ]
      refine wpAnyH_done (by kernel_rfl) ?_ _
      have hb : Below w10.heap.size w10 w10.drew := S0.2
      clear S0 zc hzz hlwa9 hlta9
      have wa := WAH.out; clear WAH
      have ta := TAH.out; clear TAH
      have zb := ZB.out; clear ZB
      have kk := SL.later SL_wk.out (by omega) hb; clear SL_wk; have SL_wk := Lib.hid kk; clear kk
      have kk := SL.later SL_wkk.out (by omega) hb; clear SL_wkk; have SL_wkk := Lib.hid kk; clear kk
      have hsw10.drew := hb.size
      replace wa := has_call wa hb
      replace ta := has_call ta hb
      replace zb := bthen zb hb; clear hb
      obtain ⟨q, hq⟩ : ∃ q, nextB o c t (1 + z) a (a + d) e = q := ⟨_, rfl⟩
      cases q with
      | none =>
        have hn := next_none6 HFA.out hq; rw [HV.out] at hn
        have HN := Lib.hid hn; have HQ := Lib.hid hq; clear hn hq
        have wac0 := has_cell wa 0 rfl; have wac1 := has_cell wa 1 rfl
        have walt := has_lt wa
        have tac0 := has_cell ta 0 rfl; have tac1 := has_cell ta 1 rfl; have tac2 := has_cell ta 2 rfl; have tac3 := has_cell ta 3 rfl; have tac4 := has_cell ta 4 rfl; have tac5 := has_cell ta 5 rfl; have tac6 := has_cell ta 6 rfl; have tac7 := has_cell ta 7 rfl
        have talt := has_lt ta
        have WAH := Lib.hid wa; clear wa
        have TAH := Lib.hid ta; clear ta
        have ZB := Lib.hid zb; clear zb
        go_wp2_with fail
        clear wac0 wac1 walt tac0 tac1 tac2 tac3 tac4 tac5 tac6 tac7 talt
        have wa := WAH.out; clear WAH
        have ta := TAH.out; clear TAH
        have zb := ZB.out; clear ZB
        refine (nextI_any _ w1.heap.size A1 A2 m m' o c t (1 + z) a (a + d) e hlo' hlc' (by omega) SL_wk.out SL_wkk.out).mono ?_
        rintro e w12 ⟨rfl, hb⟩
        rw [HQ.out]
        have kk := SL.later SL_wk.out (by omega) hb; clear SL_wk; have SL_wk := Lib.hid kk; clear kk
        have kk := SL.later SL_wkk.out (by omega) hb; clear SL_wkk; have SL_wkk := Lib.hid kk; clear kk
        have hsw12 := hb.size
        replace wa := has_call wa hb
        replace ta := has_call ta hb
        replace zb := bthen zb hb; clear hb
        unfold pairV
        have wac0 := has_cell wa 0 rfl; have wac1 := has_cell wa 1 rfl
        have walt := has_lt wa
        have tac0 := has_cell ta 0 rfl; have tac1 := has_cell ta 1 rfl; have tac2 := has_cell ta 2 rfl; have tac3 := has_cell ta 3 rfl; have tac4 := has_cell ta 4 rfl; have tac5 := has_cell ta 5 rfl; have tac6 := has_cell ta 6 rfl; have tac7 := has_cell ta 7 rfl
        have talt := has_lt ta
        have WAH := Lib.hid wa; clear wa
        have TAH := Lib.hid ta; clear ta
        have ZB := Lib.hid zb; clear zb
        go_wp2_with fail
        clear wac0 wac1 walt tac0 tac1 tac2 tac3 tac4 tac5 tac6 tac7 talt
        have wa := WAH.out; clear WAH
        have ta := TAH.out; clear TAH
        have zb := ZB.out; clear ZB
        refine (nextS_any _ w1.heap.size A1 A2 m m' o c t (1 + z) a (a + d) e hlo' hlc' (by omega) SL_wk.out SL_wkk.out).mono ?_
        rintro e w13 ⟨rfl, hb⟩
        rw [HQ.out]
        have kk := SL.later SL_wk.out (by omega) hb; clear SL_wk; have SL_wk := Lib.hid kk; clear kk
        have kk := SL.later SL_wkk.out (by omega) hb; clear SL_wkk; have SL_wkk := Lib.hid kk; clear kk
        have hsw13 := hb.size
        replace wa := has_call wa hb
        replace ta := has_call ta hb
        replace zb := bthen zb hb; clear hb
        unfold pairV
        have wac0 := has_cell wa 0 rfl; have wac1 := has_cell wa 1 rfl
        have walt := has_lt wa
        have tac0 := has_cell ta 0 rfl; have tac1 := has_cell ta 1 rfl; have tac2 := has_cell ta 2 rfl; have tac3 := has_cell ta 3 rfl; have tac4 := has_cell ta 4 rfl; have tac5 := has_cell ta 5 rfl; have tac6 := has_cell ta 6 rfl; have tac7 := has_cell ta 7 rfl
        have talt := has_lt ta
        have WAH := Lib.hid wa; clear wa
        have TAH := Lib.hid ta; clear ta
        have ZB := Lib.hid zb; clear zb
        go_wp2_with fail
        clear wac0 wac1 walt tac0 tac1 tac2 tac3 tac4 tac5 tac6 tac7 talt
        have wa := WAH.out; clear WAH
        have ta := TAH.out; clear TAH
        have zb := ZB.out; clear ZB
        refine (feeI_any _ w1.heap.size A1 A2 m m' o c t (1 + z) a 20000 e hlo' hlc' (by omega) SL_wk.out SL_wkk.out).mono ?_
        rintro e w14 ⟨rfl, hb⟩
        rw [HN.out]
        have kk := SL.later SL_wk.out (by omega) hb; clear SL_wk; have SL_wk := Lib.hid kk; clear kk
        have kk := SL.later SL_wkk.out (by omega) hb; clear SL_wkk; have SL_wkk := Lib.hid kk; clear kk
        have hsw14 := hb.size
        replace wa := has_call wa hb
        replace ta := has_call ta hb
        replace zb := bthen zb hb; clear hb
        have wac0 := has_cell wa 0 rfl; have wac1 := has_cell wa 1 rfl
        have walt := has_lt wa
        have tac0 := has_cell ta 0 rfl; have tac1 := has_cell ta 1 rfl; have tac2 := has_cell ta 2 rfl; have tac3 := has_cell ta 3 rfl; have tac4 := has_cell ta 4 rfl; have tac5 := has_cell ta 5 rfl; have tac6 := has_cell ta 6 rfl; have tac7 := has_cell ta 7 rfl
        have talt := has_lt ta
        have WAH := Lib.hid wa; clear wa
        have TAH := Lib.hid ta; clear ta
        have ZB := Lib.hid zb; clear zb
        go_wp2_with fail
        clear wac0 wac1 walt tac0 tac1 tac2 tac3 tac4 tac5 tac6 tac7 talt
        have wa := WAH.out; clear WAH
        have ta := TAH.out; clear TAH
        have zb := ZB.out; clear ZB
        go_ret
        exact ⟨rfl, zb⟩
      | some y =>
        obtain ⟨y0, y1, y2, y3⟩ := next_some6 HFA.out hq; rw [HV.out] at y2 y3
        obtain ⟨v3, hv3⟩ : ∃ v, feeB o c t (1 + z) a y e = v := ⟨_, rfl⟩
        rw [hv3] at y2
        have H3 := Lib.hid hv3; have H4 := Lib.hid y3; have HQ := Lib.hid hq; clear hv3 y3 hq
        have ny : (y != y) = false := by simp
        have wac0 := has_cell wa 0 rfl; have wac1 := has_cell wa 1 rfl
        have walt := has_lt wa
        have tac0 := has_cell ta 0 rfl; have tac1 := has_cell ta 1 rfl; have tac2 := has_cell ta 2 rfl; have tac3 := has_cell ta 3 rfl; have tac4 := has_cell ta 4 rfl; have tac5 := has_cell ta 5 rfl; have tac6 := has_cell ta 6 rfl; have tac7 := has_cell ta 7 rfl
        have talt := has_lt ta
        have WAH := Lib.hid wa; clear wa
        have TAH := Lib.hid ta; clear ta
        have ZB := Lib.hid zb; clear zb
        go_wp2_with fail
        clear wac0 wac1 walt tac0 tac1 tac2 tac3 tac4 tac5 tac6 tac7 talt
        have wa := WAH.out; clear WAH
        have ta := TAH.out; clear TAH
        have zb := ZB.out; clear ZB
        refine (nextI_any _ w1.heap.size A1 A2 m m' o c t (1 + z) a (a + d) e hlo' hlc' (by omega) SL_wk.out SL_wkk.out).mono ?_
        rintro e w12 ⟨rfl, hb⟩
        rw [HQ.out]
        have kk := SL.later SL_wk.out (by omega) hb; clear SL_wk; have SL_wk := Lib.hid kk; clear kk
        have kk := SL.later SL_wkk.out (by omega) hb; clear SL_wkk; have SL_wkk := Lib.hid kk; clear kk
        have hsw12 := hb.size
        replace wa := has_call wa hb
        replace ta := has_call ta hb
        replace zb := bthen zb hb; clear hb
        unfold pairV
        have wac0 := has_cell wa 0 rfl; have wac1 := has_cell wa 1 rfl
        have walt := has_lt wa
        have tac0 := has_cell ta 0 rfl; have tac1 := has_cell ta 1 rfl; have tac2 := has_cell ta 2 rfl; have tac3 := has_cell ta 3 rfl; have tac4 := has_cell ta 4 rfl; have tac5 := has_cell ta 5 rfl; have tac6 := has_cell ta 6 rfl; have tac7 := has_cell ta 7 rfl
        have talt := has_lt ta
        have WAH := Lib.hid wa; clear wa
        have TAH := Lib.hid ta; clear ta
        have ZB := Lib.hid zb; clear zb
        go_wp2_with fail
        clear wac0 wac1 walt tac0 tac1 tac2 tac3 tac4 tac5 tac6 tac7 talt
        have wa := WAH.out; clear WAH
        have ta := TAH.out; clear TAH
        have zb := ZB.out; clear ZB
        refine (nextS_any _ w1.heap.size A1 A2 m m' o c t (1 + z) a (a + d) e hlo' hlc' (by omega) SL_wk.out SL_wkk.out).mono ?_
        rintro e w13 ⟨rfl, hb⟩
        rw [HQ.out]
        have kk := SL.later SL_wk.out (by omega) hb; clear SL_wk; have SL_wk := Lib.hid kk; clear kk
        have kk := SL.later SL_wkk.out (by omega) hb; clear SL_wkk; have SL_wkk := Lib.hid kk; clear kk
        have hsw13 := hb.size
        replace wa := has_call wa hb
        replace ta := has_call ta hb
        replace zb := bthen zb hb; clear hb
        unfold pairV
        have wac0 := has_cell wa 0 rfl; have wac1 := has_cell wa 1 rfl
        have walt := has_lt wa
        have tac0 := has_cell ta 0 rfl; have tac1 := has_cell ta 1 rfl; have tac2 := has_cell ta 2 rfl; have tac3 := has_cell ta 3 rfl; have tac4 := has_cell ta 4 rfl; have tac5 := has_cell ta 5 rfl; have tac6 := has_cell ta 6 rfl; have tac7 := has_cell ta 7 rfl
        have talt := has_lt ta
        have WAH := Lib.hid wa; clear wa
        have TAH := Lib.hid ta; clear ta
        have ZB := Lib.hid zb; clear zb
        go_wp2_with fail
        clear wac0 wac1 walt tac0 tac1 tac2 tac3 tac4 tac5 tac6 tac7 talt
        have wa := WAH.out; clear WAH
        have ta := TAH.out; clear TAH
        have zb := ZB.out; clear ZB
        refine (feeI_any _ w1.heap.size A1 A2 m m' o c t (1 + z) a y e hlo' hlc' (by omega) SL_wk.out SL_wkk.out).mono ?_
        rintro e w14 ⟨rfl, hb⟩
        rw [H3.out]
        have kk := SL.later SL_wk.out (by omega) hb; clear SL_wk; have SL_wk := Lib.hid kk; clear kk
        have kk := SL.later SL_wkk.out (by omega) hb; clear SL_wkk; have SL_wkk := Lib.hid kk; clear kk
        have hsw14 := hb.size
        replace wa := has_call wa hb
        replace ta := has_call ta hb
        replace zb := bthen zb hb; clear hb
        have wac0 := has_cell wa 0 rfl; have wac1 := has_cell wa 1 rfl
        have walt := has_lt wa
        have tac0 := has_cell ta 0 rfl; have tac1 := has_cell ta 1 rfl; have tac2 := has_cell ta 2 rfl; have tac3 := has_cell ta 3 rfl; have tac4 := has_cell ta 4 rfl; have tac5 := has_cell ta 5 rfl; have tac6 := has_cell ta 6 rfl; have tac7 := has_cell ta 7 rfl
        have talt := has_lt ta
        have WAH := Lib.hid wa; clear wa
        have TAH := Lib.hid ta; clear ta
        have ZB := Lib.hid zb; clear zb
        go_wp2_with fail
        clear wac0 wac1 walt tac0 tac1 tac2 tac3 tac4 tac5 tac6 tac7 talt
        have wa := WAH.out; clear WAH
        have ta := TAH.out; clear TAH
        have zb := ZB.out; clear ZB
        refine (feeI_any _ w1.heap.size A1 A2 m m' o c t (1 + z) a (y - 1) e hlo' hlc' (by omega) SL_wk.out SL_wkk.out).mono ?_
        rintro e w15 ⟨rfl, hb⟩
        rw [H4.out]
        have kk := SL.later SL_wk.out (by omega) hb; clear SL_wk; have SL_wk := Lib.hid kk; clear kk
        have kk := SL.later SL_wkk.out (by omega) hb; clear SL_wkk; have SL_wkk := Lib.hid kk; clear kk
        have hsw15 := hb.size
        replace wa := has_call wa hb
        replace ta := has_call ta hb
        replace zb := bthen zb hb; clear hb
        have wac0 := has_cell wa 0 rfl; have wac1 := has_cell wa 1 rfl
        have walt := has_lt wa
        have tac0 := has_cell ta 0 rfl; have tac1 := has_cell ta 1 rfl; have tac2 := has_cell ta 2 rfl; have tac3 := has_cell ta 3 rfl; have tac4 := has_cell ta 4 rfl; have tac5 := has_cell ta 5 rfl; have tac6 := has_cell ta 6 rfl; have tac7 := has_cell ta 7 rfl
        have talt := has_lt ta
        have WAH := Lib.hid wa; clear wa
        have TAH := Lib.hid ta; clear ta
        have ZB := Lib.hid zb; clear zb
        go_wp2_with fail
        clear wac0 wac1 walt tac0 tac1 tac2 tac3 tac4 tac5 tac6 tac7 talt
        have wa := WAH.out; clear WAH
        have ta := TAH.out; clear TAH
        have zb := ZB.out; clear ZB
        go_ret
        exact ⟨rfl, zb⟩
    · skip
      have d1 : decide (u < 20000) = true := decide_eq_true hc1
      have d2 : decide (0 < t.rate) = true := decide_eq_true hc2
      have d3 : decide (0 < t.cap) = false := decide_eq_false hc3
      have wac0 := has_cell wa 0 rfl; have wac1 := has_cell wa 1 rfl
      have walt := has_lt wa
      have tac0 := has_cell ta 0 rfl; have tac1 := has_cell ta 1 rfl; have tac2 := has_cell ta 2 rfl; have tac3 := has_cell ta 3 rfl; have tac4 := has_cell ta 4 rfl; have tac5 := has_cell ta 5 rfl; have tac6 := has_cell ta 6 rfl; have tac7 := has_cell ta 7 rfl
      have talt := has_lt ta
      have WAH := Lib.hid wa; clear wa
      have TAH := Lib.hid ta; clear ta
      have ZB := Lib.hid zb; clear zb
      try go_wp2_with fail
      have S0 : (fun W : World => (W.cell? ⟨w1.heap.size, 0, none⟩ = some (.slice A1 o.length m) ∧ W.cell? ⟨w1.heap.size, 1, none⟩ = some (.slice A2 c.length m') ∧ W.cell? ⟨w3.heap.size, 0, none⟩ = some (.int .i64 t.keep) ∧ W.cell? ⟨w3.heap.size, 1, none⟩ = some (.int .i64 t.free) ∧ W.cell? ⟨w3.heap.size, 2, none⟩ = some (.int .i64 t.step) ∧ W.cell? ⟨w3.heap.size, 3, none⟩ = some (.int .i64 t.rate) ∧ W.cell? ⟨w3.heap.size, 4, none⟩ = some (.int .i64 t.cap) ∧ W.cell? ⟨w3.heap.size, 5, none⟩ = some (.int .i64 t.longer) ∧ W.cell? ⟨w3.heap.size, 6, none⟩ = some (.int .i64 t.price) ∧ W.cell? ⟨w3.heap.size, 7, none⟩ = some (.int .i64 t.most)) ∧ Below w10.heap.size w10 W) w10.drew := ⟨⟨wac0, wac1, tac0, tac1, tac2, tac3, tac4, tac5, tac6, tac7⟩, (Below.refl _ _).drew⟩
      have zc := ZB.out; have hzz := zc.size; have hlwa9 := walt; have hlta9 := talt
      clear wac0 wac1 walt tac0 tac1 tac2 tac3 tac4 tac5 tac6 tac7 talt
      refine wp_region_held_drew (S := (fun W : World => (W.cell? ⟨w1.heap.size, 0, none⟩ = some (.slice A1 o.length m) ∧ W.cell? ⟨w1.heap.size, 1, none⟩ = some (.slice A2 c.length m') ∧ W.cell? ⟨w3.heap.size, 0, none⟩ = some (.int .i64 t.keep) ∧ W.cell? ⟨w3.heap.size, 1, none⟩ = some (.int .i64 t.free) ∧ W.cell? ⟨w3.heap.size, 2, none⟩ = some (.int .i64 t.step) ∧ W.cell? ⟨w3.heap.size, 3, none⟩ = some (.int .i64 t.rate) ∧ W.cell? ⟨w3.heap.size, 4, none⟩ = some (.int .i64 t.cap) ∧ W.cell? ⟨w3.heap.size, 5, none⟩ = some (.int .i64 t.longer) ∧ W.cell? ⟨w3.heap.size, 6, none⟩ = some (.int .i64 t.price) ∧ W.cell? ⟨w3.heap.size, 7, none⟩ = some (.int .i64 t.most)) ∧ Below w10.heap.size w10 W)) (by kernel_rfl) S0 (fun _ => ?_)
      refine any_take (i := 0) (some 135) (.int .i64 u) rfl rfl (by kernel_rfl) (by kernel_rfl) (by kernel_rfl) (fun _ _ _ h => h) rfl (fun W hSw => ?_) (S0) ?_
      · (try dsimp only at hSw); go_simp <;> with_reducible rfl
      try simp only [Act.put, List.setIfInBounds_toArray, List.set_cons_zero, List.set_cons_succ]
      refine any_take (i := 1) (some 136) (.bool true) rfl rfl (by kernel_rfl) (by kernel_rfl) (by kernel_rfl) (fun _ _ _ h => h) rfl (fun W hSw => ?_) (S0) ?_
      · (try dsimp only at hSw); go_simp <;> with_reducible rfl
      try simp only [Act.put, List.setIfInBounds_toArray, List.set_cons_zero, List.set_cons_succ]
      refine any_take (i := 2) (some 137) (.bool true) rfl rfl (by kernel_rfl) (by kernel_rfl) (by kernel_rfl) (fun _ _ _ h => h) rfl (fun W hSw => ?_) (S0) ?_
      · (try dsimp only at hSw); go_simp <;> with_reducible rfl
      try simp only [Act.put, List.setIfInBounds_toArray, List.set_cons_zero, List.set_cons_succ]
      refine any_take (i := 3) (some 138) (.pointer (some ⟨w3.heap.size, 3, none⟩)) rfl rfl (by kernel_rfl) (by kernel_rfl) (by kernel_rfl) (fun _ _ _ h => h) rfl (fun W hSw => ?_) (S0) ?_
      · (try dsimp only at hSw); go_simp <;> with_reducible rfl
      try simp only [Act.put, List.setIfInBounds_toArray, List.set_cons_zero, List.set_cons_succ]
      refine any_take (i := 4) (some 139) (.int .i64 t.rate) rfl rfl (by kernel_rfl) (by kernel_rfl) (by kernel_rfl) (fun _ _ _ h => h) rfl (fun W hSw => ?_) (S0) ?_
      · (try dsimp only at hSw); go_simp <;> with_reducible rfl
      try simp only [Act.put, List.setIfInBounds_toArray, List.set_cons_zero, List.set_cons_succ]
      refine any_take (i := 5) (some 140) (.bool true) rfl rfl (by kernel_rfl) (by kernel_rfl) (by kernel_rfl) (fun _ _ _ h => h) rfl (fun W hSw => ?_) (S0) ?_
      · (try dsimp only at hSw); go_simp <;> with_reducible rfl
      try simp only [Act.put, List.setIfInBounds_toArray, List.set_cons_zero, List.set_cons_succ]
      refine any_take (i := 6) (some 141) (.bool true) rfl rfl (by kernel_rfl) (by kernel_rfl) (by kernel_rfl) (fun _ _ _ h => h) rfl (fun W hSw => ?_) (S0) ?_
      · (try dsimp only at hSw); go_simp <;> with_reducible rfl
      try simp only [Act.put, List.setIfInBounds_toArray, List.set_cons_zero, List.set_cons_succ]
      refine any_take (i := 7) (some 142) (.bool true) rfl rfl (by kernel_rfl) (by kernel_rfl) (by kernel_rfl) (fun _ _ _ h => h) rfl (fun W hSw => ?_) (S0) ?_
      · (try dsimp only at hSw); go_simp <;> with_reducible rfl
      try simp only [Act.put, List.setIfInBounds_toArray, List.set_cons_zero, List.set_cons_succ]
      refine any_take (i := 8) (some 143) (.pointer (some ⟨w3.heap.size, 4, none⟩)) rfl rfl (by kernel_rfl) (by kernel_rfl) (by kernel_rfl) (fun _ _ _ h => h) rfl (fun W hSw => ?_) (S0) ?_
      · (try dsimp only at hSw); go_simp <;> with_reducible rfl
      try simp only [Act.put, List.setIfInBounds_toArray, List.set_cons_zero, List.set_cons_succ]
      refine any_take (i := 9) (some 144) (.int .i64 t.cap) rfl rfl (by kernel_rfl) (by kernel_rfl) (by kernel_rfl) (fun _ _ _ h => h) rfl (fun W hSw => ?_) (S0) ?_
      · (try dsimp only at hSw); go_simp <;> with_reducible rfl
      try simp only [Act.put, List.setIfInBounds_toArray, List.set_cons_zero, List.set_cons_succ]
      refine any_take (i := 10) (some 145) (.bool false) rfl rfl (by kernel_rfl) (by kernel_rfl) (by kernel_rfl) (fun _ _ _ h => h) rfl (fun W hSw => ?_) (S0) ?_
      · (try dsimp only at hSw); go_simp <;> with_reducible rfl
      try simp only [Act.put, List.setIfInBounds_toArray, List.set_cons_zero, List.set_cons_succ]
      refine any_take (i := 11) (some 146) (.bool false) rfl rfl (by kernel_rfl) (by kernel_rfl) (by kernel_rfl) (fun _ _ _ h => h) rfl (fun W hSw => ?_) (S0) ?_
      · (try dsimp only at hSw); go_simp <;> with_reducible rfl
      try simp only [Act.put, List.setIfInBounds_toArray, List.set_cons_zero, List.set_cons_succ]
      refine any_take (i := 12) (some 147) (.bool false) rfl rfl (by kernel_rfl) (by kernel_rfl) (by kernel_rfl) (fun _ _ _ h => h) rfl (fun W hSw => ?_) (S0) ?_
      · (try dsimp only at hSw); go_simp <;> with_reducible rfl
      try simp only [Act.put, List.setIfInBounds_toArray, List.set_cons_zero, List.set_cons_succ]
      refine any_skip (i := 13) (some 148) rfl rfl (by kernel_rfl) (by kernel_rfl) (by kernel_rfl) (fun _ _ _ h => h) rfl (S0) ?_
      try simp only [Act.put, List.setIfInBounds_toArray, List.set_cons_zero, List.set_cons_succ]
      refine any_skip (i := 14) (some 149) rfl rfl (by kernel_rfl) (by kernel_rfl) (by kernel_rfl) (fun _ _ _ h => h) rfl (S0) ?_
      try simp only [Act.put, List.setIfInBounds_toArray, List.set_cons_zero, List.set_cons_succ]
      refine any_skip (i := 15) (some 150) rfl rfl (by kernel_rfl) (by kernel_rfl) (by kernel_rfl) (fun _ _ _ h => h) rfl (S0) ?_
      try simp only [Act.put, List.setIfInBounds_toArray, List.set_cons_zero, List.set_cons_succ]
      refine any_skip (i := 16) (some 151) rfl rfl (by kernel_rfl) (by kernel_rfl) (by kernel_rfl) (fun _ _ _ h => h) rfl (S0) ?_
      try simp only [Act.put, List.setIfInBounds_toArray, List.set_cons_zero, List.set_cons_succ]
      refine any_skip (i := 17) (some 152) rfl rfl (by kernel_rfl) (by kernel_rfl) (by kernel_rfl) (fun _ _ _ h => h) rfl (S0) ?_
      try simp only [Act.put, List.setIfInBounds_toArray, List.set_cons_zero, List.set_cons_succ]
      refine any_skip (i := 18) (some 153) rfl rfl (by kernel_rfl) (by kernel_rfl) (by kernel_rfl) (fun _ _ _ h => h) rfl (S0) ?_
      try simp only [Act.put, List.setIfInBounds_toArray, List.set_cons_zero, List.set_cons_succ]
      refine any_skip (i := 19) (some 154) rfl rfl (by kernel_rfl) (by kernel_rfl) (by kernel_rfl) (fun _ _ _ h => h) rfl (S0) ?_
      try simp only [Act.put, List.setIfInBounds_toArray, List.set_cons_zero, List.set_cons_succ]
      refine any_skip (i := 21) (some 156) rfl rfl (by kernel_rfl) (by kernel_rfl) (by kernel_rfl) (fun _ _ _ h => h) rfl (S0) ?_
      try simp only [Act.put, List.setIfInBounds_toArray, List.set_cons_zero, List.set_cons_succ]
      refine any_skip (i := 22) (some 157) rfl rfl (by kernel_rfl) (by kernel_rfl) (by kernel_rfl) (fun _ _ _ h => h) rfl (S0) ?_
      try simp only [Act.put, List.setIfInBounds_toArray, List.set_cons_zero, List.set_cons_succ]
      refine any_skip (i := 23) (some 158) rfl rfl (by kernel_rfl) (by kernel_rfl) (by kernel_rfl) (fun _ _ _ h => h) rfl (S0) ?_
      try simp only [Act.put, List.setIfInBounds_toArray, List.set_cons_zero, List.set_cons_succ]
      refine any_skip (i := 24) (some 159) rfl rfl (by kernel_rfl) (by kernel_rfl) (by kernel_rfl) (fun _ _ _ h => h) rfl (S0) ?_
      try simp only [Act.put, List.setIfInBounds_toArray, List.set_cons_zero, List.set_cons_succ]
      refine any_skip (i := 20) (some 155) rfl rfl (by kernel_rfl) (by kernel_rfl) (by kernel_rfl) (fun _ _ _ h => h) rfl (S0) ?_
      try simp only [Act.put, List.setIfInBounds_toArray, List.set_cons_zero, List.set_cons_succ]
      refine any_skip (i := 25) (some 160) rfl rfl (by kernel_rfl) (by kernel_rfl) (by kernel_rfl) (fun _ _ _ h => h) rfl (S0) ?_
      try simp only [Act.put, List.setIfInBounds_toArray, List.set_cons_zero, List.set_cons_succ]
      refine any_take (i := 26) (some 161) (.bool false) rfl rfl (by kernel_rfl) (by kernel_rfl) (by kernel_rfl) (fun _ _ _ h => h) rfl (fun W hSw => ?_) (S0) ?_
      · (try dsimp only at hSw); go_simp <;> with_reducible rfl
      try simp only [Act.put, List.setIfInBounds_toArray, List.set_cons_zero, List.set_cons_succ]
      refine wpAnyH_done (by kernel_rfl) ?_ _
      have hb : Below w10.heap.size w10 w10.drew := S0.2
      clear S0 zc hzz hlwa9 hlta9
      have wa := WAH.out; clear WAH
      have ta := TAH.out; clear TAH
      have zb := ZB.out; clear ZB
      have kk := SL.later SL_wk.out (by omega) hb; clear SL_wk; have SL_wk := Lib.hid kk; clear kk
      have kk := SL.later SL_wkk.out (by omega) hb; clear SL_wkk; have SL_wkk := Lib.hid kk; clear kk
      have hsw10.drew := hb.size
      replace wa := has_call wa hb
      replace ta := has_call ta hb
      replace zb := bthen zb hb; clear hb
      obtain ⟨q, hq⟩ : ∃ q, nextB o c t (1 + z) a (a + d) e = q := ⟨_, rfl⟩
      cases q with
      | none =>
        have hn := next_none6 HFA.out hq; rw [HV.out] at hn
        have HN := Lib.hid hn; have HQ := Lib.hid hq; clear hn hq
        have wac0 := has_cell wa 0 rfl; have wac1 := has_cell wa 1 rfl
        have walt := has_lt wa
        have tac0 := has_cell ta 0 rfl; have tac1 := has_cell ta 1 rfl; have tac2 := has_cell ta 2 rfl; have tac3 := has_cell ta 3 rfl; have tac4 := has_cell ta 4 rfl; have tac5 := has_cell ta 5 rfl; have tac6 := has_cell ta 6 rfl; have tac7 := has_cell ta 7 rfl
        have talt := has_lt ta
        have WAH := Lib.hid wa; clear wa
        have TAH := Lib.hid ta; clear ta
        have ZB := Lib.hid zb; clear zb
        go_wp2_with fail
        clear wac0 wac1 walt tac0 tac1 tac2 tac3 tac4 tac5 tac6 tac7 talt
        have wa := WAH.out; clear WAH
        have ta := TAH.out; clear TAH
        have zb := ZB.out; clear ZB
        refine (nextI_any _ w1.heap.size A1 A2 m m' o c t (1 + z) a (a + d) e hlo' hlc' (by omega) SL_wk.out SL_wkk.out).mono ?_
        rintro e w12 ⟨rfl, hb⟩
        rw [HQ.out]
        have kk := SL.later SL_wk.out (by omega) hb; clear SL_wk; have SL_wk := Lib.hid kk; clear kk
        have kk := SL.later SL_wkk.out (by omega) hb; clear SL_wkk; have SL_wkk := Lib.hid kk; clear kk
        have hsw12 := hb.size
        replace wa := has_call wa hb
        replace ta := has_call ta hb
        replace zb := bthen zb hb; clear hb
        unfold pairV
        have wac0 := has_cell wa 0 rfl; have wac1 := has_cell wa 1 rfl
        have walt := has_lt wa
        have tac0 := has_cell ta 0 rfl; have tac1 := has_cell ta 1 rfl; have tac2 := has_cell ta 2 rfl; have tac3 := has_cell ta 3 rfl; have tac4 := has_cell ta 4 rfl; have tac5 := has_cell ta 5 rfl; have tac6 := has_cell ta 6 rfl; have tac7 := has_cell ta 7 rfl
        have talt := has_lt ta
        have WAH := Lib.hid wa; clear wa
        have TAH := Lib.hid ta; clear ta
        have ZB := Lib.hid zb; clear zb
        go_wp2_with fail
        clear wac0 wac1 walt tac0 tac1 tac2 tac3 tac4 tac5 tac6 tac7 talt
        have wa := WAH.out; clear WAH
        have ta := TAH.out; clear TAH
        have zb := ZB.out; clear ZB
        refine (nextS_any _ w1.heap.size A1 A2 m m' o c t (1 + z) a (a + d) e hlo' hlc' (by omega) SL_wk.out SL_wkk.out).mono ?_
        rintro e w13 ⟨rfl, hb⟩
        rw [HQ.out]
        have kk := SL.later SL_wk.out (by omega) hb; clear SL_wk; have SL_wk := Lib.hid kk; clear kk
        have kk := SL.later SL_wkk.out (by omega) hb; clear SL_wkk; have SL_wkk := Lib.hid kk; clear kk
        have hsw13 := hb.size
        replace wa := has_call wa hb
        replace ta := has_call ta hb
        replace zb := bthen zb hb; clear hb
        unfold pairV
        have wac0 := has_cell wa 0 rfl; have wac1 := has_cell wa 1 rfl
        have walt := has_lt wa
        have tac0 := has_cell ta 0 rfl; have tac1 := has_cell ta 1 rfl; have tac2 := has_cell ta 2 rfl; have tac3 := has_cell ta 3 rfl; have tac4 := has_cell ta 4 rfl; have tac5 := has_cell ta 5 rfl; have tac6 := has_cell ta 6 rfl; have tac7 := has_cell ta 7 rfl
        have talt := has_lt ta
        have WAH := Lib.hid wa; clear wa
        have TAH := Lib.hid ta; clear ta
        have ZB := Lib.hid zb; clear zb
        go_wp2_with fail
        clear wac0 wac1 walt tac0 tac1 tac2 tac3 tac4 tac5 tac6 tac7 talt
        have wa := WAH.out; clear WAH
        have ta := TAH.out; clear TAH
        have zb := ZB.out; clear ZB
        refine (feeI_any _ w1.heap.size A1 A2 m m' o c t (1 + z) a 20000 e hlo' hlc' (by omega) SL_wk.out SL_wkk.out).mono ?_
        rintro e w14 ⟨rfl, hb⟩
        rw [HN.out]
        have kk := SL.later SL_wk.out (by omega) hb; clear SL_wk; have SL_wk := Lib.hid kk; clear kk
        have kk := SL.later SL_wkk.out (by omega) hb; clear SL_wkk; have SL_wkk := Lib.hid kk; clear kk
        have hsw14 := hb.size
        replace wa := has_call wa hb
        replace ta := has_call ta hb
        replace zb := bthen zb hb; clear hb
        have wac0 := has_cell wa 0 rfl; have wac1 := has_cell wa 1 rfl
        have walt := has_lt wa
        have tac0 := has_cell ta 0 rfl; have tac1 := has_cell ta 1 rfl; have tac2 := has_cell ta 2 rfl; have tac3 := has_cell ta 3 rfl; have tac4 := has_cell ta 4 rfl; have tac5 := has_cell ta 5 rfl; have tac6 := has_cell ta 6 rfl; have tac7 := has_cell ta 7 rfl
        have talt := has_lt ta
        have WAH := Lib.hid wa; clear wa
        have TAH := Lib.hid ta; clear ta
        have ZB := Lib.hid zb; clear zb
        go_wp2_with fail
        clear wac0 wac1 walt tac0 tac1 tac2 tac3 tac4 tac5 tac6 tac7 talt
        have wa := WAH.out; clear WAH
        have ta := TAH.out; clear TAH
        have zb := ZB.out; clear ZB
        go_ret
        exact ⟨rfl, zb⟩
      | some y =>
        obtain ⟨y0, y1, y2, y3⟩ := next_some6 HFA.out hq; rw [HV.out] at y2 y3
        obtain ⟨v3, hv3⟩ : ∃ v, feeB o c t (1 + z) a y e = v := ⟨_, rfl⟩
        rw [hv3] at y2
        have H3 := Lib.hid hv3; have H4 := Lib.hid y3; have HQ := Lib.hid hq; clear hv3 y3 hq
        have ny : (y != y) = false := by simp
        have wac0 := has_cell wa 0 rfl; have wac1 := has_cell wa 1 rfl
        have walt := has_lt wa
        have tac0 := has_cell ta 0 rfl; have tac1 := has_cell ta 1 rfl; have tac2 := has_cell ta 2 rfl; have tac3 := has_cell ta 3 rfl; have tac4 := has_cell ta 4 rfl; have tac5 := has_cell ta 5 rfl; have tac6 := has_cell ta 6 rfl; have tac7 := has_cell ta 7 rfl
        have talt := has_lt ta
        have WAH := Lib.hid wa; clear wa
        have TAH := Lib.hid ta; clear ta
        have ZB := Lib.hid zb; clear zb
        go_wp2_with fail
        clear wac0 wac1 walt tac0 tac1 tac2 tac3 tac4 tac5 tac6 tac7 talt
        have wa := WAH.out; clear WAH
        have ta := TAH.out; clear TAH
        have zb := ZB.out; clear ZB
        refine (nextI_any _ w1.heap.size A1 A2 m m' o c t (1 + z) a (a + d) e hlo' hlc' (by omega) SL_wk.out SL_wkk.out).mono ?_
        rintro e w12 ⟨rfl, hb⟩
        rw [HQ.out]
        have kk := SL.later SL_wk.out (by omega) hb; clear SL_wk; have SL_wk := Lib.hid kk; clear kk
        have kk := SL.later SL_wkk.out (by omega) hb; clear SL_wkk; have SL_wkk := Lib.hid kk; clear kk
        have hsw12 := hb.size
        replace wa := has_call wa hb
        replace ta := has_call ta hb
        replace zb := bthen zb hb; clear hb
        unfold pairV
        have wac0 := has_cell wa 0 rfl; have wac1 := has_cell wa 1 rfl
        have walt := has_lt wa
        have tac0 := has_cell ta 0 rfl; have tac1 := has_cell ta 1 rfl; have tac2 := has_cell ta 2 rfl; have tac3 := has_cell ta 3 rfl; have tac4 := has_cell ta 4 rfl; have tac5 := has_cell ta 5 rfl; have tac6 := has_cell ta 6 rfl; have tac7 := has_cell ta 7 rfl
        have talt := has_lt ta
        have WAH := Lib.hid wa; clear wa
        have TAH := Lib.hid ta; clear ta
        have ZB := Lib.hid zb; clear zb
        go_wp2_with fail
        clear wac0 wac1 walt tac0 tac1 tac2 tac3 tac4 tac5 tac6 tac7 talt
        have wa := WAH.out; clear WAH
        have ta := TAH.out; clear TAH
        have zb := ZB.out; clear ZB
        refine (nextS_any _ w1.heap.size A1 A2 m m' o c t (1 + z) a (a + d) e hlo' hlc' (by omega) SL_wk.out SL_wkk.out).mono ?_
        rintro e w13 ⟨rfl, hb⟩
        rw [HQ.out]
        have kk := SL.later SL_wk.out (by omega) hb; clear SL_wk; have SL_wk := Lib.hid kk; clear kk
        have kk := SL.later SL_wkk.out (by omega) hb; clear SL_wkk; have SL_wkk := Lib.hid kk; clear kk
        have hsw13 := hb.size
        replace wa := has_call wa hb
        replace ta := has_call ta hb
        replace zb := bthen zb hb; clear hb
        unfold pairV
        have wac0 := has_cell wa 0 rfl; have wac1 := has_cell wa 1 rfl
        have walt := has_lt wa
        have tac0 := has_cell ta 0 rfl; have tac1 := has_cell ta 1 rfl; have tac2 := has_cell ta 2 rfl; have tac3 := has_cell ta 3 rfl; have tac4 := has_cell ta 4 rfl; have tac5 := has_cell ta 5 rfl; have tac6 := has_cell ta 6 rfl; have tac7 := has_cell ta 7 rfl
        have talt := has_lt ta
        have WAH := Lib.hid wa; clear wa
        have TAH := Lib.hid ta; clear ta
        have ZB := Lib.hid zb; clear zb
        go_wp2_with fail
        clear wac0 wac1 walt tac0 tac1 tac2 tac3 tac4 tac5 tac6 tac7 talt
        have wa := WAH.out; clear WAH
        have ta := TAH.out; clear TAH
        have zb := ZB.out; clear ZB
        refine (feeI_any _ w1.heap.size A1 A2 m m' o c t (1 + z) a y e hlo' hlc' (by omega) SL_wk.out SL_wkk.out).mono ?_
        rintro e w14 ⟨rfl, hb⟩
        rw [H3.out]
        have kk := SL.later SL_wk.out (by omega) hb; clear SL_wk; have SL_wk := Lib.hid kk; clear kk
        have kk := SL.later SL_wkk.out (by omega) hb; clear SL_wkk; have SL_wkk := Lib.hid kk; clear kk
        have hsw14 := hb.size
        replace wa := has_call wa hb
        replace ta := has_call ta hb
        replace zb := bthen zb hb; clear hb
        have wac0 := has_cell wa 0 rfl; have wac1 := has_cell wa 1 rfl
        have walt := has_lt wa
        have tac0 := has_cell ta 0 rfl; have tac1 := has_cell ta 1 rfl; have tac2 := has_cell ta 2 rfl; have tac3 := has_cell ta 3 rfl; have tac4 := has_cell ta 4 rfl; have tac5 := has_cell ta 5 rfl; have tac6 := has_cell ta 6 rfl; have tac7 := has_cell ta 7 rfl
        have talt := has_lt ta
        have WAH := Lib.hid wa; clear wa
        have TAH := Lib.hid ta; clear ta
        have ZB := Lib.hid zb; clear zb
        go_wp2_with fail
        clear wac0 wac1 walt tac0 tac1 tac2 tac3 tac4 tac5 tac6 tac7 talt
        have wa := WAH.out; clear WAH
        have ta := TAH.out; clear TAH
        have zb := ZB.out; clear ZB
        refine (feeI_any _ w1.heap.size A1 A2 m m' o c t (1 + z) a (y - 1) e hlo' hlc' (by omega) SL_wk.out SL_wkk.out).mono ?_
        rintro e w15 ⟨rfl, hb⟩
        rw [H4.out]
        have kk := SL.later SL_wk.out (by omega) hb; clear SL_wk; have SL_wk := Lib.hid kk; clear kk
        have kk := SL.later SL_wkk.out (by omega) hb; clear SL_wkk; have SL_wkk := Lib.hid kk; clear kk
        have hsw15 := hb.size
        replace wa := has_call wa hb
        replace ta := has_call ta hb
        replace zb := bthen zb hb; clear hb
        have wac0 := has_cell wa 0 rfl; have wac1 := has_cell wa 1 rfl
        have walt := has_lt wa
        have tac0 := has_cell ta 0 rfl; have tac1 := has_cell ta 1 rfl; have tac2 := has_cell ta 2 rfl; have tac3 := has_cell ta 3 rfl; have tac4 := has_cell ta 4 rfl; have tac5 := has_cell ta 5 rfl; have tac6 := has_cell ta 6 rfl; have tac7 := has_cell ta 7 rfl
        have talt := has_lt ta
        have WAH := Lib.hid wa; clear wa
        have TAH := Lib.hid ta; clear ta
        have ZB := Lib.hid zb; clear zb
        go_wp2_with fail
        clear wac0 wac1 walt tac0 tac1 tac2 tac3 tac4 tac5 tac6 tac7 talt
        have wa := WAH.out; clear WAH
        have ta := TAH.out; clear TAH
        have zb := ZB.out; clear ZB
        go_ret
        exact ⟨rfl, zb⟩
    · skip
      have d1 : decide (u < 20000) = true := decide_eq_true hc1
      have d2 : decide (0 < t.rate) = true := decide_eq_true hc2
      have d3 : decide (0 < t.cap) = true := decide_eq_true hc3
      have hpz := HPA.out hc1 hc2 hc3
      obtain ⟨v9, hv9⟩ : ∃ v, feeB o c t (1 + z) a (u + 1) e = v := ⟨_, rfl⟩
      rw [hv9] at hpz
      have HV9 := Lib.hid hv9; clear hv9
      have d4 : decide (v9 ≤ p) = false := decide_eq_false (by omega)
      have uw : IntKind.i64.wrap (u + 1) = u + 1 := IntWalk.i64_in _ (by omega)
      have wac0 := has_cell wa 0 rfl; have wac1 := has_cell wa 1 rfl
      have walt := has_lt wa
      have tac0 := has_cell ta 0 rfl; have tac1 := has_cell ta 1 rfl; have tac2 := has_cell ta 2 rfl; have tac3 := has_cell ta 3 rfl; have tac4 := has_cell ta 4 rfl; have tac5 := has_cell ta 5 rfl; have tac6 := has_cell ta 6 rfl; have tac7 := has_cell ta 7 rfl
      have talt := has_lt ta
      have WAH := Lib.hid wa; clear wa
      have TAH := Lib.hid ta; clear ta
      have ZB := Lib.hid zb; clear zb
      try go_wp2_with fail
      have S0 : (fun W : World => (W.cell? ⟨w1.heap.size, 0, none⟩ = some (.slice A1 o.length m) ∧ W.cell? ⟨w1.heap.size, 1, none⟩ = some (.slice A2 c.length m') ∧ W.cell? ⟨w3.heap.size, 0, none⟩ = some (.int .i64 t.keep) ∧ W.cell? ⟨w3.heap.size, 1, none⟩ = some (.int .i64 t.free) ∧ W.cell? ⟨w3.heap.size, 2, none⟩ = some (.int .i64 t.step) ∧ W.cell? ⟨w3.heap.size, 3, none⟩ = some (.int .i64 t.rate) ∧ W.cell? ⟨w3.heap.size, 4, none⟩ = some (.int .i64 t.cap) ∧ W.cell? ⟨w3.heap.size, 5, none⟩ = some (.int .i64 t.longer) ∧ W.cell? ⟨w3.heap.size, 6, none⟩ = some (.int .i64 t.price) ∧ W.cell? ⟨w3.heap.size, 7, none⟩ = some (.int .i64 t.most)) ∧ Below w10.heap.size w10 W) w10.drew := ⟨⟨wac0, wac1, tac0, tac1, tac2, tac3, tac4, tac5, tac6, tac7⟩, (Below.refl _ _).drew⟩
      have zc := ZB.out; have hzz := zc.size; have hlwa9 := walt; have hlta9 := talt
      clear wac0 wac1 walt tac0 tac1 tac2 tac3 tac4 tac5 tac6 tac7 talt
      refine wp_region_held_drew (S := (fun W : World => (W.cell? ⟨w1.heap.size, 0, none⟩ = some (.slice A1 o.length m) ∧ W.cell? ⟨w1.heap.size, 1, none⟩ = some (.slice A2 c.length m') ∧ W.cell? ⟨w3.heap.size, 0, none⟩ = some (.int .i64 t.keep) ∧ W.cell? ⟨w3.heap.size, 1, none⟩ = some (.int .i64 t.free) ∧ W.cell? ⟨w3.heap.size, 2, none⟩ = some (.int .i64 t.step) ∧ W.cell? ⟨w3.heap.size, 3, none⟩ = some (.int .i64 t.rate) ∧ W.cell? ⟨w3.heap.size, 4, none⟩ = some (.int .i64 t.cap) ∧ W.cell? ⟨w3.heap.size, 5, none⟩ = some (.int .i64 t.longer) ∧ W.cell? ⟨w3.heap.size, 6, none⟩ = some (.int .i64 t.price) ∧ W.cell? ⟨w3.heap.size, 7, none⟩ = some (.int .i64 t.most)) ∧ Below w10.heap.size w10 W)) (by kernel_rfl) S0 (fun _ => ?_)
      refine any_take (i := 0) (some 135) (.int .i64 u) rfl rfl (by kernel_rfl) (by kernel_rfl) (by kernel_rfl) (fun _ _ _ h => h) rfl (fun W hSw => ?_) (S0) ?_
      · (try dsimp only at hSw); go_simp <;> with_reducible rfl
      try simp only [Act.put, List.setIfInBounds_toArray, List.set_cons_zero, List.set_cons_succ]
      refine any_take (i := 1) (some 136) (.bool true) rfl rfl (by kernel_rfl) (by kernel_rfl) (by kernel_rfl) (fun _ _ _ h => h) rfl (fun W hSw => ?_) (S0) ?_
      · (try dsimp only at hSw); go_simp <;> with_reducible rfl
      try simp only [Act.put, List.setIfInBounds_toArray, List.set_cons_zero, List.set_cons_succ]
      refine any_take (i := 2) (some 137) (.bool true) rfl rfl (by kernel_rfl) (by kernel_rfl) (by kernel_rfl) (fun _ _ _ h => h) rfl (fun W hSw => ?_) (S0) ?_
      · (try dsimp only at hSw); go_simp <;> with_reducible rfl
      try simp only [Act.put, List.setIfInBounds_toArray, List.set_cons_zero, List.set_cons_succ]
      refine any_take (i := 3) (some 138) (.pointer (some ⟨w3.heap.size, 3, none⟩)) rfl rfl (by kernel_rfl) (by kernel_rfl) (by kernel_rfl) (fun _ _ _ h => h) rfl (fun W hSw => ?_) (S0) ?_
      · (try dsimp only at hSw); go_simp <;> with_reducible rfl
      try simp only [Act.put, List.setIfInBounds_toArray, List.set_cons_zero, List.set_cons_succ]
      refine any_take (i := 4) (some 139) (.int .i64 t.rate) rfl rfl (by kernel_rfl) (by kernel_rfl) (by kernel_rfl) (fun _ _ _ h => h) rfl (fun W hSw => ?_) (S0) ?_
      · (try dsimp only at hSw); go_simp <;> with_reducible rfl
      try simp only [Act.put, List.setIfInBounds_toArray, List.set_cons_zero, List.set_cons_succ]
      refine any_take (i := 5) (some 140) (.bool true) rfl rfl (by kernel_rfl) (by kernel_rfl) (by kernel_rfl) (fun _ _ _ h => h) rfl (fun W hSw => ?_) (S0) ?_
      · (try dsimp only at hSw); go_simp <;> with_reducible rfl
      try simp only [Act.put, List.setIfInBounds_toArray, List.set_cons_zero, List.set_cons_succ]
      refine any_take (i := 6) (some 141) (.bool true) rfl rfl (by kernel_rfl) (by kernel_rfl) (by kernel_rfl) (fun _ _ _ h => h) rfl (fun W hSw => ?_) (S0) ?_
      · (try dsimp only at hSw); go_simp <;> with_reducible rfl
      try simp only [Act.put, List.setIfInBounds_toArray, List.set_cons_zero, List.set_cons_succ]
      refine any_take (i := 7) (some 142) (.bool true) rfl rfl (by kernel_rfl) (by kernel_rfl) (by kernel_rfl) (fun _ _ _ h => h) rfl (fun W hSw => ?_) (S0) ?_
      · (try dsimp only at hSw); go_simp <;> with_reducible rfl
      try simp only [Act.put, List.setIfInBounds_toArray, List.set_cons_zero, List.set_cons_succ]
      refine any_take (i := 8) (some 143) (.pointer (some ⟨w3.heap.size, 4, none⟩)) rfl rfl (by kernel_rfl) (by kernel_rfl) (by kernel_rfl) (fun _ _ _ h => h) rfl (fun W hSw => ?_) (S0) ?_
      · (try dsimp only at hSw); go_simp <;> with_reducible rfl
      try simp only [Act.put, List.setIfInBounds_toArray, List.set_cons_zero, List.set_cons_succ]
      refine any_take (i := 9) (some 144) (.int .i64 t.cap) rfl rfl (by kernel_rfl) (by kernel_rfl) (by kernel_rfl) (fun _ _ _ h => h) rfl (fun W hSw => ?_) (S0) ?_
      · (try dsimp only at hSw); go_simp <;> with_reducible rfl
      try simp only [Act.put, List.setIfInBounds_toArray, List.set_cons_zero, List.set_cons_succ]
      refine any_take (i := 10) (some 145) (.bool true) rfl rfl (by kernel_rfl) (by kernel_rfl) (by kernel_rfl) (fun _ _ _ h => h) rfl (fun W hSw => ?_) (S0) ?_
      · (try dsimp only at hSw); go_simp <;> with_reducible rfl
      try simp only [Act.put, List.setIfInBounds_toArray, List.set_cons_zero, List.set_cons_succ]
      refine any_take (i := 11) (some 146) (.bool true) rfl rfl (by kernel_rfl) (by kernel_rfl) (by kernel_rfl) (fun _ _ _ h => h) rfl (fun W hSw => ?_) (S0) ?_
      · (try dsimp only at hSw); go_simp <;> with_reducible rfl
      try simp only [Act.put, List.setIfInBounds_toArray, List.set_cons_zero, List.set_cons_succ]
      refine any_take (i := 12) (some 147) (.bool true) rfl rfl (by kernel_rfl) (by kernel_rfl) (by kernel_rfl) (fun _ _ _ h => h) rfl (fun W hSw => ?_) (S0) ?_
      · (try dsimp only at hSw); go_simp <;> with_reducible rfl
      try simp only [Act.put, List.setIfInBounds_toArray, List.set_cons_zero, List.set_cons_succ]
      refine any_take (i := 13) (some 148) (.agg #[.slice A1 o.length m, .slice A2 c.length m']) rfl rfl (by kernel_rfl) (by kernel_rfl) (by kernel_rfl) (fun _ _ _ h => h) rfl (fun W hSw => ?_) (S0) ?_
      · (try dsimp only at hSw); go_simp <;> with_reducible rfl
      try simp only [Act.put, List.setIfInBounds_toArray, List.set_cons_zero, List.set_cons_succ]
      refine any_take (i := 14) (some 149) (.agg #[.int .i64 t.keep, .int .i64 t.free, .int .i64 t.step, .int .i64 t.rate, .int .i64 t.cap, .int .i64 t.longer, .int .i64 t.price, .int .i64 t.most]) rfl rfl (by kernel_rfl) (by kernel_rfl) (by kernel_rfl) (fun _ _ _ h => h) rfl (fun W hSw => ?_) (S0) ?_
      · (try dsimp only at hSw); go_simp <;> with_reducible rfl
      try simp only [Act.put, List.setIfInBounds_toArray, List.set_cons_zero, List.set_cons_succ]
      refine any_take (i := 15) (some 150) (.int .i64 (1 + z)) rfl rfl (by kernel_rfl) (by kernel_rfl) (by kernel_rfl) (fun _ _ _ h => h) rfl (fun W hSw => ?_) (S0) ?_
      · (try dsimp only at hSw); go_simp <;> with_reducible rfl
      try simp only [Act.put, List.setIfInBounds_toArray, List.set_cons_zero, List.set_cons_succ]
      refine any_take (i := 16) (some 151) (.int .i64 a) rfl rfl (by kernel_rfl) (by kernel_rfl) (by kernel_rfl) (fun _ _ _ h => h) rfl (fun W hSw => ?_) (S0) ?_
      · (try dsimp only at hSw); go_simp <;> with_reducible rfl
      try simp only [Act.put, List.setIfInBounds_toArray, List.set_cons_zero, List.set_cons_succ]
      refine any_take (i := 17) (some 152) (.int .i64 u) rfl rfl (by kernel_rfl) (by kernel_rfl) (by kernel_rfl) (fun _ _ _ h => h) rfl (fun W hSw => ?_) (S0) ?_
      · (try dsimp only at hSw); go_simp <;> with_reducible rfl
      try simp only [Act.put, List.setIfInBounds_toArray, List.set_cons_zero, List.set_cons_succ]
      refine any_take (i := 18) (some 153) (.int .i64 (u + 1)) rfl rfl (by kernel_rfl) (by kernel_rfl) (by kernel_rfl) (fun _ _ _ h => h) rfl (fun W hSw => ?_) (S0) ?_
      · (try dsimp only at hSw); go_simp <;> with_reducible rfl
      try simp only [Act.put, List.setIfInBounds_toArray, List.set_cons_zero, List.set_cons_succ]
      refine any_take (i := 19) (some 154) (.int .i64 e) rfl rfl (by kernel_rfl) (by kernel_rfl) (by kernel_rfl) (fun _ _ _ h => h) rfl (fun W hSw => ?_) (S0) ?_
      · (try dsimp only at hSw); go_simp <;> with_reducible rfl
      try simp only [Act.put, List.setIfInBounds_toArray, List.set_cons_zero, List.set_cons_succ]
      refine any_take (i := 21) (some 156) (.int .i64 e) rfl rfl (by kernel_rfl) (by kernel_rfl) (by kernel_rfl) (fun _ _ _ h => h) rfl (fun W hSw => ?_) (S0) ?_
      · (try dsimp only at hSw); go_simp <;> with_reducible rfl
      try simp only [Act.put, List.setIfInBounds_toArray, List.set_cons_zero, List.set_cons_succ]
      refine any_take (i := 22) (some 157) (.pointer (some ⟨w3.heap.size, 6, none⟩)) rfl rfl (by kernel_rfl) (by kernel_rfl) (by kernel_rfl) (fun _ _ _ h => h) rfl (fun W hSw => ?_) (S0) ?_
      · (try dsimp only at hSw); go_simp <;> with_reducible rfl
      try simp only [Act.put, List.setIfInBounds_toArray, List.set_cons_zero, List.set_cons_succ]
      refine any_take (i := 23) (some 158) (.int .i64 t.price) rfl rfl (by kernel_rfl) (by kernel_rfl) (by kernel_rfl) (fun _ _ _ h => h) rfl (fun W hSw => ?_) (S0) ?_
      · (try dsimp only at hSw); go_simp <;> with_reducible rfl
      try simp only [Act.put, List.setIfInBounds_toArray, List.set_cons_zero, List.set_cons_succ]
      refine any_take (i := 24) (some 159) (.int .i64 p) rfl rfl (by kernel_rfl) (by kernel_rfl) (by kernel_rfl) (fun _ _ _ h => h) rfl (fun W hSw => ?_) (S0) ?_
      · (try dsimp only at hSw); go_simp <;> with_reducible rfl
      try simp only [Act.put, List.setIfInBounds_toArray, List.set_cons_zero, List.set_cons_succ]
      refine wpAnyH_ready (rs := [20]) (by kernel_rfl) (by simp) ?_
      refine AllReadyH.cons rfl (fun K hK => ?_) AllReadyH.nil
      go_simp
      go_at_call 17
      refine (feeI_any w10.drew w1.heap.size A1 A2 m m' o c t (1 + z) a (u + 1) e hlo' hlc' (show w1.heap.size ≤ w10.heap.size by omega) (SL.later SL_wk.out (by omega) ((Below.refl w10.heap.size w10).drew)) (SL.later SL_wkk.out (by omega) ((Below.refl w10.heap.size w10).drew))).mono ?_
      rintro e wk9 ⟨rfl, hb8⟩
      rw [HV9.out]
      have hb9wk9 : Below w10.heap.size w10 wk9 := ((Below.refl w10.heap.size w10).drew).trans hb8
      have Swk9 : (fun W : World => (W.cell? ⟨w1.heap.size, 0, none⟩ = some (.slice A1 o.length m) ∧ W.cell? ⟨w1.heap.size, 1, none⟩ = some (.slice A2 c.length m') ∧ W.cell? ⟨w3.heap.size, 0, none⟩ = some (.int .i64 t.keep) ∧ W.cell? ⟨w3.heap.size, 1, none⟩ = some (.int .i64 t.free) ∧ W.cell? ⟨w3.heap.size, 2, none⟩ = some (.int .i64 t.step) ∧ W.cell? ⟨w3.heap.size, 3, none⟩ = some (.int .i64 t.rate) ∧ W.cell? ⟨w3.heap.size, 4, none⟩ = some (.int .i64 t.cap) ∧ W.cell? ⟨w3.heap.size, 5, none⟩ = some (.int .i64 t.longer) ∧ W.cell? ⟨w3.heap.size, 6, none⟩ = some (.int .i64 t.price) ∧ W.cell? ⟨w3.heap.size, 7, none⟩ = some (.int .i64 t.most)) ∧ Below w10.heap.size w10 W) wk9 := ⟨⟨(bold hb9wk9 _ _ (by omega)).trans S0.1.1, (bold hb9wk9 _ _ (by omega)).trans S0.1.2.1, (bold hb9wk9 _ _ (by omega)).trans S0.1.2.2.1, (bold hb9wk9 _ _ (by omega)).trans S0.1.2.2.2.1, (bold hb9wk9 _ _ (by omega)).trans S0.1.2.2.2.2.1, (bold hb9wk9 _ _ (by omega)).trans S0.1.2.2.2.2.2.1, (bold hb9wk9 _ _ (by omega)).trans S0.1.2.2.2.2.2.2.1, (bold hb9wk9 _ _ (by omega)).trans S0.1.2.2.2.2.2.2.2.1, (bold hb9wk9 _ _ (by omega)).trans S0.1.2.2.2.2.2.2.2.2.1, (bold hb9wk9 _ _ (by omega)).trans S0.1.2.2.2.2.2.2.2.2.2⟩, hb9wk9⟩
      clear hb8
      go_wp2_with fail
      refine hK.out _ _ Swk9 (fun _ => ?_)
      clear hK K
      try simp only [Act.put, List.setIfInBounds_toArray, List.set_cons_zero, List.set_cons_succ]
      refine any_take (i := 25) (some 160) (.bool false) rfl rfl (by kernel_rfl) (by kernel_rfl) (by kernel_rfl) (fun _ _ _ h => h) rfl (fun W hSw => ?_) (Swk9) ?_
      · (try dsimp only at hSw); go_simp <;> with_reducible rfl
      try simp only [Act.put, List.setIfInBounds_toArray, List.set_cons_zero, List.set_cons_succ]
      refine any_take (i := 26) (some 161) (.bool false) rfl rfl (by kernel_rfl) (by kernel_rfl) (by kernel_rfl) (fun _ _ _ h => h) rfl (fun W hSw => ?_) (Swk9) ?_
      · (try dsimp only at hSw); go_simp <;> with_reducible rfl
      try simp only [Act.put, List.setIfInBounds_toArray, List.set_cons_zero, List.set_cons_succ]
      refine wpAnyH_done (by kernel_rfl) ?_ _
      have hb : Below w10.heap.size w10 wk9 := Swk9.2
      clear S0 Swk9 hb9wk9 zc hzz hlwa9 hlta9
      have wa := WAH.out; clear WAH
      have ta := TAH.out; clear TAH
      have zb := ZB.out; clear ZB
      have kk := SL.later SL_wk.out (by omega) hb; clear SL_wk; have SL_wk := Lib.hid kk; clear kk
      have kk := SL.later SL_wkk.out (by omega) hb; clear SL_wkk; have SL_wkk := Lib.hid kk; clear kk
      have hswk9 := hb.size
      replace wa := has_call wa hb
      replace ta := has_call ta hb
      replace zb := bthen zb hb; clear hb
      obtain ⟨q, hq⟩ : ∃ q, nextB o c t (1 + z) a (a + d) e = q := ⟨_, rfl⟩
      cases q with
      | none =>
        have hn := next_none6 HFA.out hq; rw [HV.out] at hn
        have HN := Lib.hid hn; have HQ := Lib.hid hq; clear hn hq
        have wac0 := has_cell wa 0 rfl; have wac1 := has_cell wa 1 rfl
        have walt := has_lt wa
        have tac0 := has_cell ta 0 rfl; have tac1 := has_cell ta 1 rfl; have tac2 := has_cell ta 2 rfl; have tac3 := has_cell ta 3 rfl; have tac4 := has_cell ta 4 rfl; have tac5 := has_cell ta 5 rfl; have tac6 := has_cell ta 6 rfl; have tac7 := has_cell ta 7 rfl
        have talt := has_lt ta
        have WAH := Lib.hid wa; clear wa
        have TAH := Lib.hid ta; clear ta
        have ZB := Lib.hid zb; clear zb
        go_wp2_with fail
        clear wac0 wac1 walt tac0 tac1 tac2 tac3 tac4 tac5 tac6 tac7 talt
        have wa := WAH.out; clear WAH
        have ta := TAH.out; clear TAH
        have zb := ZB.out; clear ZB
        refine (nextI_any _ w1.heap.size A1 A2 m m' o c t (1 + z) a (a + d) e hlo' hlc' (by omega) SL_wk.out SL_wkk.out).mono ?_
        rintro e w12 ⟨rfl, hb⟩
        rw [HQ.out]
        have kk := SL.later SL_wk.out (by omega) hb; clear SL_wk; have SL_wk := Lib.hid kk; clear kk
        have kk := SL.later SL_wkk.out (by omega) hb; clear SL_wkk; have SL_wkk := Lib.hid kk; clear kk
        have hsw12 := hb.size
        replace wa := has_call wa hb
        replace ta := has_call ta hb
        replace zb := bthen zb hb; clear hb
        unfold pairV
        have wac0 := has_cell wa 0 rfl; have wac1 := has_cell wa 1 rfl
        have walt := has_lt wa
        have tac0 := has_cell ta 0 rfl; have tac1 := has_cell ta 1 rfl; have tac2 := has_cell ta 2 rfl; have tac3 := has_cell ta 3 rfl; have tac4 := has_cell ta 4 rfl; have tac5 := has_cell ta 5 rfl; have tac6 := has_cell ta 6 rfl; have tac7 := has_cell ta 7 rfl
        have talt := has_lt ta
        have WAH := Lib.hid wa; clear wa
        have TAH := Lib.hid ta; clear ta
        have ZB := Lib.hid zb; clear zb
        go_wp2_with fail
        clear wac0 wac1 walt tac0 tac1 tac2 tac3 tac4 tac5 tac6 tac7 talt
        have wa := WAH.out; clear WAH
        have ta := TAH.out; clear TAH
        have zb := ZB.out; clear ZB
        refine (nextS_any _ w1.heap.size A1 A2 m m' o c t (1 + z) a (a + d) e hlo' hlc' (by omega) SL_wk.out SL_wkk.out).mono ?_
        rintro e w13 ⟨rfl, hb⟩
        rw [HQ.out]
        have kk := SL.later SL_wk.out (by omega) hb; clear SL_wk; have SL_wk := Lib.hid kk; clear kk
        have kk := SL.later SL_wkk.out (by omega) hb; clear SL_wkk; have SL_wkk := Lib.hid kk; clear kk
        have hsw13 := hb.size
        replace wa := has_call wa hb
        replace ta := has_call ta hb
        replace zb := bthen zb hb; clear hb
        unfold pairV
        have wac0 := has_cell wa 0 rfl; have wac1 := has_cell wa 1 rfl
        have walt := has_lt wa
        have tac0 := has_cell ta 0 rfl; have tac1 := has_cell ta 1 rfl; have tac2 := has_cell ta 2 rfl; have tac3 := has_cell ta 3 rfl; have tac4 := has_cell ta 4 rfl; have tac5 := has_cell ta 5 rfl; have tac6 := has_cell ta 6 rfl; have tac7 := has_cell ta 7 rfl
        have talt := has_lt ta
        have WAH := Lib.hid wa; clear wa
        have TAH := Lib.hid ta; clear ta
        have ZB := Lib.hid zb; clear zb
        go_wp2_with fail
        clear wac0 wac1 walt tac0 tac1 tac2 tac3 tac4 tac5 tac6 tac7 talt
        have wa := WAH.out; clear WAH
        have ta := TAH.out; clear TAH
        have zb := ZB.out; clear ZB
        refine (feeI_any _ w1.heap.size A1 A2 m m' o c t (1 + z) a 20000 e hlo' hlc' (by omega) SL_wk.out SL_wkk.out).mono ?_
        rintro e w14 ⟨rfl, hb⟩
        rw [HN.out]
        have kk := SL.later SL_wk.out (by omega) hb; clear SL_wk; have SL_wk := Lib.hid kk; clear kk
        have kk := SL.later SL_wkk.out (by omega) hb; clear SL_wkk; have SL_wkk := Lib.hid kk; clear kk
        have hsw14 := hb.size
        replace wa := has_call wa hb
        replace ta := has_call ta hb
        replace zb := bthen zb hb; clear hb
        have wac0 := has_cell wa 0 rfl; have wac1 := has_cell wa 1 rfl
        have walt := has_lt wa
        have tac0 := has_cell ta 0 rfl; have tac1 := has_cell ta 1 rfl; have tac2 := has_cell ta 2 rfl; have tac3 := has_cell ta 3 rfl; have tac4 := has_cell ta 4 rfl; have tac5 := has_cell ta 5 rfl; have tac6 := has_cell ta 6 rfl; have tac7 := has_cell ta 7 rfl
        have talt := has_lt ta
        have WAH := Lib.hid wa; clear wa
        have TAH := Lib.hid ta; clear ta
        have ZB := Lib.hid zb; clear zb
        go_wp2_with fail
        clear wac0 wac1 walt tac0 tac1 tac2 tac3 tac4 tac5 tac6 tac7 talt
        have wa := WAH.out; clear WAH
        have ta := TAH.out; clear TAH
        have zb := ZB.out; clear ZB
        go_ret
        exact ⟨rfl, zb⟩
      | some y =>
        obtain ⟨y0, y1, y2, y3⟩ := next_some6 HFA.out hq; rw [HV.out] at y2 y3
        obtain ⟨v3, hv3⟩ : ∃ v, feeB o c t (1 + z) a y e = v := ⟨_, rfl⟩
        rw [hv3] at y2
        have H3 := Lib.hid hv3; have H4 := Lib.hid y3; have HQ := Lib.hid hq; clear hv3 y3 hq
        have ny : (y != y) = false := by simp
        have wac0 := has_cell wa 0 rfl; have wac1 := has_cell wa 1 rfl
        have walt := has_lt wa
        have tac0 := has_cell ta 0 rfl; have tac1 := has_cell ta 1 rfl; have tac2 := has_cell ta 2 rfl; have tac3 := has_cell ta 3 rfl; have tac4 := has_cell ta 4 rfl; have tac5 := has_cell ta 5 rfl; have tac6 := has_cell ta 6 rfl; have tac7 := has_cell ta 7 rfl
        have talt := has_lt ta
        have WAH := Lib.hid wa; clear wa
        have TAH := Lib.hid ta; clear ta
        have ZB := Lib.hid zb; clear zb
        go_wp2_with fail
        clear wac0 wac1 walt tac0 tac1 tac2 tac3 tac4 tac5 tac6 tac7 talt
        have wa := WAH.out; clear WAH
        have ta := TAH.out; clear TAH
        have zb := ZB.out; clear ZB
        refine (nextI_any _ w1.heap.size A1 A2 m m' o c t (1 + z) a (a + d) e hlo' hlc' (by omega) SL_wk.out SL_wkk.out).mono ?_
        rintro e w12 ⟨rfl, hb⟩
        rw [HQ.out]
        have kk := SL.later SL_wk.out (by omega) hb; clear SL_wk; have SL_wk := Lib.hid kk; clear kk
        have kk := SL.later SL_wkk.out (by omega) hb; clear SL_wkk; have SL_wkk := Lib.hid kk; clear kk
        have hsw12 := hb.size
        replace wa := has_call wa hb
        replace ta := has_call ta hb
        replace zb := bthen zb hb; clear hb
        unfold pairV
        have wac0 := has_cell wa 0 rfl; have wac1 := has_cell wa 1 rfl
        have walt := has_lt wa
        have tac0 := has_cell ta 0 rfl; have tac1 := has_cell ta 1 rfl; have tac2 := has_cell ta 2 rfl; have tac3 := has_cell ta 3 rfl; have tac4 := has_cell ta 4 rfl; have tac5 := has_cell ta 5 rfl; have tac6 := has_cell ta 6 rfl; have tac7 := has_cell ta 7 rfl
        have talt := has_lt ta
        have WAH := Lib.hid wa; clear wa
        have TAH := Lib.hid ta; clear ta
        have ZB := Lib.hid zb; clear zb
        go_wp2_with fail
        clear wac0 wac1 walt tac0 tac1 tac2 tac3 tac4 tac5 tac6 tac7 talt
        have wa := WAH.out; clear WAH
        have ta := TAH.out; clear TAH
        have zb := ZB.out; clear ZB
        refine (nextS_any _ w1.heap.size A1 A2 m m' o c t (1 + z) a (a + d) e hlo' hlc' (by omega) SL_wk.out SL_wkk.out).mono ?_
        rintro e w13 ⟨rfl, hb⟩
        rw [HQ.out]
        have kk := SL.later SL_wk.out (by omega) hb; clear SL_wk; have SL_wk := Lib.hid kk; clear kk
        have kk := SL.later SL_wkk.out (by omega) hb; clear SL_wkk; have SL_wkk := Lib.hid kk; clear kk
        have hsw13 := hb.size
        replace wa := has_call wa hb
        replace ta := has_call ta hb
        replace zb := bthen zb hb; clear hb
        unfold pairV
        have wac0 := has_cell wa 0 rfl; have wac1 := has_cell wa 1 rfl
        have walt := has_lt wa
        have tac0 := has_cell ta 0 rfl; have tac1 := has_cell ta 1 rfl; have tac2 := has_cell ta 2 rfl; have tac3 := has_cell ta 3 rfl; have tac4 := has_cell ta 4 rfl; have tac5 := has_cell ta 5 rfl; have tac6 := has_cell ta 6 rfl; have tac7 := has_cell ta 7 rfl
        have talt := has_lt ta
        have WAH := Lib.hid wa; clear wa
        have TAH := Lib.hid ta; clear ta
        have ZB := Lib.hid zb; clear zb
        go_wp2_with fail
        clear wac0 wac1 walt tac0 tac1 tac2 tac3 tac4 tac5 tac6 tac7 talt
        have wa := WAH.out; clear WAH
        have ta := TAH.out; clear TAH
        have zb := ZB.out; clear ZB
        refine (feeI_any _ w1.heap.size A1 A2 m m' o c t (1 + z) a y e hlo' hlc' (by omega) SL_wk.out SL_wkk.out).mono ?_
        rintro e w14 ⟨rfl, hb⟩
        rw [H3.out]
        have kk := SL.later SL_wk.out (by omega) hb; clear SL_wk; have SL_wk := Lib.hid kk; clear kk
        have kk := SL.later SL_wkk.out (by omega) hb; clear SL_wkk; have SL_wkk := Lib.hid kk; clear kk
        have hsw14 := hb.size
        replace wa := has_call wa hb
        replace ta := has_call ta hb
        replace zb := bthen zb hb; clear hb
        have wac0 := has_cell wa 0 rfl; have wac1 := has_cell wa 1 rfl
        have walt := has_lt wa
        have tac0 := has_cell ta 0 rfl; have tac1 := has_cell ta 1 rfl; have tac2 := has_cell ta 2 rfl; have tac3 := has_cell ta 3 rfl; have tac4 := has_cell ta 4 rfl; have tac5 := has_cell ta 5 rfl; have tac6 := has_cell ta 6 rfl; have tac7 := has_cell ta 7 rfl
        have talt := has_lt ta
        have WAH := Lib.hid wa; clear wa
        have TAH := Lib.hid ta; clear ta
        have ZB := Lib.hid zb; clear zb
        go_wp2_with fail
        clear wac0 wac1 walt tac0 tac1 tac2 tac3 tac4 tac5 tac6 tac7 talt
        have wa := WAH.out; clear WAH
        have ta := TAH.out; clear TAH
        have zb := ZB.out; clear ZB
        refine (feeI_any _ w1.heap.size A1 A2 m m' o c t (1 + z) a (y - 1) e hlo' hlc' (by omega) SL_wk.out SL_wkk.out).mono ?_
        rintro e w15 ⟨rfl, hb⟩
        rw [H4.out]
        have kk := SL.later SL_wk.out (by omega) hb; clear SL_wk; have SL_wk := Lib.hid kk; clear kk
        have kk := SL.later SL_wkk.out (by omega) hb; clear SL_wkk; have SL_wkk := Lib.hid kk; clear kk
        have hsw15 := hb.size
        replace wa := has_call wa hb
        replace ta := has_call ta hb
        replace zb := bthen zb hb; clear hb
        have wac0 := has_cell wa 0 rfl; have wac1 := has_cell wa 1 rfl
        have walt := has_lt wa
        have tac0 := has_cell ta 0 rfl; have tac1 := has_cell ta 1 rfl; have tac2 := has_cell ta 2 rfl; have tac3 := has_cell ta 3 rfl; have tac4 := has_cell ta 4 rfl; have tac5 := has_cell ta 5 rfl; have tac6 := has_cell ta 6 rfl; have tac7 := has_cell ta 7 rfl
        have talt := has_lt ta
        have WAH := Lib.hid wa; clear wa
        have TAH := Lib.hid ta; clear ta
        have ZB := Lib.hid zb; clear zb
        go_wp2_with fail
        clear wac0 wac1 walt tac0 tac1 tac2 tac3 tac4 tac5 tac6 tac7 talt
        have wa := WAH.out; clear WAH
        have ta := TAH.out; clear TAH
        have zb := ZB.out; clear ZB
        go_ret
        exact ⟨rfl, zb⟩
end Go.Proofs.Ytpooffekjealhaa
