/- Chapter 6: the walk of the law FnDeadlines (gen_feez.py). -/
import Derived.Test.YtpooffekjealhaaFeeQ
import Derived.Test.YtpooffekjealhaaFeeW
import Derived.Test.YtpooffekjealhaaAny
import Derived.Deep.RegionHeld3
import Derived.Deep.DeepMust
namespace Go.Proofs.Ytpooffekjealhaa
open Go.RowKit
set_option linter.unusedVariables false
/-- what the law's loop keeps of the last deadline, and of the least number of extensions -/
def LastOK (o c : List (Int × Int)) (t : Tm) (a n last : Int) : Prop := ∀ y, deadB o c t a n = some y → last < y
def LeastOK (o c : List (Int × Int)) (t : Tm) (a u n m : Int) : Prop := (m = -1 ∧ lstV o c t a u n = lstB o c t a u) ∨ (0 ≤ m ∧ lstB o c t a u = some m)
section
variable {o c : List (Int × Int)} {t : Tm} {a u n m last y : Int}
theorem last_start : LastOK o c t a 0 a := fun y h => dead_first h
theorem last_none (h0 : 0 ≤ n) (h : deadB o c t a n = none) : LastOK o c t a (n + 1) last := fun y h' => by
  rw [dead_none h0 (by omega) h] at h'; cases h'
theorem last_next (h : deadB o c t a n = some y) : LastOK o c t a (n + 1) y := fun y' h' => dead_next h h'
theorem least_start : LeastOK o c t a u 0 (-1) := .inl ⟨rfl, lstV_zero _ _ _ _ _⟩
theorem least_none6 (ht : termsB t = true) (h0 : 0 ≤ n) (hn : n ≤ t.most) (h : deadB o c t a n = none) (hl : LeastOK o c t a u n m) : LeastOK o c t a u (n + 1) m := by
  rcases hl with ⟨h1, h2⟩ | h1
  · exact .inl ⟨h1, (lstV_no ht h0 hn h).symm.trans h2⟩
  · exact .inr h1
theorem least_low6 (h : deadB o c t a n = some y) (hu : ¬ u ≤ y) (hl : LeastOK o c t a u n m) : LeastOK o c t a u (n + 1) m := by
  rcases hl with ⟨h1, h2⟩ | h1
  · exact .inl ⟨h1, (lstV_low h hu).symm.trans h2⟩
  · exact .inr h1
theorem least_hit6 (h0 : 0 ≤ n) (h : deadB o c t a n = some y) (hu : u ≤ y) (hm : m < 0) (hl : LeastOK o c t a u n m) : LeastOK o c t a u (n + 1) n := by
  rcases hl with ⟨h1, h2⟩ | h1
  · exact .inr ⟨h0, h2.symm.trans (lstV_hit h hu)⟩
  · omega
theorem least_keep6 (hm : ¬ m < 0) (hl : LeastOK o c t a u n m) : LeastOK o c t a u (n + 1) m := by
  rcases hl with ⟨h1, h2⟩ | h1
  · omega
  · exact .inr h1
theorem least_end6 (hn : t.most < n) (hl : LeastOK o c t a u n m) : (m = -1 ∧ lstB o c t a u = none) ∨ (0 ≤ m ∧ lstB o c t a u = some m) := by
  rcases hl with ⟨h1, h2⟩ | h1
  · exact .inl ⟨h1, h2.symm.trans (lstV_end hn)⟩
  · exact .inr h1
end
set_option maxRecDepth 100000 in
set_option maxHeartbeats 32000000 in
theorem deadlines_walk (w : World) (A : Option Addr) (na ca : Nat) (hn : na ≤ maxLen) (hS : BS w w.heap.size A na) : Calls Try.prog 3 #[.slice A na ca] w fun e w' => e = .returned (.bool true) ∧ Below w.heap.size w w' := by
  have HS := Lib.hid hS; clear hS
  have HBG := Lib.hid (fun W => big_any W A na ca hn)
  have HDW := Lib.hid (fun W (h : BS W W.heap.size A na) => drawWeek_any W A na ca hn h)
  have HDT := Lib.hid (fun W (h : BS W W.heap.size A na) => drawTerms_any W A na ca hn h)
  have HDP := Lib.hid (fun W (h : BS W W.heap.size A na) => places_any W A na ca hn h)
  clear hn
  by_cases hbig : (1048576 : Int) < na
  · have hd : decide ((1048576 : Int) < na) = true := by simpa using hbig
    have HD := Lib.hid hd; clear hd
    go_enter Try.func3, Try.ntmps3
    go_wp2_with (refine (HBG.out _).mono ?_; rintro e w' ⟨rfl, hw⟩; rw [hw, HD.out]; clear hw)
    go_ret
    exact ⟨rfl, Below.refl _ _⟩
  have hd : decide ((1048576 : Int) < na) = false := by simpa using hbig
  have HD := Lib.hid hd; clear hd hbig
  go_enter Try.func3, Try.ntmps3
  go_wp2_with (go_at_call 6; refine (HBG.out _).mono ?_; rintro e w' ⟨rfl, hw⟩; rw [hw, HD.out]; clear hw)
  have zb := Below.refl w.heap.size w
  refine (HDW.out w HS.out).mono ?_
  rintro e w1 ⟨A1, A2, m, m', o, c, rfl, hw, hlo, hlc, h5, h6, hb⟩
  have hsw1 := hb.size
  replace zb := bthen zb hb; clear hb
  have hlo' : o.length ≤ maxLen := by unfold maxLen; omega
  have hlc' : c.length ≤ maxLen := by unfold maxLen; omega
  have HW := Lib.hid hw; clear hw
  have SL_wk := Lib.hid h5; have SL_wkk := Lib.hid h6; clear h5 h6
  have ZB := Lib.hid zb; clear zb
  go_wp2_with fail
  have zb := ZB.out; clear ZB
  generalize hX : (w1.alloc (.cells #[.slice A1 o.length m, .slice A2 c.length m'] 26)) = w2
  have hb : Below w1.heap.size w1 w2 := by rw [← hX]; exact balloc _ _
  have hk : Has w2 w1.heap.size 26 #[.slice A1 o.length m, .slice A2 c.length m'] := by rw [← hX]; exact has_new _ _ _
  clear hX
  have kk := SL.later SL_wk.out (by omega) hb; clear SL_wk; have SL_wk := Lib.hid kk; clear kk
  have kk := SL.later SL_wkk.out (by omega) hb; clear SL_wkk; have SL_wkk := Lib.hid kk; clear kk
  have hsw2 := hb.size
  replace zb := bthen zb hb; clear hb
  have wa := hk; clear hk; have hlwa := has_lt wa
  refine (HDT.out _ ((HS.out.below zb).below' zb.size)).mono ?_
  rintro e w3 ⟨t, rfl, ht, hmost, hb⟩
  have kk := SL.later SL_wk.out (by omega) hb; clear SL_wk; have SL_wk := Lib.hid kk; clear kk
  have kk := SL.later SL_wkk.out (by omega) hb; clear SL_wkk; have SL_wkk := Lib.hid kk; clear kk
  have hsw3 := hb.size
  replace wa := has_call wa hb
  replace zb := bthen zb hb; clear hb
  have HT := Lib.hid ht; clear ht
  have wac0 := has_cell wa 0 rfl; have wac1 := has_cell wa 1 rfl
  have walt := has_lt wa
  have WAH := Lib.hid wa; clear wa
  have ZB := Lib.hid zb; clear zb
  go_wp2_with fail
  clear wac0 wac1 walt
  have wa := WAH.out; clear WAH
  have zb := ZB.out; clear ZB
  generalize hX : (w3.alloc (.cells #[.int .i64 t.keep, .int .i64 t.free, .int .i64 t.step, .int .i64 t.rate, .int .i64 t.cap, .int .i64 t.longer, .int .i64 t.price, .int .i64 t.most] 29)) = w4
  have hb : Below w3.heap.size w3 w4 := by rw [← hX]; exact balloc _ _
  have hk : Has w4 w3.heap.size 29 #[.int .i64 t.keep, .int .i64 t.free, .int .i64 t.step, .int .i64 t.rate, .int .i64 t.cap, .int .i64 t.longer, .int .i64 t.price, .int .i64 t.most] := by rw [← hX]; exact has_new _ _ _
  clear hX
  have kk := SL.later SL_wk.out (by omega) hb; clear SL_wk; have SL_wk := Lib.hid kk; clear kk
  have kk := SL.later SL_wkk.out (by omega) hb; clear SL_wkk; have SL_wkk := Lib.hid kk; clear kk
  have hsw4 := hb.size
  replace wa := has_call wa hb
  replace zb := bthen zb hb; clear hb
  have ta := hk; clear hk; have hlta := has_lt ta
  refine (HDP.out _ ((HS.out.below zb).below' zb.size)).mono ?_
  rintro e w5 ⟨bl, cp, l, rfl, hl12, hall, hcell, hbz, hbn, hb⟩
  have kk := SL.later SL_wk.out (by omega) hb; clear SL_wk; have SL_wk := Lib.hid kk; clear kk
  have kk := SL.later SL_wkk.out (by omega) hb; clear SL_wkk; have SL_wkk := Lib.hid kk; clear kk
  have hsw5 := hb.size
  replace wa := has_call wa hb
  replace ta := has_call ta hb
  replace zb := bthen zb hb; clear hb
  obtain ⟨x0, hx0⟩ : ∃ x, l[0]? = some x := ⟨_, List.getElem?_eq_getElem (by omega)⟩
  have r0 := hall x0 (List.mem_of_getElem? hx0); obtain ⟨p0, q0⟩ := r0
  have lc0 := hcell 0 x0 hx0
  obtain ⟨x1, hx1⟩ : ∃ x, l[1]? = some x := ⟨_, List.getElem?_eq_getElem (by omega)⟩
  have r1 := hall x1 (List.mem_of_getElem? hx1); obtain ⟨p1, q1⟩ := r1
  have lc1 := hcell 1 x1 hx1
  clear hcell hall hl12 hx0 hx1
  have tt := (terms_iff t).1 HT.out; obtain ⟨t1, t2, t3, t4, t5, t6, t7, t8⟩ := tt
  have wac0 := has_cell wa 0 rfl; have wac1 := has_cell wa 1 rfl
  have walt := has_lt wa
  have tac0 := has_cell ta 0 rfl; have tac1 := has_cell ta 1 rfl; have tac2 := has_cell ta 2 rfl; have tac3 := has_cell ta 3 rfl; have tac4 := has_cell ta 4 rfl; have tac5 := has_cell ta 5 rfl; have tac6 := has_cell ta 6 rfl; have tac7 := has_cell ta 7 rfl
  have talt := has_lt ta
  have WAH := Lib.hid wa; clear wa
  have TAH := Lib.hid ta; clear ta
  have ZB := Lib.hid zb; clear zb
  go_wp2_with fail
  clear wac0 wac1 walt tac0 tac1 tac2 tac3 tac4 tac5 tac6 tac7 talt
  have wa := WAH.out; clear WAH
  have ta := TAH.out; clear TAH
  have zb := ZB.out; clear ZB
  clear lc0 lc1
  generalize ha : x0 % 400 = a
  generalize hd : x1 % 400 = d
  have ra : 0 ≤ a ∧ a < 400 := by omega
  have rd : 0 ≤ d ∧ d < 400 := by omega
  obtain ⟨a0, a1⟩ := ra; obtain ⟨d0, d1⟩ := rd
  clear ha hd p0 q0 p1 q1
  have WA0 := Lib.hid wa; clear wa
  have TA0 := Lib.hid ta; clear ta
  have SLB_wk := Lib.hid SL_wk.out; clear SL_wk
  have SLB_wkk := Lib.hid SL_wkk.out; clear SL_wkk
  have ZB0 := Lib.hid zb; clear zb
  go_loopw [8, 9, 10] (fun lv mv iv wr => ∃ (n last m : Int), 0 ≤ n ∧ n ≤ t.most + 1 ∧ iv = .int .i64 n ∧ lv = .int .i64 last ∧ mv = .int .i64 m ∧ 0 ≤ last ∧ last ≤ 20000 ∧ -1 ≤ m ∧ m ≤ 20 ∧ LastOK o c t a n last ∧ LeastOK o c t a (a + d) n m ∧ Below w5.heap.size w5 wr) (fun _ _ iv _ => (10 - intOf iv).toNat)
  case atStart => exact ⟨0, a, -1, by omega, by omega, rfl, rfl, rfl, by omega, by omega, by omega, by omega, last_start, least_start, Below.refl _ _⟩
  case round =>
    obtain ⟨n, last, m9, n0, n1, rfl, rfl, rfl, l0, l1, m0, m1, hla, hle, hb⟩ := hrel
    have HLA := Lib.hid hla; have HLE := Lib.hid hle; clear hla hle
    have hsr := hb.size
    have wa := has_call WA0.out hb
    have ta := has_call TA0.out hb
    have kk := SL.later SLB_wk.out (by omega) hb; have SL_wk := Lib.hid kk; clear kk
    have kk := SL.later SLB_wkk.out (by omega) hb; have SL_wkk := Lib.hid kk; clear kk
    have zb := bthen ZB0.out hb
    have hbr := hb; clear hb
    by_cases hnm : n ≤ t.most
    rotate_left
    · skip
      have HFAR := Lib.hid (dead_far (o := o) (c := c) (t := t) (a := a))
      rcases least_end6 (show t.most < n by omega) HLE.out with ⟨hm9, hls⟩ | ⟨hm9, hls⟩
      · skip
        have HLS := Lib.hid hls; clear hls
        subst hm9
        have wac0 := has_cell wa 0 rfl; have wac1 := has_cell wa 1 rfl
        have walt := has_lt wa
        have tac0 := has_cell ta 0 rfl; have tac1 := has_cell ta 1 rfl; have tac2 := has_cell ta 2 rfl; have tac3 := has_cell ta 3 rfl; have tac4 := has_cell ta 4 rfl; have tac5 := has_cell ta 5 rfl; have tac6 := has_cell ta 6 rfl; have tac7 := has_cell ta 7 rfl
        have talt := has_lt ta
        have WAH := Lib.hid wa; clear wa
        have TAH := Lib.hid ta; clear ta
        have ZB := Lib.hid zb; clear zb
        go_wp2_with fail
        clear wac0 wac1 walt tac0 tac1 tac2 tac3 tac4 tac5 tac6 tac7 talt
        have wa := WAH.out; clear WAH
        have ta := TAH.out; clear TAH
        have zb := ZB.out; clear ZB
        refine (leastI_any _ w1.heap.size A1 A2 m m' o c t a (a + d) hlo' hlc' (by omega) SL_wk.out SL_wkk.out).mono ?_
        rintro e w6 ⟨rfl, hb⟩
        rw [HLS.out]
        have kk := SL.later SL_wk.out (by omega) hb; clear SL_wk; have SL_wk := Lib.hid kk; clear kk
        have kk := SL.later SL_wkk.out (by omega) hb; clear SL_wkk; have SL_wkk := Lib.hid kk; clear kk
        replace hbr := bthen hbr hb
        have hsw6 := hb.size
        replace wa := has_call wa hb
        replace ta := has_call ta hb
        replace zb := bthen zb hb; clear hb
        unfold pairV
        have wac0 := has_cell wa 0 rfl; have wac1 := has_cell wa 1 rfl
        have walt := has_lt wa
        have tac0 := has_cell ta 0 rfl; have tac1 := has_cell ta 1 rfl; have tac2 := has_cell ta 2 rfl; have tac3 := has_cell ta 3 rfl; have tac4 := has_cell ta 4 rfl; have tac5 := has_cell ta 5 rfl; have tac6 := has_cell ta 6 rfl; have tac7 := has_cell ta 7 rfl
        have talt := has_lt ta
        have WAH := Lib.hid wa; clear wa
        have TAH := Lib.hid ta; clear ta
        have ZB := Lib.hid zb; clear zb
        go_wp2_with fail
        clear wac0 wac1 walt tac0 tac1 tac2 tac3 tac4 tac5 tac6 tac7 talt
        have wa := WAH.out; clear WAH
        have ta := TAH.out; clear TAH
        have zb := ZB.out; clear ZB
        refine (deadI_any _ w1.heap.size A1 A2 m m' o c t a (t.most + 1) hlo' hlc' (by omega) SL_wk.out SL_wkk.out).mono ?_
        rintro e w7 ⟨rfl, hb⟩
        rw [HFAR.out]
        have kk := SL.later SL_wk.out (by omega) hb; clear SL_wk; have SL_wk := Lib.hid kk; clear kk
        have kk := SL.later SL_wkk.out (by omega) hb; clear SL_wkk; have SL_wkk := Lib.hid kk; clear kk
        replace hbr := bthen hbr hb
        have hsw7 := hb.size
        replace wa := has_call wa hb
        replace ta := has_call ta hb
        replace zb := bthen zb hb; clear hb
        unfold pairV
        have wac0 := has_cell wa 0 rfl; have wac1 := has_cell wa 1 rfl
        have walt := has_lt wa
        have tac0 := has_cell ta 0 rfl; have tac1 := has_cell ta 1 rfl; have tac2 := has_cell ta 2 rfl; have tac3 := has_cell ta 3 rfl; have tac4 := has_cell ta 4 rfl; have tac5 := has_cell ta 5 rfl; have tac6 := has_cell ta 6 rfl; have tac7 := has_cell ta 7 rfl
        have talt := has_lt ta
        have WAH := Lib.hid wa; clear wa
        have TAH := Lib.hid ta; clear ta
        have ZB := Lib.hid zb; clear zb
        go_wp2_with fail
        clear wac0 wac1 walt tac0 tac1 tac2 tac3 tac4 tac5 tac6 tac7 talt
        have wa := WAH.out; clear WAH
        have ta := TAH.out; clear TAH
        have zb := ZB.out; clear ZB
        refine (termsI_any _ t).mono ?_
        rintro e w8 ⟨rfl, hb⟩
        rw [HT.out]
        have kk := SL.later SL_wk.out (by omega) hb; clear SL_wk; have SL_wk := Lib.hid kk; clear kk
        have kk := SL.later SL_wkk.out (by omega) hb; clear SL_wkk; have SL_wkk := Lib.hid kk; clear kk
        replace hbr := bthen hbr hb
        have hsw8 := hb.size
        replace wa := has_call wa hb
        replace ta := has_call ta hb
        replace zb := bthen zb hb; clear hb
        have wac0 := has_cell wa 0 rfl; have wac1 := has_cell wa 1 rfl
        have walt := has_lt wa
        have tac0 := has_cell ta 0 rfl; have tac1 := has_cell ta 1 rfl; have tac2 := has_cell ta 2 rfl; have tac3 := has_cell ta 3 rfl; have tac4 := has_cell ta 4 rfl; have tac5 := has_cell ta 5 rfl; have tac6 := has_cell ta 6 rfl; have tac7 := has_cell ta 7 rfl
        have talt := has_lt ta
        have WAH := Lib.hid wa; clear wa
        have TAH := Lib.hid ta; clear ta
        have ZB := Lib.hid zb; clear zb
        go_wp2_with fail
        clear wac0 wac1 walt tac0 tac1 tac2 tac3 tac4 tac5 tac6 tac7 talt
        have wa := WAH.out; clear WAH
        have ta := TAH.out; clear TAH
        have zb := ZB.out; clear ZB
        go_ret
        exact ⟨rfl, zb⟩
      · skip
        have HLS := Lib.hid hls; clear hls
        have nm9 : (m9 == m9) = true := by simp
        have wac0 := has_cell wa 0 rfl; have wac1 := has_cell wa 1 rfl
        have walt := has_lt wa
        have tac0 := has_cell ta 0 rfl; have tac1 := has_cell ta 1 rfl; have tac2 := has_cell ta 2 rfl; have tac3 := has_cell ta 3 rfl; have tac4 := has_cell ta 4 rfl; have tac5 := has_cell ta 5 rfl; have tac6 := has_cell ta 6 rfl; have tac7 := has_cell ta 7 rfl
        have talt := has_lt ta
        have WAH := Lib.hid wa; clear wa
        have TAH := Lib.hid ta; clear ta
        have ZB := Lib.hid zb; clear zb
        go_wp2_with fail
        clear wac0 wac1 walt tac0 tac1 tac2 tac3 tac4 tac5 tac6 tac7 talt
        have wa := WAH.out; clear WAH
        have ta := TAH.out; clear TAH
        have zb := ZB.out; clear ZB
        refine (leastI_any _ w1.heap.size A1 A2 m m' o c t a (a + d) hlo' hlc' (by omega) SL_wk.out SL_wkk.out).mono ?_
        rintro e w6 ⟨rfl, hb⟩
        rw [HLS.out]
        have kk := SL.later SL_wk.out (by omega) hb; clear SL_wk; have SL_wk := Lib.hid kk; clear kk
        have kk := SL.later SL_wkk.out (by omega) hb; clear SL_wkk; have SL_wkk := Lib.hid kk; clear kk
        replace hbr := bthen hbr hb
        have hsw6 := hb.size
        replace wa := has_call wa hb
        replace ta := has_call ta hb
        replace zb := bthen zb hb; clear hb
        unfold pairV
        have wac0 := has_cell wa 0 rfl; have wac1 := has_cell wa 1 rfl
        have walt := has_lt wa
        have tac0 := has_cell ta 0 rfl; have tac1 := has_cell ta 1 rfl; have tac2 := has_cell ta 2 rfl; have tac3 := has_cell ta 3 rfl; have tac4 := has_cell ta 4 rfl; have tac5 := has_cell ta 5 rfl; have tac6 := has_cell ta 6 rfl; have tac7 := has_cell ta 7 rfl
        have talt := has_lt ta
        have WAH := Lib.hid wa; clear wa
        have TAH := Lib.hid ta; clear ta
        have ZB := Lib.hid zb; clear zb
        go_wp2_with fail
        clear wac0 wac1 walt tac0 tac1 tac2 tac3 tac4 tac5 tac6 tac7 talt
        have wa := WAH.out; clear WAH
        have ta := TAH.out; clear TAH
        have zb := ZB.out; clear ZB
        refine (deadI_any _ w1.heap.size A1 A2 m m' o c t a (t.most + 1) hlo' hlc' (by omega) SL_wk.out SL_wkk.out).mono ?_
        rintro e w7 ⟨rfl, hb⟩
        rw [HFAR.out]
        have kk := SL.later SL_wk.out (by omega) hb; clear SL_wk; have SL_wk := Lib.hid kk; clear kk
        have kk := SL.later SL_wkk.out (by omega) hb; clear SL_wkk; have SL_wkk := Lib.hid kk; clear kk
        replace hbr := bthen hbr hb
        have hsw7 := hb.size
        replace wa := has_call wa hb
        replace ta := has_call ta hb
        replace zb := bthen zb hb; clear hb
        unfold pairV
        have wac0 := has_cell wa 0 rfl; have wac1 := has_cell wa 1 rfl
        have walt := has_lt wa
        have tac0 := has_cell ta 0 rfl; have tac1 := has_cell ta 1 rfl; have tac2 := has_cell ta 2 rfl; have tac3 := has_cell ta 3 rfl; have tac4 := has_cell ta 4 rfl; have tac5 := has_cell ta 5 rfl; have tac6 := has_cell ta 6 rfl; have tac7 := has_cell ta 7 rfl
        have talt := has_lt ta
        have WAH := Lib.hid wa; clear wa
        have TAH := Lib.hid ta; clear ta
        have ZB := Lib.hid zb; clear zb
        go_wp2_with fail
        clear wac0 wac1 walt tac0 tac1 tac2 tac3 tac4 tac5 tac6 tac7 talt
        have wa := WAH.out; clear WAH
        have ta := TAH.out; clear TAH
        have zb := ZB.out; clear ZB
        refine (termsI_any _ t).mono ?_
        rintro e w8 ⟨rfl, hb⟩
        rw [HT.out]
        have kk := SL.later SL_wk.out (by omega) hb; clear SL_wk; have SL_wk := Lib.hid kk; clear kk
        have kk := SL.later SL_wkk.out (by omega) hb; clear SL_wkk; have SL_wkk := Lib.hid kk; clear kk
        replace hbr := bthen hbr hb
        have hsw8 := hb.size
        replace wa := has_call wa hb
        replace ta := has_call ta hb
        replace zb := bthen zb hb; clear hb
        have wac0 := has_cell wa 0 rfl; have wac1 := has_cell wa 1 rfl
        have walt := has_lt wa
        have tac0 := has_cell ta 0 rfl; have tac1 := has_cell ta 1 rfl; have tac2 := has_cell ta 2 rfl; have tac3 := has_cell ta 3 rfl; have tac4 := has_cell ta 4 rfl; have tac5 := has_cell ta 5 rfl; have tac6 := has_cell ta 6 rfl; have tac7 := has_cell ta 7 rfl
        have talt := has_lt ta
        have WAH := Lib.hid wa; clear wa
        have TAH := Lib.hid ta; clear ta
        have ZB := Lib.hid zb; clear zb
        go_wp2_with fail
        clear wac0 wac1 walt tac0 tac1 tac2 tac3 tac4 tac5 tac6 tac7 talt
        have wa := WAH.out; clear WAH
        have ta := TAH.out; clear TAH
        have zb := ZB.out; clear ZB
        go_ret
        exact ⟨rfl, zb⟩
    obtain ⟨q, hq⟩ : ∃ q, deadB o c t a n = q := ⟨_, rfl⟩
    cases q with
    | none =>
      have r1 := last_none (last := last) n0 hq; have r2 := least_none6 HT.out n0 hnm hq HLE.out
      have R1 := Lib.hid r1; have R2 := Lib.hid r2; have HQ := Lib.hid hq; clear r1 r2 hq
      have wac0 := has_cell wa 0 rfl; have wac1 := has_cell wa 1 rfl
      have walt := has_lt wa
      have tac0 := has_cell ta 0 rfl; have tac1 := has_cell ta 1 rfl; have tac2 := has_cell ta 2 rfl; have tac3 := has_cell ta 3 rfl; have tac4 := has_cell ta 4 rfl; have tac5 := has_cell ta 5 rfl; have tac6 := has_cell ta 6 rfl; have tac7 := has_cell ta 7 rfl
      have talt := has_lt ta
      have WAH := Lib.hid wa; clear wa
      have TAH := Lib.hid ta; clear ta
      have ZB := Lib.hid zb; clear zb
      go_wp2_with fail
      clear wac0 wac1 walt tac0 tac1 tac2 tac3 tac4 tac5 tac6 tac7 talt
      have wa := WAH.out; clear WAH
      have ta := TAH.out; clear TAH
      have zb := ZB.out; clear ZB
      refine (deadI_any _ w1.heap.size A1 A2 m m' o c t a n hlo' hlc' (by omega) SL_wk.out SL_wkk.out).mono ?_
      rintro e w6 ⟨rfl, hb⟩
      rw [HQ.out]
      have kk := SL.later SL_wk.out (by omega) hb; clear SL_wk; have SL_wk := Lib.hid kk; clear kk
      have kk := SL.later SL_wkk.out (by omega) hb; clear SL_wkk; have SL_wkk := Lib.hid kk; clear kk
      replace hbr := bthen hbr hb
      have hsw6 := hb.size
      replace wa := has_call wa hb
      replace ta := has_call ta hb
      replace zb := bthen zb hb; clear hb
      unfold pairV
      have wac0 := has_cell wa 0 rfl; have wac1 := has_cell wa 1 rfl
      have walt := has_lt wa
      have tac0 := has_cell ta 0 rfl; have tac1 := has_cell ta 1 rfl; have tac2 := has_cell ta 2 rfl; have tac3 := has_cell ta 3 rfl; have tac4 := has_cell ta 4 rfl; have tac5 := has_cell ta 5 rfl; have tac6 := has_cell ta 6 rfl; have tac7 := has_cell ta 7 rfl
      have talt := has_lt ta
      have WAH := Lib.hid wa; clear wa
      have TAH := Lib.hid ta; clear ta
      have ZB := Lib.hid zb; clear zb
      go_wp2_with fail
      clear wac0 wac1 walt tac0 tac1 tac2 tac3 tac4 tac5 tac6 tac7 talt
      have wa := WAH.out; clear WAH
      have ta := TAH.out; clear TAH
      have zb := ZB.out; clear ZB
      refine (deadS_any _ w1.heap.size A1 A2 m m' o c t a n hlo' hlc' (by omega) SL_wk.out SL_wkk.out).mono ?_
      rintro e w7 ⟨rfl, hb⟩
      rw [HQ.out]
      have kk := SL.later SL_wk.out (by omega) hb; clear SL_wk; have SL_wk := Lib.hid kk; clear kk
      have kk := SL.later SL_wkk.out (by omega) hb; clear SL_wkk; have SL_wkk := Lib.hid kk; clear kk
      replace hbr := bthen hbr hb
      have hsw7 := hb.size
      replace wa := has_call wa hb
      replace ta := has_call ta hb
      replace zb := bthen zb hb; clear hb
      unfold pairV
      have wac0 := has_cell wa 0 rfl; have wac1 := has_cell wa 1 rfl
      have walt := has_lt wa
      have tac0 := has_cell ta 0 rfl; have tac1 := has_cell ta 1 rfl; have tac2 := has_cell ta 2 rfl; have tac3 := has_cell ta 3 rfl; have tac4 := has_cell ta 4 rfl; have tac5 := has_cell ta 5 rfl; have tac6 := has_cell ta 6 rfl; have tac7 := has_cell ta 7 rfl
      have talt := has_lt ta
      have WAH := Lib.hid wa; clear wa
      have TAH := Lib.hid ta; clear ta
      have ZB := Lib.hid zb; clear zb
      go_wp2_with fail
      clear wac0 wac1 walt tac0 tac1 tac2 tac3 tac4 tac5 tac6 tac7 talt
      have wa := WAH.out; clear WAH
      have ta := TAH.out; clear TAH
      have zb := ZB.out; clear ZB
      go_roundw
      case rel => exact ⟨n + 1, last, m9, by omega, by omega, rfl, rfl, rfl, l0, l1, m0, m1, R1.out, R2.out, hbr⟩
      case measure => simp [intOf]; omega
    | some y =>
      have hly := HLA.out y hq
      have hdr := dead_range hq
      have y0 : 0 ≤ y ∧ y ≤ 20000 := by omega
      obtain ⟨y1, y2⟩ := y0
      have r1 := last_next hq
      have hos := over_same hq
      have hop := fun h => over_past hq h
      have hex := ext_at hq
      have hxp := fun h => ext_past hq h
      have hhr := (dead_hours hq).2
      obtain ⟨k, hk⟩ : ∃ k, n * t.longer = k := ⟨_, rfl⟩
      rw [Int.mul_comm, hk] at hhr
      have hlb := long_bound hdr.1 hdr.2.1 hdr.2.2.1
      rw [Int.mul_comm, hk] at hlb
      obtain ⟨k0, k1⟩ := hlb
      have hkw : IntKind.i64.wrap (n * t.longer) = k := (IntWalk.i64_in _ (by omega)).trans hk
      have hkw2 : IntKind.i64.wrap (t.keep + k) = t.keep + k := IntWalk.i64_in _ (by omega)
      have R1 := Lib.hid r1; have HOS := Lib.hid hos; have HOP := Lib.hid hop; have HEX := Lib.hid hex; have HXP := Lib.hid hxp; have HHR := Lib.hid hhr; have HK := Lib.hid hk
      clear r1 hos hop hex hxp hhr hk hdr
      have dy : decide (y ≤ last) = false := decide_eq_false (by omega)
      have ny : (y != y) = false := by simp
      have nk : (t.keep + k != t.keep + k) = false := by simp
      have HQ := Lib.hid hq; clear hq
      have wac0 := has_cell wa 0 rfl; have wac1 := has_cell wa 1 rfl
      have walt := has_lt wa
      have tac0 := has_cell ta 0 rfl; have tac1 := has_cell ta 1 rfl; have tac2 := has_cell ta 2 rfl; have tac3 := has_cell ta 3 rfl; have tac4 := has_cell ta 4 rfl; have tac5 := has_cell ta 5 rfl; have tac6 := has_cell ta 6 rfl; have tac7 := has_cell ta 7 rfl
      have talt := has_lt ta
      have WAH := Lib.hid wa; clear wa
      have TAH := Lib.hid ta; clear ta
      have ZB := Lib.hid zb; clear zb
      go_wp2_with fail
      clear wac0 wac1 walt tac0 tac1 tac2 tac3 tac4 tac5 tac6 tac7 talt
      have wa := WAH.out; clear WAH
      have ta := TAH.out; clear TAH
      have zb := ZB.out; clear ZB
      refine (deadI_any _ w1.heap.size A1 A2 m m' o c t a n hlo' hlc' (by omega) SL_wk.out SL_wkk.out).mono ?_
      rintro e w6 ⟨rfl, hb⟩
      rw [HQ.out]
      have kk := SL.later SL_wk.out (by omega) hb; clear SL_wk; have SL_wk := Lib.hid kk; clear kk
      have kk := SL.later SL_wkk.out (by omega) hb; clear SL_wkk; have SL_wkk := Lib.hid kk; clear kk
      replace hbr := bthen hbr hb
      have hsw6 := hb.size
      replace wa := has_call wa hb
      replace ta := has_call ta hb
      replace zb := bthen zb hb; clear hb
      unfold pairV
      have wac0 := has_cell wa 0 rfl; have wac1 := has_cell wa 1 rfl
      have walt := has_lt wa
      have tac0 := has_cell ta 0 rfl; have tac1 := has_cell ta 1 rfl; have tac2 := has_cell ta 2 rfl; have tac3 := has_cell ta 3 rfl; have tac4 := has_cell ta 4 rfl; have tac5 := has_cell ta 5 rfl; have tac6 := has_cell ta 6 rfl; have tac7 := has_cell ta 7 rfl
      have talt := has_lt ta
      have WAH := Lib.hid wa; clear wa
      have TAH := Lib.hid ta; clear ta
      have ZB := Lib.hid zb; clear zb
      go_wp2_with fail
      clear wac0 wac1 walt tac0 tac1 tac2 tac3 tac4 tac5 tac6 tac7 talt
      have wa := WAH.out; clear WAH
      have ta := TAH.out; clear TAH
      have zb := ZB.out; clear ZB
      refine (deadS_any _ w1.heap.size A1 A2 m m' o c t a n hlo' hlc' (by omega) SL_wk.out SL_wkk.out).mono ?_
      rintro e w7 ⟨rfl, hb⟩
      rw [HQ.out]
      have kk := SL.later SL_wk.out (by omega) hb; clear SL_wk; have SL_wk := Lib.hid kk; clear kk
      have kk := SL.later SL_wkk.out (by omega) hb; clear SL_wkk; have SL_wkk := Lib.hid kk; clear kk
      replace hbr := bthen hbr hb
      have hsw7 := hb.size
      replace wa := has_call wa hb
      replace ta := has_call ta hb
      replace zb := bthen zb hb; clear hb
      unfold pairV
      have wac0 := has_cell wa 0 rfl; have wac1 := has_cell wa 1 rfl
      have walt := has_lt wa
      have tac0 := has_cell ta 0 rfl; have tac1 := has_cell ta 1 rfl; have tac2 := has_cell ta 2 rfl; have tac3 := has_cell ta 3 rfl; have tac4 := has_cell ta 4 rfl; have tac5 := has_cell ta 5 rfl; have tac6 := has_cell ta 6 rfl; have tac7 := has_cell ta 7 rfl
      have talt := has_lt ta
      have WAH := Lib.hid wa; clear wa
      have TAH := Lib.hid ta; clear ta
      have ZB := Lib.hid zb; clear zb
      go_wp2_with fail
      clear wac0 wac1 walt tac0 tac1 tac2 tac3 tac4 tac5 tac6 tac7 talt
      have wa := WAH.out; clear WAH
      have ta := TAH.out; clear TAH
      have zb := ZB.out; clear ZB
      by_cases hy : y < 20000
      · skip
        have hop := HOP.out hy; have hxp := HXP.out hy; have HO := Lib.hid hop; have HX := Lib.hid hxp; clear hop hxp
        have yw : IntKind.i64.wrap (y + 1) = y + 1 := IntWalk.i64_in _ (by omega)
        have dz : decide (y < 20000) = true := decide_eq_true hy
        have wac0 := has_cell wa 0 rfl; have wac1 := has_cell wa 1 rfl
        have walt := has_lt wa
        have tac0 := has_cell ta 0 rfl; have tac1 := has_cell ta 1 rfl; have tac2 := has_cell ta 2 rfl; have tac3 := has_cell ta 3 rfl; have tac4 := has_cell ta 4 rfl; have tac5 := has_cell ta 5 rfl; have tac6 := has_cell ta 6 rfl; have tac7 := has_cell ta 7 rfl
        have talt := has_lt ta
        have WAH := Lib.hid wa; clear wa
        have TAH := Lib.hid ta; clear ta
        have ZB := Lib.hid zb; clear zb
        try go_wp2_with fail
        have S0 : (fun W : World => (W.cell? ⟨w1.heap.size, 0, none⟩ = some (.slice A1 o.length m) ∧ W.cell? ⟨w1.heap.size, 1, none⟩ = some (.slice A2 c.length m') ∧ W.cell? ⟨w3.heap.size, 0, none⟩ = some (.int .i64 t.keep) ∧ W.cell? ⟨w3.heap.size, 1, none⟩ = some (.int .i64 t.free) ∧ W.cell? ⟨w3.heap.size, 2, none⟩ = some (.int .i64 t.step) ∧ W.cell? ⟨w3.heap.size, 3, none⟩ = some (.int .i64 t.rate) ∧ W.cell? ⟨w3.heap.size, 4, none⟩ = some (.int .i64 t.cap) ∧ W.cell? ⟨w3.heap.size, 5, none⟩ = some (.int .i64 t.longer) ∧ W.cell? ⟨w3.heap.size, 6, none⟩ = some (.int .i64 t.price) ∧ W.cell? ⟨w3.heap.size, 7, none⟩ = some (.int .i64 t.most)) ∧ Below w7.heap.size w7 W) w7.drew := ⟨⟨wac0, wac1, tac0, tac1, tac2, tac3, tac4, tac5, tac6, tac7⟩, (Below.refl _ _).drew⟩
        have zc := ZB.out; have hzz := zc.size; have hlwa9 := walt; have hlta9 := talt
        clear wac0 wac1 walt tac0 tac1 tac2 tac3 tac4 tac5 tac6 tac7 talt
        refine wp_region_held_drew (S := (fun W : World => (W.cell? ⟨w1.heap.size, 0, none⟩ = some (.slice A1 o.length m) ∧ W.cell? ⟨w1.heap.size, 1, none⟩ = some (.slice A2 c.length m') ∧ W.cell? ⟨w3.heap.size, 0, none⟩ = some (.int .i64 t.keep) ∧ W.cell? ⟨w3.heap.size, 1, none⟩ = some (.int .i64 t.free) ∧ W.cell? ⟨w3.heap.size, 2, none⟩ = some (.int .i64 t.step) ∧ W.cell? ⟨w3.heap.size, 3, none⟩ = some (.int .i64 t.rate) ∧ W.cell? ⟨w3.heap.size, 4, none⟩ = some (.int .i64 t.cap) ∧ W.cell? ⟨w3.heap.size, 5, none⟩ = some (.int .i64 t.longer) ∧ W.cell? ⟨w3.heap.size, 6, none⟩ = some (.int .i64 t.price) ∧ W.cell? ⟨w3.heap.size, 7, none⟩ = some (.int .i64 t.most)) ∧ Below w7.heap.size w7 W)) (by kernel_rfl) S0 (fun _ => ?_)
        refine any_take (i := 0) (some 72) (.int .i64 y) rfl rfl (by kernel_rfl) (by kernel_rfl) (by kernel_rfl) (fun _ _ _ h => h) rfl (fun W hSw => ?_) (S0) ?_
        · (try dsimp only at hSw); go_simp <;> with_reducible rfl
        try simp only [Act.put, List.setIfInBounds_toArray, List.set_cons_zero, List.set_cons_succ]
        refine any_take (i := 1) (some 73) (.int .i64 last) rfl rfl (by kernel_rfl) (by kernel_rfl) (by kernel_rfl) (fun _ _ _ h => h) rfl (fun W hSw => ?_) (S0) ?_
        · (try dsimp only at hSw); go_simp <;> with_reducible rfl
        try simp only [Act.put, List.setIfInBounds_toArray, List.set_cons_zero, List.set_cons_succ]
        refine any_take (i := 2) (some 74) (.bool false) rfl rfl (by kernel_rfl) (by kernel_rfl) (by kernel_rfl) (fun _ _ _ h => h) rfl (fun W hSw => ?_) (S0) ?_
        · (try dsimp only at hSw); go_simp <;> with_reducible rfl
        try simp only [Act.put, List.setIfInBounds_toArray, List.set_cons_zero, List.set_cons_succ]
        refine any_take (i := 3) (some 75) (.bool false) rfl rfl (by kernel_rfl) (by kernel_rfl) (by kernel_rfl) (fun _ _ _ h => h) rfl (fun W hSw => ?_) (S0) ?_
        · (try dsimp only at hSw); go_simp <;> with_reducible rfl
        try simp only [Act.put, List.setIfInBounds_toArray, List.set_cons_zero, List.set_cons_succ]
        refine any_take (i := 4) (some 76) (.agg #[.slice A1 o.length m, .slice A2 c.length m']) rfl rfl (by kernel_rfl) (by kernel_rfl) (by kernel_rfl) (fun _ _ _ h => h) rfl (fun W hSw => ?_) (S0) ?_
        · (try dsimp only at hSw); go_simp <;> with_reducible rfl
        try simp only [Act.put, List.setIfInBounds_toArray, List.set_cons_zero, List.set_cons_succ]
        refine any_take (i := 5) (some 77) (.agg #[.int .i64 t.keep, .int .i64 t.free, .int .i64 t.step, .int .i64 t.rate, .int .i64 t.cap, .int .i64 t.longer, .int .i64 t.price, .int .i64 t.most]) rfl rfl (by kernel_rfl) (by kernel_rfl) (by kernel_rfl) (fun _ _ _ h => h) rfl (fun W hSw => ?_) (S0) ?_
        · (try dsimp only at hSw); go_simp <;> with_reducible rfl
        try simp only [Act.put, List.setIfInBounds_toArray, List.set_cons_zero, List.set_cons_succ]
        refine any_take (i := 6) (some 78) (.int .i64 a) rfl rfl (by kernel_rfl) (by kernel_rfl) (by kernel_rfl) (fun _ _ _ h => h) rfl (fun W hSw => ?_) (S0) ?_
        · (try dsimp only at hSw); go_simp <;> with_reducible rfl
        try simp only [Act.put, List.setIfInBounds_toArray, List.set_cons_zero, List.set_cons_succ]
        refine any_take (i := 7) (some 79) (.int .i64 y) rfl rfl (by kernel_rfl) (by kernel_rfl) (by kernel_rfl) (fun _ _ _ h => h) rfl (fun W hSw => ?_) (S0) ?_
        · (try dsimp only at hSw); go_simp <;> with_reducible rfl
        try simp only [Act.put, List.setIfInBounds_toArray, List.set_cons_zero, List.set_cons_succ]
        refine any_take (i := 8) (some 80) (.int .i64 n) rfl rfl (by kernel_rfl) (by kernel_rfl) (by kernel_rfl) (fun _ _ _ h => h) rfl (fun W hSw => ?_) (S0) ?_
        · (try dsimp only at hSw); go_simp <;> with_reducible rfl
        try simp only [Act.put, List.setIfInBounds_toArray, List.set_cons_zero, List.set_cons_succ]
        refine wpAnyH_ready (rs := [9]) (by kernel_rfl) (by simp) ?_
        refine AllReadyH.cons rfl (fun K hK => ?_) AllReadyH.nil
        go_simp
        go_at_call 12
        refine (overI_any w7.drew w1.heap.size A1 A2 m m' o c t a y n hlo' hlc' (show w1.heap.size ≤ w7.heap.size by omega) (SL.later SL_wk.out (by omega) ((Below.refl w7.heap.size w7).drew)) (SL.later SL_wkk.out (by omega) ((Below.refl w7.heap.size w7).drew))).mono ?_
        rintro e wk1 ⟨rfl, hb8⟩
        rw [HOS.out]
        have hb9wk1 : Below w7.heap.size w7 wk1 := ((Below.refl w7.heap.size w7).drew).trans hb8
        have Swk1 : (fun W : World => (W.cell? ⟨w1.heap.size, 0, none⟩ = some (.slice A1 o.length m) ∧ W.cell? ⟨w1.heap.size, 1, none⟩ = some (.slice A2 c.length m') ∧ W.cell? ⟨w3.heap.size, 0, none⟩ = some (.int .i64 t.keep) ∧ W.cell? ⟨w3.heap.size, 1, none⟩ = some (.int .i64 t.free) ∧ W.cell? ⟨w3.heap.size, 2, none⟩ = some (.int .i64 t.step) ∧ W.cell? ⟨w3.heap.size, 3, none⟩ = some (.int .i64 t.rate) ∧ W.cell? ⟨w3.heap.size, 4, none⟩ = some (.int .i64 t.cap) ∧ W.cell? ⟨w3.heap.size, 5, none⟩ = some (.int .i64 t.longer) ∧ W.cell? ⟨w3.heap.size, 6, none⟩ = some (.int .i64 t.price) ∧ W.cell? ⟨w3.heap.size, 7, none⟩ = some (.int .i64 t.most)) ∧ Below w7.heap.size w7 W) wk1 := ⟨⟨(bold hb9wk1 _ _ (by omega)).trans S0.1.1, (bold hb9wk1 _ _ (by omega)).trans S0.1.2.1, (bold hb9wk1 _ _ (by omega)).trans S0.1.2.2.1, (bold hb9wk1 _ _ (by omega)).trans S0.1.2.2.2.1, (bold hb9wk1 _ _ (by omega)).trans S0.1.2.2.2.2.1, (bold hb9wk1 _ _ (by omega)).trans S0.1.2.2.2.2.2.1, (bold hb9wk1 _ _ (by omega)).trans S0.1.2.2.2.2.2.2.1, (bold hb9wk1 _ _ (by omega)).trans S0.1.2.2.2.2.2.2.2.1, (bold hb9wk1 _ _ (by omega)).trans S0.1.2.2.2.2.2.2.2.2.1, (bold hb9wk1 _ _ (by omega)).trans S0.1.2.2.2.2.2.2.2.2.2⟩, hb9wk1⟩
        clear hb8
        go_wp2_with fail
        refine hK.out _ _ Swk1 (fun _ => ?_)
        clear hK K
        try simp only [Act.put, List.setIfInBounds_toArray, List.set_cons_zero, List.set_cons_succ]
        refine any_take (i := 10) (some 82) (.bool false) rfl rfl (by kernel_rfl) (by kernel_rfl) (by kernel_rfl) (fun _ _ _ h => h) rfl (fun W hSw => ?_) (Swk1) ?_
        · (try dsimp only at hSw); go_simp <;> with_reducible rfl
        try simp only [Act.put, List.setIfInBounds_toArray, List.set_cons_zero, List.set_cons_succ]
        refine any_take (i := 11) (some 83) (.bool false) rfl rfl (by kernel_rfl) (by kernel_rfl) (by kernel_rfl) (fun _ _ _ h => h) rfl (fun W hSw => ?_) (Swk1) ?_
        · (try dsimp only at hSw); go_simp <;> with_reducible rfl
        try simp only [Act.put, List.setIfInBounds_toArray, List.set_cons_zero, List.set_cons_succ]
        refine any_take (i := 12) (some 84) (.int .i64 y) rfl rfl (by kernel_rfl) (by kernel_rfl) (by kernel_rfl) (fun _ _ _ h => h) rfl (fun W hSw => ?_) (Swk1) ?_
        · (try dsimp only at hSw); go_simp <;> with_reducible rfl
        try simp only [Act.put, List.setIfInBounds_toArray, List.set_cons_zero, List.set_cons_succ]
        refine any_take (i := 13) (some 85) (.bool true) rfl rfl (by kernel_rfl) (by kernel_rfl) (by kernel_rfl) (fun _ _ _ h => h) rfl (fun W hSw => ?_) (Swk1) ?_
        · (try dsimp only at hSw); go_simp <;> with_reducible rfl
        try simp only [Act.put, List.setIfInBounds_toArray, List.set_cons_zero, List.set_cons_succ]
        refine any_take (i := 14) (some 86) (.bool true) rfl rfl (by kernel_rfl) (by kernel_rfl) (by kernel_rfl) (fun _ _ _ h => h) rfl (fun W hSw => ?_) (Swk1) ?_
        · (try dsimp only at hSw); go_simp <;> with_reducible rfl
        try simp only [Act.put, List.setIfInBounds_toArray, List.set_cons_zero, List.set_cons_succ]
        refine any_take (i := 15) (some 87) (.agg #[.slice A1 o.length m, .slice A2 c.length m']) rfl rfl (by kernel_rfl) (by kernel_rfl) (by kernel_rfl) (fun _ _ _ h => h) rfl (fun W hSw => ?_) (Swk1) ?_
        · (try dsimp only at hSw); go_simp <;> with_reducible rfl
        try simp only [Act.put, List.setIfInBounds_toArray, List.set_cons_zero, List.set_cons_succ]
        refine any_take (i := 16) (some 88) (.agg #[.int .i64 t.keep, .int .i64 t.free, .int .i64 t.step, .int .i64 t.rate, .int .i64 t.cap, .int .i64 t.longer, .int .i64 t.price, .int .i64 t.most]) rfl rfl (by kernel_rfl) (by kernel_rfl) (by kernel_rfl) (fun _ _ _ h => h) rfl (fun W hSw => ?_) (Swk1) ?_
        · (try dsimp only at hSw); go_simp <;> with_reducible rfl
        try simp only [Act.put, List.setIfInBounds_toArray, List.set_cons_zero, List.set_cons_succ]
        refine any_take (i := 17) (some 89) (.int .i64 a) rfl rfl (by kernel_rfl) (by kernel_rfl) (by kernel_rfl) (fun _ _ _ h => h) rfl (fun W hSw => ?_) (Swk1) ?_
        · (try dsimp only at hSw); go_simp <;> with_reducible rfl
        try simp only [Act.put, List.setIfInBounds_toArray, List.set_cons_zero, List.set_cons_succ]
        refine any_take (i := 18) (some 90) (.int .i64 y) rfl rfl (by kernel_rfl) (by kernel_rfl) (by kernel_rfl) (fun _ _ _ h => h) rfl (fun W hSw => ?_) (Swk1) ?_
        · (try dsimp only at hSw); go_simp <;> with_reducible rfl
        try simp only [Act.put, List.setIfInBounds_toArray, List.set_cons_zero, List.set_cons_succ]
        refine any_take (i := 19) (some 91) (.int .i64 (y + 1)) rfl rfl (by kernel_rfl) (by kernel_rfl) (by kernel_rfl) (fun _ _ _ h => h) rfl (fun W hSw => ?_) (Swk1) ?_
        · (try dsimp only at hSw); go_simp <;> with_reducible rfl
        try simp only [Act.put, List.setIfInBounds_toArray, List.set_cons_zero, List.set_cons_succ]
        refine any_take (i := 20) (some 92) (.int .i64 n) rfl rfl (by kernel_rfl) (by kernel_rfl) (by kernel_rfl) (fun _ _ _ h => h) rfl (fun W hSw => ?_) (Swk1) ?_
        · (try dsimp only at hSw); go_simp <;> with_reducible rfl
        try simp only [Act.put, List.setIfInBounds_toArray, List.set_cons_zero, List.set_cons_succ]
        refine wpAnyH_ready (rs := [21]) (by kernel_rfl) (by simp) ?_
        refine AllReadyH.cons rfl (fun K hK => ?_) AllReadyH.nil
        go_simp
        go_at_call 12
        refine (overI_any wk1 w1.heap.size A1 A2 m m' o c t a (y + 1) n hlo' hlc' (show w1.heap.size ≤ wk1.heap.size by have := hb9wk1.size; omega) (SL.later SL_wk.out (by omega) hb9wk1) (SL.later SL_wkk.out (by omega) hb9wk1)).mono ?_
        rintro e wk2 ⟨rfl, hb8⟩
        rw [HO.out]
        have hb9wk2 : Below w7.heap.size w7 wk2 := bthen Swk1.2 hb8
        have Swk2 : (fun W : World => (W.cell? ⟨w1.heap.size, 0, none⟩ = some (.slice A1 o.length m) ∧ W.cell? ⟨w1.heap.size, 1, none⟩ = some (.slice A2 c.length m') ∧ W.cell? ⟨w3.heap.size, 0, none⟩ = some (.int .i64 t.keep) ∧ W.cell? ⟨w3.heap.size, 1, none⟩ = some (.int .i64 t.free) ∧ W.cell? ⟨w3.heap.size, 2, none⟩ = some (.int .i64 t.step) ∧ W.cell? ⟨w3.heap.size, 3, none⟩ = some (.int .i64 t.rate) ∧ W.cell? ⟨w3.heap.size, 4, none⟩ = some (.int .i64 t.cap) ∧ W.cell? ⟨w3.heap.size, 5, none⟩ = some (.int .i64 t.longer) ∧ W.cell? ⟨w3.heap.size, 6, none⟩ = some (.int .i64 t.price) ∧ W.cell? ⟨w3.heap.size, 7, none⟩ = some (.int .i64 t.most)) ∧ Below w7.heap.size w7 W) wk2 := ⟨⟨(bold hb9wk2 _ _ (by omega)).trans S0.1.1, (bold hb9wk2 _ _ (by omega)).trans S0.1.2.1, (bold hb9wk2 _ _ (by omega)).trans S0.1.2.2.1, (bold hb9wk2 _ _ (by omega)).trans S0.1.2.2.2.1, (bold hb9wk2 _ _ (by omega)).trans S0.1.2.2.2.2.1, (bold hb9wk2 _ _ (by omega)).trans S0.1.2.2.2.2.2.1, (bold hb9wk2 _ _ (by omega)).trans S0.1.2.2.2.2.2.2.1, (bold hb9wk2 _ _ (by omega)).trans S0.1.2.2.2.2.2.2.2.1, (bold hb9wk2 _ _ (by omega)).trans S0.1.2.2.2.2.2.2.2.2.1, (bold hb9wk2 _ _ (by omega)).trans S0.1.2.2.2.2.2.2.2.2.2⟩, hb9wk2⟩
        clear hb8
        go_wp2_with fail
        refine hK.out _ _ Swk2 (fun _ => ?_)
        clear hK K
        try simp only [Act.put, List.setIfInBounds_toArray, List.set_cons_zero, List.set_cons_succ]
        refine any_take (i := 22) (some 94) (.bool false) rfl rfl (by kernel_rfl) (by kernel_rfl) (by kernel_rfl) (fun _ _ _ h => h) rfl (fun W hSw => ?_) (Swk2) ?_
        · (try dsimp only at hSw); go_simp <;> with_reducible rfl
        try simp only [Act.put, List.setIfInBounds_toArray, List.set_cons_zero, List.set_cons_succ]
        refine any_take (i := 23) (some 95) (.bool false) rfl rfl (by kernel_rfl) (by kernel_rfl) (by kernel_rfl) (fun _ _ _ h => h) rfl (fun W hSw => ?_) (Swk2) ?_
        · (try dsimp only at hSw); go_simp <;> with_reducible rfl
        try simp only [Act.put, List.setIfInBounds_toArray, List.set_cons_zero, List.set_cons_succ]
        refine any_take (i := 24) (some 96) (.bool false) rfl rfl (by kernel_rfl) (by kernel_rfl) (by kernel_rfl) (fun _ _ _ h => h) rfl (fun W hSw => ?_) (Swk2) ?_
        · (try dsimp only at hSw); go_simp <;> with_reducible rfl
        try simp only [Act.put, List.setIfInBounds_toArray, List.set_cons_zero, List.set_cons_succ]
        refine any_take (i := 25) (some 97) (.bool false) rfl rfl (by kernel_rfl) (by kernel_rfl) (by kernel_rfl) (fun _ _ _ h => h) rfl (fun W hSw => ?_) (Swk2) ?_
        · (try dsimp only at hSw); go_simp <;> with_reducible rfl
        try simp only [Act.put, List.setIfInBounds_toArray, List.set_cons_zero, List.set_cons_succ]
        refine any_take (i := 26) (some 98) (.agg #[.slice A1 o.length m, .slice A2 c.length m']) rfl rfl (by kernel_rfl) (by kernel_rfl) (by kernel_rfl) (fun _ _ _ h => h) rfl (fun W hSw => ?_) (Swk2) ?_
        · (try dsimp only at hSw); go_simp <;> with_reducible rfl
        try simp only [Act.put, List.setIfInBounds_toArray, List.set_cons_zero, List.set_cons_succ]
        refine any_take (i := 27) (some 99) (.int .i64 a) rfl rfl (by kernel_rfl) (by kernel_rfl) (by kernel_rfl) (fun _ _ _ h => h) rfl (fun W hSw => ?_) (Swk2) ?_
        · (try dsimp only at hSw); go_simp <;> with_reducible rfl
        try simp only [Act.put, List.setIfInBounds_toArray, List.set_cons_zero, List.set_cons_succ]
        refine any_take (i := 28) (some 100) (.int .i64 y) rfl rfl (by kernel_rfl) (by kernel_rfl) (by kernel_rfl) (fun _ _ _ h => h) rfl (fun W hSw => ?_) (Swk2) ?_
        · (try dsimp only at hSw); go_simp <;> with_reducible rfl
        try simp only [Act.put, List.setIfInBounds_toArray, List.set_cons_zero, List.set_cons_succ]
        refine any_take (i := 30) (some 102) (.pointer (some ⟨w3.heap.size, 0, none⟩)) rfl rfl (by kernel_rfl) (by kernel_rfl) (by kernel_rfl) (fun _ _ _ h => h) rfl (fun W hSw => ?_) (Swk2) ?_
        · (try dsimp only at hSw); go_simp <;> with_reducible rfl
        try simp only [Act.put, List.setIfInBounds_toArray, List.set_cons_zero, List.set_cons_succ]
        refine any_take (i := 31) (some 103) (.int .i64 t.keep) rfl rfl (by kernel_rfl) (by kernel_rfl) (by kernel_rfl) (fun _ _ _ h => h) rfl (fun W hSw => ?_) (Swk2) ?_
        · (try dsimp only at hSw); go_simp <;> with_reducible rfl
        try simp only [Act.put, List.setIfInBounds_toArray, List.set_cons_zero, List.set_cons_succ]
        refine any_take (i := 32) (some 104) (.int .i64 n) rfl rfl (by kernel_rfl) (by kernel_rfl) (by kernel_rfl) (fun _ _ _ h => h) rfl (fun W hSw => ?_) (Swk2) ?_
        · (try dsimp only at hSw); go_simp <;> with_reducible rfl
        try simp only [Act.put, List.setIfInBounds_toArray, List.set_cons_zero, List.set_cons_succ]
        refine any_take (i := 33) (some 105) (.pointer (some ⟨w3.heap.size, 5, none⟩)) rfl rfl (by kernel_rfl) (by kernel_rfl) (by kernel_rfl) (fun _ _ _ h => h) rfl (fun W hSw => ?_) (Swk2) ?_
        · (try dsimp only at hSw); go_simp <;> with_reducible rfl
        try simp only [Act.put, List.setIfInBounds_toArray, List.set_cons_zero, List.set_cons_succ]
        refine any_take (i := 34) (some 106) (.int .i64 t.longer) rfl rfl (by kernel_rfl) (by kernel_rfl) (by kernel_rfl) (fun _ _ _ h => h) rfl (fun W hSw => ?_) (Swk2) ?_
        · (try dsimp only at hSw); go_simp <;> with_reducible rfl
        try simp only [Act.put, List.setIfInBounds_toArray, List.set_cons_zero, List.set_cons_succ]
        refine any_take (i := 35) (some 107) (.int .i64 k) rfl rfl (by kernel_rfl) (by kernel_rfl) (by kernel_rfl) (fun _ _ _ h => h) rfl (fun W hSw => ?_) (Swk2) ?_
        · (try dsimp only at hSw); go_simp <;> with_reducible rfl
        try simp only [Act.put, List.setIfInBounds_toArray, List.set_cons_zero, List.set_cons_succ]
        refine any_take (i := 36) (some 108) (.int .i64 (t.keep + k)) rfl rfl (by kernel_rfl) (by kernel_rfl) (by kernel_rfl) (fun _ _ _ h => h) rfl (fun W hSw => ?_) (Swk2) ?_
        · (try dsimp only at hSw); go_simp <;> with_reducible rfl
        try simp only [Act.put, List.setIfInBounds_toArray, List.set_cons_zero, List.set_cons_succ]
        refine wpAnyH_ready (rs := [29]) (by kernel_rfl) (by simp) ?_
        refine AllReadyH.cons rfl (fun K hK => ?_) AllReadyH.nil
        go_simp
        go_at_call 13
        refine (hoursI_any wk2 w1.heap.size A1 A2 m m' o c a y hlo' hlc' (show w1.heap.size ≤ wk2.heap.size by have := hb9wk2.size; omega) (SL.later SL_wk.out (by omega) hb9wk2) (SL.later SL_wkk.out (by omega) hb9wk2)).mono ?_
        rintro e wk3 ⟨rfl, hb8⟩
        rw [HHR.out]
        have hb9wk3 : Below w7.heap.size w7 wk3 := bthen Swk2.2 hb8
        have Swk3 : (fun W : World => (W.cell? ⟨w1.heap.size, 0, none⟩ = some (.slice A1 o.length m) ∧ W.cell? ⟨w1.heap.size, 1, none⟩ = some (.slice A2 c.length m') ∧ W.cell? ⟨w3.heap.size, 0, none⟩ = some (.int .i64 t.keep) ∧ W.cell? ⟨w3.heap.size, 1, none⟩ = some (.int .i64 t.free) ∧ W.cell? ⟨w3.heap.size, 2, none⟩ = some (.int .i64 t.step) ∧ W.cell? ⟨w3.heap.size, 3, none⟩ = some (.int .i64 t.rate) ∧ W.cell? ⟨w3.heap.size, 4, none⟩ = some (.int .i64 t.cap) ∧ W.cell? ⟨w3.heap.size, 5, none⟩ = some (.int .i64 t.longer) ∧ W.cell? ⟨w3.heap.size, 6, none⟩ = some (.int .i64 t.price) ∧ W.cell? ⟨w3.heap.size, 7, none⟩ = some (.int .i64 t.most)) ∧ Below w7.heap.size w7 W) wk3 := ⟨⟨(bold hb9wk3 _ _ (by omega)).trans S0.1.1, (bold hb9wk3 _ _ (by omega)).trans S0.1.2.1, (bold hb9wk3 _ _ (by omega)).trans S0.1.2.2.1, (bold hb9wk3 _ _ (by omega)).trans S0.1.2.2.2.1, (bold hb9wk3 _ _ (by omega)).trans S0.1.2.2.2.2.1, (bold hb9wk3 _ _ (by omega)).trans S0.1.2.2.2.2.2.1, (bold hb9wk3 _ _ (by omega)).trans S0.1.2.2.2.2.2.2.1, (bold hb9wk3 _ _ (by omega)).trans S0.1.2.2.2.2.2.2.2.1, (bold hb9wk3 _ _ (by omega)).trans S0.1.2.2.2.2.2.2.2.2.1, (bold hb9wk3 _ _ (by omega)).trans S0.1.2.2.2.2.2.2.2.2.2⟩, hb9wk3⟩
        clear hb8
        go_wp2_with fail
        refine hK.out _ _ Swk3 (fun _ => ?_)
        clear hK K
        try simp only [Act.put, List.setIfInBounds_toArray, List.set_cons_zero, List.set_cons_succ]
        refine any_take (i := 37) (some 109) (.bool false) rfl rfl (by kernel_rfl) (by kernel_rfl) (by kernel_rfl) (fun _ _ _ h => h) rfl (fun W hSw => ?_) (Swk3) ?_
        · (try dsimp only at hSw); go_simp <;> with_reducible rfl
        try simp only [Act.put, List.setIfInBounds_toArray, List.set_cons_zero, List.set_cons_succ]
        refine any_take (i := 38) (some 110) (.bool false) rfl rfl (by kernel_rfl) (by kernel_rfl) (by kernel_rfl) (fun _ _ _ h => h) rfl (fun W hSw => ?_) (Swk3) ?_
        · (try dsimp only at hSw); go_simp <;> with_reducible rfl
        try simp only [Act.put, List.setIfInBounds_toArray, List.set_cons_zero, List.set_cons_succ]
        refine wpAnyH_done (by kernel_rfl) ?_ _
        have hb : Below w7.heap.size w7 wk3 := Swk3.2
        clear S0 Swk1 hb9wk1 Swk2 hb9wk2 Swk3 hb9wk3 zc hzz hlwa9 hlta9
        have wa := WAH.out; clear WAH
        have ta := TAH.out; clear TAH
        have zb := ZB.out; clear ZB
        have kk := SL.later SL_wk.out (by omega) hb; clear SL_wk; have SL_wk := Lib.hid kk; clear kk
        have kk := SL.later SL_wkk.out (by omega) hb; clear SL_wkk; have SL_wkk := Lib.hid kk; clear kk
        replace hbr := bthen hbr hb
        have hswk3 := hb.size
        replace wa := has_call wa hb
        replace ta := has_call ta hb
        replace zb := bthen zb hb; clear hb
        clear dy nk dz yw
        obtain ⟨q, hq⟩ : ∃ q, deadB o c t a (n + 1) = q := ⟨_, rfl⟩
        have hex := HEX.out; rw [hq] at hex
        cases q with
        | none =>
          have HE := Lib.hid (show extB o c t a y n = false from hex); clear hex; have HN := Lib.hid hq; clear hq
          have wac0 := has_cell wa 0 rfl; have wac1 := has_cell wa 1 rfl
          have walt := has_lt wa
          have tac0 := has_cell ta 0 rfl; have tac1 := has_cell ta 1 rfl; have tac2 := has_cell ta 2 rfl; have tac3 := has_cell ta 3 rfl; have tac4 := has_cell ta 4 rfl; have tac5 := has_cell ta 5 rfl; have tac6 := has_cell ta 6 rfl; have tac7 := has_cell ta 7 rfl
          have talt := has_lt ta
          have WAH := Lib.hid wa; clear wa
          have TAH := Lib.hid ta; clear ta
          have ZB := Lib.hid zb; clear zb
          go_wp2_with fail
          clear wac0 wac1 walt tac0 tac1 tac2 tac3 tac4 tac5 tac6 tac7 talt
          have wa := WAH.out; clear WAH
          have ta := TAH.out; clear TAH
          have zb := ZB.out; clear ZB
          refine (deadS_any _ w1.heap.size A1 A2 m m' o c t a (n + 1) hlo' hlc' (by omega) SL_wk.out SL_wkk.out).mono ?_
          rintro e w9 ⟨rfl, hb⟩
          rw [HN.out]
          have kk := SL.later SL_wk.out (by omega) hb; clear SL_wk; have SL_wk := Lib.hid kk; clear kk
          have kk := SL.later SL_wkk.out (by omega) hb; clear SL_wkk; have SL_wkk := Lib.hid kk; clear kk
          replace hbr := bthen hbr hb
          have hsw9 := hb.size
          replace wa := has_call wa hb
          replace ta := has_call ta hb
          replace zb := bthen zb hb; clear hb
          unfold pairV
          have wac0 := has_cell wa 0 rfl; have wac1 := has_cell wa 1 rfl
          have walt := has_lt wa
          have tac0 := has_cell ta 0 rfl; have tac1 := has_cell ta 1 rfl; have tac2 := has_cell ta 2 rfl; have tac3 := has_cell ta 3 rfl; have tac4 := has_cell ta 4 rfl; have tac5 := has_cell ta 5 rfl; have tac6 := has_cell ta 6 rfl; have tac7 := has_cell ta 7 rfl
          have talt := has_lt ta
          have WAH := Lib.hid wa; clear wa
          have TAH := Lib.hid ta; clear ta
          have ZB := Lib.hid zb; clear zb
          go_wp2_with fail
          clear wac0 wac1 walt tac0 tac1 tac2 tac3 tac4 tac5 tac6 tac7 talt
          have wa := WAH.out; clear WAH
          have ta := TAH.out; clear TAH
          have zb := ZB.out; clear ZB
          refine (extI_any _ w1.heap.size A1 A2 m m' o c t a y n (by omega) (by omega) hlo' hlc' (by omega) SL_wk.out SL_wkk.out).mono ?_
          rintro e w10 ⟨rfl, hb⟩
          rw [HE.out]
          have kk := SL.later SL_wk.out (by omega) hb; clear SL_wk; have SL_wk := Lib.hid kk; clear kk
          have kk := SL.later SL_wkk.out (by omega) hb; clear SL_wkk; have SL_wkk := Lib.hid kk; clear kk
          replace hbr := bthen hbr hb
          have hsw10 := hb.size
          replace wa := has_call wa hb
          replace ta := has_call ta hb
          replace zb := bthen zb hb; clear hb
          have wac0 := has_cell wa 0 rfl; have wac1 := has_cell wa 1 rfl
          have walt := has_lt wa
          have tac0 := has_cell ta 0 rfl; have tac1 := has_cell ta 1 rfl; have tac2 := has_cell ta 2 rfl; have tac3 := has_cell ta 3 rfl; have tac4 := has_cell ta 4 rfl; have tac5 := has_cell ta 5 rfl; have tac6 := has_cell ta 6 rfl; have tac7 := has_cell ta 7 rfl
          have talt := has_lt ta
          have WAH := Lib.hid wa; clear wa
          have TAH := Lib.hid ta; clear ta
          have ZB := Lib.hid zb; clear zb
          go_wp2_with fail
          clear wac0 wac1 walt tac0 tac1 tac2 tac3 tac4 tac5 tac6 tac7 talt
          have wa := WAH.out; clear WAH
          have ta := TAH.out; clear TAH
          have zb := ZB.out; clear ZB
          refine (extI_any _ w1.heap.size A1 A2 m m' o c t a (y + 1) n (by omega) (by omega) hlo' hlc' (by omega) SL_wk.out SL_wkk.out).mono ?_
          rintro e w11 ⟨rfl, hb⟩
          rw [HX.out]
          have kk := SL.later SL_wk.out (by omega) hb; clear SL_wk; have SL_wk := Lib.hid kk; clear kk
          have kk := SL.later SL_wkk.out (by omega) hb; clear SL_wkk; have SL_wkk := Lib.hid kk; clear kk
          replace hbr := bthen hbr hb
          have hsw11 := hb.size
          replace wa := has_call wa hb
          replace ta := has_call ta hb
          replace zb := bthen zb hb; clear hb
          by_cases hu : a + d ≤ y
          · skip
            by_cases hm9 : m9 < 0
            · skip
              have R2 := Lib.hid (least_hit6 n0 HQ.out hu hm9 HLE.out)
              have wac0 := has_cell wa 0 rfl; have wac1 := has_cell wa 1 rfl
              have walt := has_lt wa
              have tac0 := has_cell ta 0 rfl; have tac1 := has_cell ta 1 rfl; have tac2 := has_cell ta 2 rfl; have tac3 := has_cell ta 3 rfl; have tac4 := has_cell ta 4 rfl; have tac5 := has_cell ta 5 rfl; have tac6 := has_cell ta 6 rfl; have tac7 := has_cell ta 7 rfl
              have talt := has_lt ta
              have WAH := Lib.hid wa; clear wa
              have TAH := Lib.hid ta; clear ta
              have ZB := Lib.hid zb; clear zb
              go_wp2_with fail
              clear wac0 wac1 walt tac0 tac1 tac2 tac3 tac4 tac5 tac6 tac7 talt
              have wa := WAH.out; clear WAH
              have ta := TAH.out; clear TAH
              have zb := ZB.out; clear ZB
              go_roundw
              case rel => exact ⟨n + 1, y, n, by omega, by omega, rfl, rfl, rfl, by omega, by omega, by omega, by omega, R1.out, R2.out, hbr⟩
              case measure => simp [intOf]; omega
            · skip
              have R2 := Lib.hid (least_keep6 hm9 HLE.out)
              have wac0 := has_cell wa 0 rfl; have wac1 := has_cell wa 1 rfl
              have walt := has_lt wa
              have tac0 := has_cell ta 0 rfl; have tac1 := has_cell ta 1 rfl; have tac2 := has_cell ta 2 rfl; have tac3 := has_cell ta 3 rfl; have tac4 := has_cell ta 4 rfl; have tac5 := has_cell ta 5 rfl; have tac6 := has_cell ta 6 rfl; have tac7 := has_cell ta 7 rfl
              have talt := has_lt ta
              have WAH := Lib.hid wa; clear wa
              have TAH := Lib.hid ta; clear ta
              have ZB := Lib.hid zb; clear zb
              go_wp2_with fail
              clear wac0 wac1 walt tac0 tac1 tac2 tac3 tac4 tac5 tac6 tac7 talt
              have wa := WAH.out; clear WAH
              have ta := TAH.out; clear TAH
              have zb := ZB.out; clear ZB
              go_roundw
              case rel => exact ⟨n + 1, y, m9, by omega, by omega, rfl, rfl, rfl, by omega, by omega, by omega, by omega, R1.out, R2.out, hbr⟩
              case measure => simp [intOf]; omega
          · skip
            have R2 := Lib.hid (least_low6 HQ.out hu HLE.out)
            have wac0 := has_cell wa 0 rfl; have wac1 := has_cell wa 1 rfl
            have walt := has_lt wa
            have tac0 := has_cell ta 0 rfl; have tac1 := has_cell ta 1 rfl; have tac2 := has_cell ta 2 rfl; have tac3 := has_cell ta 3 rfl; have tac4 := has_cell ta 4 rfl; have tac5 := has_cell ta 5 rfl; have tac6 := has_cell ta 6 rfl; have tac7 := has_cell ta 7 rfl
            have talt := has_lt ta
            have WAH := Lib.hid wa; clear wa
            have TAH := Lib.hid ta; clear ta
            have ZB := Lib.hid zb; clear zb
            go_wp2_with fail
            clear wac0 wac1 walt tac0 tac1 tac2 tac3 tac4 tac5 tac6 tac7 talt
            have wa := WAH.out; clear WAH
            have ta := TAH.out; clear TAH
            have zb := ZB.out; clear ZB
            go_roundw
            case rel => exact ⟨n + 1, y, m9, by omega, by omega, rfl, rfl, rfl, by omega, by omega, by omega, by omega, R1.out, R2.out, hbr⟩
            case measure => simp [intOf]; omega
        | some z =>
          have HE := Lib.hid (show extB o c t a y n = true from hex); clear hex; have HN := Lib.hid hq; clear hq
          have wac0 := has_cell wa 0 rfl; have wac1 := has_cell wa 1 rfl
          have walt := has_lt wa
          have tac0 := has_cell ta 0 rfl; have tac1 := has_cell ta 1 rfl; have tac2 := has_cell ta 2 rfl; have tac3 := has_cell ta 3 rfl; have tac4 := has_cell ta 4 rfl; have tac5 := has_cell ta 5 rfl; have tac6 := has_cell ta 6 rfl; have tac7 := has_cell ta 7 rfl
          have talt := has_lt ta
          have WAH := Lib.hid wa; clear wa
          have TAH := Lib.hid ta; clear ta
          have ZB := Lib.hid zb; clear zb
          go_wp2_with fail
          clear wac0 wac1 walt tac0 tac1 tac2 tac3 tac4 tac5 tac6 tac7 talt
          have wa := WAH.out; clear WAH
          have ta := TAH.out; clear TAH
          have zb := ZB.out; clear ZB
          refine (deadS_any _ w1.heap.size A1 A2 m m' o c t a (n + 1) hlo' hlc' (by omega) SL_wk.out SL_wkk.out).mono ?_
          rintro e w9 ⟨rfl, hb⟩
          rw [HN.out]
          have kk := SL.later SL_wk.out (by omega) hb; clear SL_wk; have SL_wk := Lib.hid kk; clear kk
          have kk := SL.later SL_wkk.out (by omega) hb; clear SL_wkk; have SL_wkk := Lib.hid kk; clear kk
          replace hbr := bthen hbr hb
          have hsw9 := hb.size
          replace wa := has_call wa hb
          replace ta := has_call ta hb
          replace zb := bthen zb hb; clear hb
          unfold pairV
          have wac0 := has_cell wa 0 rfl; have wac1 := has_cell wa 1 rfl
          have walt := has_lt wa
          have tac0 := has_cell ta 0 rfl; have tac1 := has_cell ta 1 rfl; have tac2 := has_cell ta 2 rfl; have tac3 := has_cell ta 3 rfl; have tac4 := has_cell ta 4 rfl; have tac5 := has_cell ta 5 rfl; have tac6 := has_cell ta 6 rfl; have tac7 := has_cell ta 7 rfl
          have talt := has_lt ta
          have WAH := Lib.hid wa; clear wa
          have TAH := Lib.hid ta; clear ta
          have ZB := Lib.hid zb; clear zb
          go_wp2_with fail
          clear wac0 wac1 walt tac0 tac1 tac2 tac3 tac4 tac5 tac6 tac7 talt
          have wa := WAH.out; clear WAH
          have ta := TAH.out; clear TAH
          have zb := ZB.out; clear ZB
          refine (extI_any _ w1.heap.size A1 A2 m m' o c t a y n (by omega) (by omega) hlo' hlc' (by omega) SL_wk.out SL_wkk.out).mono ?_
          rintro e w10 ⟨rfl, hb⟩
          rw [HE.out]
          have kk := SL.later SL_wk.out (by omega) hb; clear SL_wk; have SL_wk := Lib.hid kk; clear kk
          have kk := SL.later SL_wkk.out (by omega) hb; clear SL_wkk; have SL_wkk := Lib.hid kk; clear kk
          replace hbr := bthen hbr hb
          have hsw10 := hb.size
          replace wa := has_call wa hb
          replace ta := has_call ta hb
          replace zb := bthen zb hb; clear hb
          have wac0 := has_cell wa 0 rfl; have wac1 := has_cell wa 1 rfl
          have walt := has_lt wa
          have tac0 := has_cell ta 0 rfl; have tac1 := has_cell ta 1 rfl; have tac2 := has_cell ta 2 rfl; have tac3 := has_cell ta 3 rfl; have tac4 := has_cell ta 4 rfl; have tac5 := has_cell ta 5 rfl; have tac6 := has_cell ta 6 rfl; have tac7 := has_cell ta 7 rfl
          have talt := has_lt ta
          have WAH := Lib.hid wa; clear wa
          have TAH := Lib.hid ta; clear ta
          have ZB := Lib.hid zb; clear zb
          go_wp2_with fail
          clear wac0 wac1 walt tac0 tac1 tac2 tac3 tac4 tac5 tac6 tac7 talt
          have wa := WAH.out; clear WAH
          have ta := TAH.out; clear TAH
          have zb := ZB.out; clear ZB
          refine (extI_any _ w1.heap.size A1 A2 m m' o c t a (y + 1) n (by omega) (by omega) hlo' hlc' (by omega) SL_wk.out SL_wkk.out).mono ?_
          rintro e w11 ⟨rfl, hb⟩
          rw [HX.out]
          have kk := SL.later SL_wk.out (by omega) hb; clear SL_wk; have SL_wk := Lib.hid kk; clear kk
          have kk := SL.later SL_wkk.out (by omega) hb; clear SL_wkk; have SL_wkk := Lib.hid kk; clear kk
          replace hbr := bthen hbr hb
          have hsw11 := hb.size
          replace wa := has_call wa hb
          replace ta := has_call ta hb
          replace zb := bthen zb hb; clear hb
          by_cases hu : a + d ≤ y
          · skip
            by_cases hm9 : m9 < 0
            · skip
              have R2 := Lib.hid (least_hit6 n0 HQ.out hu hm9 HLE.out)
              have wac0 := has_cell wa 0 rfl; have wac1 := has_cell wa 1 rfl
              have walt := has_lt wa
              have tac0 := has_cell ta 0 rfl; have tac1 := has_cell ta 1 rfl; have tac2 := has_cell ta 2 rfl; have tac3 := has_cell ta 3 rfl; have tac4 := has_cell ta 4 rfl; have tac5 := has_cell ta 5 rfl; have tac6 := has_cell ta 6 rfl; have tac7 := has_cell ta 7 rfl
              have talt := has_lt ta
              have WAH := Lib.hid wa; clear wa
              have TAH := Lib.hid ta; clear ta
              have ZB := Lib.hid zb; clear zb
              go_wp2_with fail
              clear wac0 wac1 walt tac0 tac1 tac2 tac3 tac4 tac5 tac6 tac7 talt
              have wa := WAH.out; clear WAH
              have ta := TAH.out; clear TAH
              have zb := ZB.out; clear ZB
              go_roundw
              case rel => exact ⟨n + 1, y, n, by omega, by omega, rfl, rfl, rfl, by omega, by omega, by omega, by omega, R1.out, R2.out, hbr⟩
              case measure => simp [intOf]; omega
            · skip
              have R2 := Lib.hid (least_keep6 hm9 HLE.out)
              have wac0 := has_cell wa 0 rfl; have wac1 := has_cell wa 1 rfl
              have walt := has_lt wa
              have tac0 := has_cell ta 0 rfl; have tac1 := has_cell ta 1 rfl; have tac2 := has_cell ta 2 rfl; have tac3 := has_cell ta 3 rfl; have tac4 := has_cell ta 4 rfl; have tac5 := has_cell ta 5 rfl; have tac6 := has_cell ta 6 rfl; have tac7 := has_cell ta 7 rfl
              have talt := has_lt ta
              have WAH := Lib.hid wa; clear wa
              have TAH := Lib.hid ta; clear ta
              have ZB := Lib.hid zb; clear zb
              go_wp2_with fail
              clear wac0 wac1 walt tac0 tac1 tac2 tac3 tac4 tac5 tac6 tac7 talt
              have wa := WAH.out; clear WAH
              have ta := TAH.out; clear TAH
              have zb := ZB.out; clear ZB
              go_roundw
              case rel => exact ⟨n + 1, y, m9, by omega, by omega, rfl, rfl, rfl, by omega, by omega, by omega, by omega, R1.out, R2.out, hbr⟩
              case measure => simp [intOf]; omega
          · skip
            have R2 := Lib.hid (least_low6 HQ.out hu HLE.out)
            have wac0 := has_cell wa 0 rfl; have wac1 := has_cell wa 1 rfl
            have walt := has_lt wa
            have tac0 := has_cell ta 0 rfl; have tac1 := has_cell ta 1 rfl; have tac2 := has_cell ta 2 rfl; have tac3 := has_cell ta 3 rfl; have tac4 := has_cell ta 4 rfl; have tac5 := has_cell ta 5 rfl; have tac6 := has_cell ta 6 rfl; have tac7 := has_cell ta 7 rfl
            have talt := has_lt ta
            have WAH := Lib.hid wa; clear wa
            have TAH := Lib.hid ta; clear ta
            have ZB := Lib.hid zb; clear zb
            go_wp2_with fail
            clear wac0 wac1 walt tac0 tac1 tac2 tac3 tac4 tac5 tac6 tac7 talt
            have wa := WAH.out; clear WAH
            have ta := TAH.out; clear TAH
            have zb := ZB.out; clear ZB
            go_roundw
            case rel => exact ⟨n + 1, y, m9, by omega, by omega, rfl, rfl, rfl, by omega, by omega, by omega, by omega, R1.out, R2.out, hbr⟩
            case measure => simp [intOf]; omega
      · skip
        have dz : decide (y < 20000) = false := decide_eq_false hy
        have wac0 := has_cell wa 0 rfl; have wac1 := has_cell wa 1 rfl
        have walt := has_lt wa
        have tac0 := has_cell ta 0 rfl; have tac1 := has_cell ta 1 rfl; have tac2 := has_cell ta 2 rfl; have tac3 := has_cell ta 3 rfl; have tac4 := has_cell ta 4 rfl; have tac5 := has_cell ta 5 rfl; have tac6 := has_cell ta 6 rfl; have tac7 := has_cell ta 7 rfl
        have talt := has_lt ta
        have WAH := Lib.hid wa; clear wa
        have TAH := Lib.hid ta; clear ta
        have ZB := Lib.hid zb; clear zb
        try go_wp2_with fail
        have S0 : (fun W : World => (W.cell? ⟨w1.heap.size, 0, none⟩ = some (.slice A1 o.length m) ∧ W.cell? ⟨w1.heap.size, 1, none⟩ = some (.slice A2 c.length m') ∧ W.cell? ⟨w3.heap.size, 0, none⟩ = some (.int .i64 t.keep) ∧ W.cell? ⟨w3.heap.size, 1, none⟩ = some (.int .i64 t.free) ∧ W.cell? ⟨w3.heap.size, 2, none⟩ = some (.int .i64 t.step) ∧ W.cell? ⟨w3.heap.size, 3, none⟩ = some (.int .i64 t.rate) ∧ W.cell? ⟨w3.heap.size, 4, none⟩ = some (.int .i64 t.cap) ∧ W.cell? ⟨w3.heap.size, 5, none⟩ = some (.int .i64 t.longer) ∧ W.cell? ⟨w3.heap.size, 6, none⟩ = some (.int .i64 t.price) ∧ W.cell? ⟨w3.heap.size, 7, none⟩ = some (.int .i64 t.most)) ∧ Below w7.heap.size w7 W) w7.drew := ⟨⟨wac0, wac1, tac0, tac1, tac2, tac3, tac4, tac5, tac6, tac7⟩, (Below.refl _ _).drew⟩
        have zc := ZB.out; have hzz := zc.size; have hlwa9 := walt; have hlta9 := talt
        clear wac0 wac1 walt tac0 tac1 tac2 tac3 tac4 tac5 tac6 tac7 talt
        refine wp_region_held_drew (S := (fun W : World => (W.cell? ⟨w1.heap.size, 0, none⟩ = some (.slice A1 o.length m) ∧ W.cell? ⟨w1.heap.size, 1, none⟩ = some (.slice A2 c.length m') ∧ W.cell? ⟨w3.heap.size, 0, none⟩ = some (.int .i64 t.keep) ∧ W.cell? ⟨w3.heap.size, 1, none⟩ = some (.int .i64 t.free) ∧ W.cell? ⟨w3.heap.size, 2, none⟩ = some (.int .i64 t.step) ∧ W.cell? ⟨w3.heap.size, 3, none⟩ = some (.int .i64 t.rate) ∧ W.cell? ⟨w3.heap.size, 4, none⟩ = some (.int .i64 t.cap) ∧ W.cell? ⟨w3.heap.size, 5, none⟩ = some (.int .i64 t.longer) ∧ W.cell? ⟨w3.heap.size, 6, none⟩ = some (.int .i64 t.price) ∧ W.cell? ⟨w3.heap.size, 7, none⟩ = some (.int .i64 t.most)) ∧ Below w7.heap.size w7 W)) (by kernel_rfl) S0 (fun _ => ?_)
        refine any_take (i := 0) (some 72) (.int .i64 y) rfl rfl (by kernel_rfl) (by kernel_rfl) (by kernel_rfl) (fun _ _ _ h => h) rfl (fun W hSw => ?_) (S0) ?_
        · (try dsimp only at hSw); go_simp <;> with_reducible rfl
        try simp only [Act.put, List.setIfInBounds_toArray, List.set_cons_zero, List.set_cons_succ]
        refine any_take (i := 1) (some 73) (.int .i64 last) rfl rfl (by kernel_rfl) (by kernel_rfl) (by kernel_rfl) (fun _ _ _ h => h) rfl (fun W hSw => ?_) (S0) ?_
        · (try dsimp only at hSw); go_simp <;> with_reducible rfl
        try simp only [Act.put, List.setIfInBounds_toArray, List.set_cons_zero, List.set_cons_succ]
        refine any_take (i := 2) (some 74) (.bool false) rfl rfl (by kernel_rfl) (by kernel_rfl) (by kernel_rfl) (fun _ _ _ h => h) rfl (fun W hSw => ?_) (S0) ?_
        · (try dsimp only at hSw); go_simp <;> with_reducible rfl
        try simp only [Act.put, List.setIfInBounds_toArray, List.set_cons_zero, List.set_cons_succ]
        refine any_take (i := 3) (some 75) (.bool false) rfl rfl (by kernel_rfl) (by kernel_rfl) (by kernel_rfl) (fun _ _ _ h => h) rfl (fun W hSw => ?_) (S0) ?_
        · (try dsimp only at hSw); go_simp <;> with_reducible rfl
        try simp only [Act.put, List.setIfInBounds_toArray, List.set_cons_zero, List.set_cons_succ]
        refine any_take (i := 4) (some 76) (.agg #[.slice A1 o.length m, .slice A2 c.length m']) rfl rfl (by kernel_rfl) (by kernel_rfl) (by kernel_rfl) (fun _ _ _ h => h) rfl (fun W hSw => ?_) (S0) ?_
        · (try dsimp only at hSw); go_simp <;> with_reducible rfl
        try simp only [Act.put, List.setIfInBounds_toArray, List.set_cons_zero, List.set_cons_succ]
        refine any_take (i := 5) (some 77) (.agg #[.int .i64 t.keep, .int .i64 t.free, .int .i64 t.step, .int .i64 t.rate, .int .i64 t.cap, .int .i64 t.longer, .int .i64 t.price, .int .i64 t.most]) rfl rfl (by kernel_rfl) (by kernel_rfl) (by kernel_rfl) (fun _ _ _ h => h) rfl (fun W hSw => ?_) (S0) ?_
        · (try dsimp only at hSw); go_simp <;> with_reducible rfl
        try simp only [Act.put, List.setIfInBounds_toArray, List.set_cons_zero, List.set_cons_succ]
        refine any_take (i := 6) (some 78) (.int .i64 a) rfl rfl (by kernel_rfl) (by kernel_rfl) (by kernel_rfl) (fun _ _ _ h => h) rfl (fun W hSw => ?_) (S0) ?_
        · (try dsimp only at hSw); go_simp <;> with_reducible rfl
        try simp only [Act.put, List.setIfInBounds_toArray, List.set_cons_zero, List.set_cons_succ]
        refine any_take (i := 7) (some 79) (.int .i64 y) rfl rfl (by kernel_rfl) (by kernel_rfl) (by kernel_rfl) (fun _ _ _ h => h) rfl (fun W hSw => ?_) (S0) ?_
        · (try dsimp only at hSw); go_simp <;> with_reducible rfl
        try simp only [Act.put, List.setIfInBounds_toArray, List.set_cons_zero, List.set_cons_succ]
        refine any_take (i := 8) (some 80) (.int .i64 n) rfl rfl (by kernel_rfl) (by kernel_rfl) (by kernel_rfl) (fun _ _ _ h => h) rfl (fun W hSw => ?_) (S0) ?_
        · (try dsimp only at hSw); go_simp <;> with_reducible rfl
        try simp only [Act.put, List.setIfInBounds_toArray, List.set_cons_zero, List.set_cons_succ]
        refine wpAnyH_ready (rs := [9]) (by kernel_rfl) (by simp) ?_
        refine AllReadyH.cons rfl (fun K hK => ?_) AllReadyH.nil
        go_simp
        go_at_call 12
        refine (overI_any w7.drew w1.heap.size A1 A2 m m' o c t a y n hlo' hlc' (show w1.heap.size ≤ w7.heap.size by omega) (SL.later SL_wk.out (by omega) ((Below.refl w7.heap.size w7).drew)) (SL.later SL_wkk.out (by omega) ((Below.refl w7.heap.size w7).drew))).mono ?_
        rintro e wk1 ⟨rfl, hb8⟩
        rw [HOS.out]
        have hb9wk1 : Below w7.heap.size w7 wk1 := ((Below.refl w7.heap.size w7).drew).trans hb8
        have Swk1 : (fun W : World => (W.cell? ⟨w1.heap.size, 0, none⟩ = some (.slice A1 o.length m) ∧ W.cell? ⟨w1.heap.size, 1, none⟩ = some (.slice A2 c.length m') ∧ W.cell? ⟨w3.heap.size, 0, none⟩ = some (.int .i64 t.keep) ∧ W.cell? ⟨w3.heap.size, 1, none⟩ = some (.int .i64 t.free) ∧ W.cell? ⟨w3.heap.size, 2, none⟩ = some (.int .i64 t.step) ∧ W.cell? ⟨w3.heap.size, 3, none⟩ = some (.int .i64 t.rate) ∧ W.cell? ⟨w3.heap.size, 4, none⟩ = some (.int .i64 t.cap) ∧ W.cell? ⟨w3.heap.size, 5, none⟩ = some (.int .i64 t.longer) ∧ W.cell? ⟨w3.heap.size, 6, none⟩ = some (.int .i64 t.price) ∧ W.cell? ⟨w3.heap.size, 7, none⟩ = some (.int .i64 t.most)) ∧ Below w7.heap.size w7 W) wk1 := ⟨⟨(bold hb9wk1 _ _ (by omega)).trans S0.1.1, (bold hb9wk1 _ _ (by omega)).trans S0.1.2.1, (bold hb9wk1 _ _ (by omega)).trans S0.1.2.2.1, (bold hb9wk1 _ _ (by omega)).trans S0.1.2.2.2.1, (bold hb9wk1 _ _ (by omega)).trans S0.1.2.2.2.2.1, (bold hb9wk1 _ _ (by omega)).trans S0.1.2.2.2.2.2.1, (bold hb9wk1 _ _ (by omega)).trans S0.1.2.2.2.2.2.2.1, (bold hb9wk1 _ _ (by omega)).trans S0.1.2.2.2.2.2.2.2.1, (bold hb9wk1 _ _ (by omega)).trans S0.1.2.2.2.2.2.2.2.2.1, (bold hb9wk1 _ _ (by omega)).trans S0.1.2.2.2.2.2.2.2.2.2⟩, hb9wk1⟩
        clear hb8
        go_wp2_with fail
        refine hK.out _ _ Swk1 (fun _ => ?_)
        clear hK K
        try simp only [Act.put, List.setIfInBounds_toArray, List.set_cons_zero, List.set_cons_succ]
        refine any_take (i := 10) (some 82) (.bool false) rfl rfl (by kernel_rfl) (by kernel_rfl) (by kernel_rfl) (fun _ _ _ h => h) rfl (fun W hSw => ?_) (Swk1) ?_
        · (try dsimp only at hSw); go_simp <;> with_reducible rfl
        try simp only [Act.put, List.setIfInBounds_toArray, List.set_cons_zero, List.set_cons_succ]
        refine any_take (i := 11) (some 83) (.bool false) rfl rfl (by kernel_rfl) (by kernel_rfl) (by kernel_rfl) (fun _ _ _ h => h) rfl (fun W hSw => ?_) (Swk1) ?_
        · (try dsimp only at hSw); go_simp <;> with_reducible rfl
        try simp only [Act.put, List.setIfInBounds_toArray, List.set_cons_zero, List.set_cons_succ]
        refine any_take (i := 12) (some 84) (.int .i64 y) rfl rfl (by kernel_rfl) (by kernel_rfl) (by kernel_rfl) (fun _ _ _ h => h) rfl (fun W hSw => ?_) (Swk1) ?_
        · (try dsimp only at hSw); go_simp <;> with_reducible rfl
        try simp only [Act.put, List.setIfInBounds_toArray, List.set_cons_zero, List.set_cons_succ]
        refine any_take (i := 13) (some 85) (.bool false) rfl rfl (by kernel_rfl) (by kernel_rfl) (by kernel_rfl) (fun _ _ _ h => h) rfl (fun W hSw => ?_) (Swk1) ?_
        · (try dsimp only at hSw); go_simp <;> with_reducible rfl
        try simp only [Act.put, List.setIfInBounds_toArray, List.set_cons_zero, List.set_cons_succ]
        refine any_take (i := 14) (some 86) (.bool false) rfl rfl (by kernel_rfl) (by kernel_rfl) (by kernel_rfl) (fun _ _ _ h => h) rfl (fun W hSw => ?_) (Swk1) ?_
        · (try dsimp only at hSw); go_simp <;> with_reducible rfl
        try simp only [Act.put, List.setIfInBounds_toArray, List.set_cons_zero, List.set_cons_succ]
        refine any_skip (i := 15) (some 87) rfl rfl (by kernel_rfl) (by kernel_rfl) (by kernel_rfl) (fun _ _ _ h => h) rfl (Swk1) ?_
        try simp only [Act.put, List.setIfInBounds_toArray, List.set_cons_zero, List.set_cons_succ]
        refine any_skip (i := 16) (some 88) rfl rfl (by kernel_rfl) (by kernel_rfl) (by kernel_rfl) (fun _ _ _ h => h) rfl (Swk1) ?_
        try simp only [Act.put, List.setIfInBounds_toArray, List.set_cons_zero, List.set_cons_succ]
        refine any_skip (i := 17) (some 89) rfl rfl (by kernel_rfl) (by kernel_rfl) (by kernel_rfl) (fun _ _ _ h => h) rfl (Swk1) ?_
        try simp only [Act.put, List.setIfInBounds_toArray, List.set_cons_zero, List.set_cons_succ]
        refine any_skip (i := 18) (some 90) rfl rfl (by kernel_rfl) (by kernel_rfl) (by kernel_rfl) (fun _ _ _ h => h) rfl (Swk1) ?_
        try simp only [Act.put, List.setIfInBounds_toArray, List.set_cons_zero, List.set_cons_succ]
        refine any_skip (i := 19) (some 91) rfl rfl (by kernel_rfl) (by kernel_rfl) (by kernel_rfl) (fun _ _ _ h => h) rfl (Swk1) ?_
        try simp only [Act.put, List.setIfInBounds_toArray, List.set_cons_zero, List.set_cons_succ]
        refine any_skip (i := 20) (some 92) rfl rfl (by kernel_rfl) (by kernel_rfl) (by kernel_rfl) (fun _ _ _ h => h) rfl (Swk1) ?_
        try simp only [Act.put, List.setIfInBounds_toArray, List.set_cons_zero, List.set_cons_succ]
        refine any_skip (i := 21) (some 93) rfl rfl (by kernel_rfl) (by kernel_rfl) (by kernel_rfl) (fun _ _ _ h => h) rfl (Swk1) ?_
        try simp only [Act.put, List.setIfInBounds_toArray, List.set_cons_zero, List.set_cons_succ]
        refine any_skip (i := 22) (some 94) rfl rfl (by kernel_rfl) (by kernel_rfl) (by kernel_rfl) (fun _ _ _ h => h) rfl (Swk1) ?_
        try simp only [Act.put, List.setIfInBounds_toArray, List.set_cons_zero, List.set_cons_succ]
        refine any_take (i := 23) (some 95) (.bool false) rfl rfl (by kernel_rfl) (by kernel_rfl) (by kernel_rfl) (fun _ _ _ h => h) rfl (fun W hSw => ?_) (Swk1) ?_
        · (try dsimp only at hSw); go_simp <;> with_reducible rfl
        try simp only [Act.put, List.setIfInBounds_toArray, List.set_cons_zero, List.set_cons_succ]
        refine any_take (i := 24) (some 96) (.bool false) rfl rfl (by kernel_rfl) (by kernel_rfl) (by kernel_rfl) (fun _ _ _ h => h) rfl (fun W hSw => ?_) (Swk1) ?_
        · (try dsimp only at hSw); go_simp <;> with_reducible rfl
        try simp only [Act.put, List.setIfInBounds_toArray, List.set_cons_zero, List.set_cons_succ]
        refine any_take (i := 25) (some 97) (.bool false) rfl rfl (by kernel_rfl) (by kernel_rfl) (by kernel_rfl) (fun _ _ _ h => h) rfl (fun W hSw => ?_) (Swk1) ?_
        · (try dsimp only at hSw); go_simp <;> with_reducible rfl
        try simp only [Act.put, List.setIfInBounds_toArray, List.set_cons_zero, List.set_cons_succ]
        refine any_take (i := 26) (some 98) (.agg #[.slice A1 o.length m, .slice A2 c.length m']) rfl rfl (by kernel_rfl) (by kernel_rfl) (by kernel_rfl) (fun _ _ _ h => h) rfl (fun W hSw => ?_) (Swk1) ?_
        · (try dsimp only at hSw); go_simp <;> with_reducible rfl
        try simp only [Act.put, List.setIfInBounds_toArray, List.set_cons_zero, List.set_cons_succ]
        refine any_take (i := 27) (some 99) (.int .i64 a) rfl rfl (by kernel_rfl) (by kernel_rfl) (by kernel_rfl) (fun _ _ _ h => h) rfl (fun W hSw => ?_) (Swk1) ?_
        · (try dsimp only at hSw); go_simp <;> with_reducible rfl
        try simp only [Act.put, List.setIfInBounds_toArray, List.set_cons_zero, List.set_cons_succ]
        refine any_take (i := 28) (some 100) (.int .i64 y) rfl rfl (by kernel_rfl) (by kernel_rfl) (by kernel_rfl) (fun _ _ _ h => h) rfl (fun W hSw => ?_) (Swk1) ?_
        · (try dsimp only at hSw); go_simp <;> with_reducible rfl
        try simp only [Act.put, List.setIfInBounds_toArray, List.set_cons_zero, List.set_cons_succ]
        refine any_take (i := 30) (some 102) (.pointer (some ⟨w3.heap.size, 0, none⟩)) rfl rfl (by kernel_rfl) (by kernel_rfl) (by kernel_rfl) (fun _ _ _ h => h) rfl (fun W hSw => ?_) (Swk1) ?_
        · (try dsimp only at hSw); go_simp <;> with_reducible rfl
        try simp only [Act.put, List.setIfInBounds_toArray, List.set_cons_zero, List.set_cons_succ]
        refine any_take (i := 31) (some 103) (.int .i64 t.keep) rfl rfl (by kernel_rfl) (by kernel_rfl) (by kernel_rfl) (fun _ _ _ h => h) rfl (fun W hSw => ?_) (Swk1) ?_
        · (try dsimp only at hSw); go_simp <;> with_reducible rfl
        try simp only [Act.put, List.setIfInBounds_toArray, List.set_cons_zero, List.set_cons_succ]
        refine any_take (i := 32) (some 104) (.int .i64 n) rfl rfl (by kernel_rfl) (by kernel_rfl) (by kernel_rfl) (fun _ _ _ h => h) rfl (fun W hSw => ?_) (Swk1) ?_
        · (try dsimp only at hSw); go_simp <;> with_reducible rfl
        try simp only [Act.put, List.setIfInBounds_toArray, List.set_cons_zero, List.set_cons_succ]
        refine any_take (i := 33) (some 105) (.pointer (some ⟨w3.heap.size, 5, none⟩)) rfl rfl (by kernel_rfl) (by kernel_rfl) (by kernel_rfl) (fun _ _ _ h => h) rfl (fun W hSw => ?_) (Swk1) ?_
        · (try dsimp only at hSw); go_simp <;> with_reducible rfl
        try simp only [Act.put, List.setIfInBounds_toArray, List.set_cons_zero, List.set_cons_succ]
        refine any_take (i := 34) (some 106) (.int .i64 t.longer) rfl rfl (by kernel_rfl) (by kernel_rfl) (by kernel_rfl) (fun _ _ _ h => h) rfl (fun W hSw => ?_) (Swk1) ?_
        · (try dsimp only at hSw); go_simp <;> with_reducible rfl
        try simp only [Act.put, List.setIfInBounds_toArray, List.set_cons_zero, List.set_cons_succ]
        refine any_take (i := 35) (some 107) (.int .i64 k) rfl rfl (by kernel_rfl) (by kernel_rfl) (by kernel_rfl) (fun _ _ _ h => h) rfl (fun W hSw => ?_) (Swk1) ?_
        · (try dsimp only at hSw); go_simp <;> with_reducible rfl
        try simp only [Act.put, List.setIfInBounds_toArray, List.set_cons_zero, List.set_cons_succ]
        refine any_take (i := 36) (some 108) (.int .i64 (t.keep + k)) rfl rfl (by kernel_rfl) (by kernel_rfl) (by kernel_rfl) (fun _ _ _ h => h) rfl (fun W hSw => ?_) (Swk1) ?_
        · (try dsimp only at hSw); go_simp <;> with_reducible rfl
        try simp only [Act.put, List.setIfInBounds_toArray, List.set_cons_zero, List.set_cons_succ]
        refine wpAnyH_ready (rs := [29]) (by kernel_rfl) (by simp) ?_
        refine AllReadyH.cons rfl (fun K hK => ?_) AllReadyH.nil
        go_simp
        go_at_call 13
        refine (hoursI_any wk1 w1.heap.size A1 A2 m m' o c a y hlo' hlc' (show w1.heap.size ≤ wk1.heap.size by have := hb9wk1.size; omega) (SL.later SL_wk.out (by omega) hb9wk1) (SL.later SL_wkk.out (by omega) hb9wk1)).mono ?_
        rintro e wk3 ⟨rfl, hb8⟩
        rw [HHR.out]
        have hb9wk3 : Below w7.heap.size w7 wk3 := bthen Swk1.2 hb8
        have Swk3 : (fun W : World => (W.cell? ⟨w1.heap.size, 0, none⟩ = some (.slice A1 o.length m) ∧ W.cell? ⟨w1.heap.size, 1, none⟩ = some (.slice A2 c.length m') ∧ W.cell? ⟨w3.heap.size, 0, none⟩ = some (.int .i64 t.keep) ∧ W.cell? ⟨w3.heap.size, 1, none⟩ = some (.int .i64 t.free) ∧ W.cell? ⟨w3.heap.size, 2, none⟩ = some (.int .i64 t.step) ∧ W.cell? ⟨w3.heap.size, 3, none⟩ = some (.int .i64 t.rate) ∧ W.cell? ⟨w3.heap.size, 4, none⟩ = some (.int .i64 t.cap) ∧ W.cell? ⟨w3.heap.size, 5, none⟩ = some (.int .i64 t.longer) ∧ W.cell? ⟨w3.heap.size, 6, none⟩ = some (.int .i64 t.price) ∧ W.cell? ⟨w3.heap.size, 7, none⟩ = some (.int .i64 t.most)) ∧ Below w7.heap.size w7 W) wk3 := ⟨⟨(bold hb9wk3 _ _ (by omega)).trans S0.1.1, (bold hb9wk3 _ _ (by omega)).trans S0.1.2.1, (bold hb9wk3 _ _ (by omega)).trans S0.1.2.2.1, (bold hb9wk3 _ _ (by omega)).trans S0.1.2.2.2.1, (bold hb9wk3 _ _ (by omega)).trans S0.1.2.2.2.2.1, (bold hb9wk3 _ _ (by omega)).trans S0.1.2.2.2.2.2.1, (bold hb9wk3 _ _ (by omega)).trans S0.1.2.2.2.2.2.2.1, (bold hb9wk3 _ _ (by omega)).trans S0.1.2.2.2.2.2.2.2.1, (bold hb9wk3 _ _ (by omega)).trans S0.1.2.2.2.2.2.2.2.2.1, (bold hb9wk3 _ _ (by omega)).trans S0.1.2.2.2.2.2.2.2.2.2⟩, hb9wk3⟩
        clear hb8
        go_wp2_with fail
        refine hK.out _ _ Swk3 (fun _ => ?_)
        clear hK K
        try simp only [Act.put, List.setIfInBounds_toArray, List.set_cons_zero, List.set_cons_succ]
        refine any_take (i := 37) (some 109) (.bool false) rfl rfl (by kernel_rfl) (by kernel_rfl) (by kernel_rfl) (fun _ _ _ h => h) rfl (fun W hSw => ?_) (Swk3) ?_
        · (try dsimp only at hSw); go_simp <;> with_reducible rfl
        try simp only [Act.put, List.setIfInBounds_toArray, List.set_cons_zero, List.set_cons_succ]
        refine any_take (i := 38) (some 110) (.bool false) rfl rfl (by kernel_rfl) (by kernel_rfl) (by kernel_rfl) (fun _ _ _ h => h) rfl (fun W hSw => ?_) (Swk3) ?_
        · (try dsimp only at hSw); go_simp <;> with_reducible rfl
        try simp only [Act.put, List.setIfInBounds_toArray, List.set_cons_zero, List.set_cons_succ]
        refine wpAnyH_done (by kernel_rfl) ?_ _
        have hb : Below w7.heap.size w7 wk3 := Swk3.2
        clear S0 Swk1 hb9wk1 Swk3 hb9wk3 zc hzz hlwa9 hlta9
        have wa := WAH.out; clear WAH
        have ta := TAH.out; clear TAH
        have zb := ZB.out; clear ZB
        have kk := SL.later SL_wk.out (by omega) hb; clear SL_wk; have SL_wk := Lib.hid kk; clear kk
        have kk := SL.later SL_wkk.out (by omega) hb; clear SL_wkk; have SL_wkk := Lib.hid kk; clear kk
        replace hbr := bthen hbr hb
        have hswk3 := hb.size
        replace wa := has_call wa hb
        replace ta := has_call ta hb
        replace zb := bthen zb hb; clear hb
        clear dy nk dz
        obtain ⟨q, hq⟩ : ∃ q, deadB o c t a (n + 1) = q := ⟨_, rfl⟩
        have hex := HEX.out; rw [hq] at hex
        cases q with
        | none =>
          have HE := Lib.hid (show extB o c t a y n = false from hex); clear hex; have HN := Lib.hid hq; clear hq
          have wac0 := has_cell wa 0 rfl; have wac1 := has_cell wa 1 rfl
          have walt := has_lt wa
          have tac0 := has_cell ta 0 rfl; have tac1 := has_cell ta 1 rfl; have tac2 := has_cell ta 2 rfl; have tac3 := has_cell ta 3 rfl; have tac4 := has_cell ta 4 rfl; have tac5 := has_cell ta 5 rfl; have tac6 := has_cell ta 6 rfl; have tac7 := has_cell ta 7 rfl
          have talt := has_lt ta
          have WAH := Lib.hid wa; clear wa
          have TAH := Lib.hid ta; clear ta
          have ZB := Lib.hid zb; clear zb
          go_wp2_with fail
          clear wac0 wac1 walt tac0 tac1 tac2 tac3 tac4 tac5 tac6 tac7 talt
          have wa := WAH.out; clear WAH
          have ta := TAH.out; clear TAH
          have zb := ZB.out; clear ZB
          refine (deadS_any _ w1.heap.size A1 A2 m m' o c t a (n + 1) hlo' hlc' (by omega) SL_wk.out SL_wkk.out).mono ?_
          rintro e w9 ⟨rfl, hb⟩
          rw [HN.out]
          have kk := SL.later SL_wk.out (by omega) hb; clear SL_wk; have SL_wk := Lib.hid kk; clear kk
          have kk := SL.later SL_wkk.out (by omega) hb; clear SL_wkk; have SL_wkk := Lib.hid kk; clear kk
          replace hbr := bthen hbr hb
          have hsw9 := hb.size
          replace wa := has_call wa hb
          replace ta := has_call ta hb
          replace zb := bthen zb hb; clear hb
          unfold pairV
          have wac0 := has_cell wa 0 rfl; have wac1 := has_cell wa 1 rfl
          have walt := has_lt wa
          have tac0 := has_cell ta 0 rfl; have tac1 := has_cell ta 1 rfl; have tac2 := has_cell ta 2 rfl; have tac3 := has_cell ta 3 rfl; have tac4 := has_cell ta 4 rfl; have tac5 := has_cell ta 5 rfl; have tac6 := has_cell ta 6 rfl; have tac7 := has_cell ta 7 rfl
          have talt := has_lt ta
          have WAH := Lib.hid wa; clear wa
          have TAH := Lib.hid ta; clear ta
          have ZB := Lib.hid zb; clear zb
          go_wp2_with fail
          clear wac0 wac1 walt tac0 tac1 tac2 tac3 tac4 tac5 tac6 tac7 talt
          have wa := WAH.out; clear WAH
          have ta := TAH.out; clear TAH
          have zb := ZB.out; clear ZB
          refine (extI_any _ w1.heap.size A1 A2 m m' o c t a y n (by omega) (by omega) hlo' hlc' (by omega) SL_wk.out SL_wkk.out).mono ?_
          rintro e w10 ⟨rfl, hb⟩
          rw [HE.out]
          have kk := SL.later SL_wk.out (by omega) hb; clear SL_wk; have SL_wk := Lib.hid kk; clear kk
          have kk := SL.later SL_wkk.out (by omega) hb; clear SL_wkk; have SL_wkk := Lib.hid kk; clear kk
          replace hbr := bthen hbr hb
          have hsw10 := hb.size
          replace wa := has_call wa hb
          replace ta := has_call ta hb
          replace zb := bthen zb hb; clear hb
          by_cases hu : a + d ≤ y
          · skip
            by_cases hm9 : m9 < 0
            · skip
              have R2 := Lib.hid (least_hit6 n0 HQ.out hu hm9 HLE.out)
              have wac0 := has_cell wa 0 rfl; have wac1 := has_cell wa 1 rfl
              have walt := has_lt wa
              have tac0 := has_cell ta 0 rfl; have tac1 := has_cell ta 1 rfl; have tac2 := has_cell ta 2 rfl; have tac3 := has_cell ta 3 rfl; have tac4 := has_cell ta 4 rfl; have tac5 := has_cell ta 5 rfl; have tac6 := has_cell ta 6 rfl; have tac7 := has_cell ta 7 rfl
              have talt := has_lt ta
              have WAH := Lib.hid wa; clear wa
              have TAH := Lib.hid ta; clear ta
              have ZB := Lib.hid zb; clear zb
              go_wp2_with fail
              clear wac0 wac1 walt tac0 tac1 tac2 tac3 tac4 tac5 tac6 tac7 talt
              have wa := WAH.out; clear WAH
              have ta := TAH.out; clear TAH
              have zb := ZB.out; clear ZB
              go_roundw
              case rel => exact ⟨n + 1, y, n, by omega, by omega, rfl, rfl, rfl, by omega, by omega, by omega, by omega, R1.out, R2.out, hbr⟩
              case measure => simp [intOf]; omega
            · skip
              have R2 := Lib.hid (least_keep6 hm9 HLE.out)
              have wac0 := has_cell wa 0 rfl; have wac1 := has_cell wa 1 rfl
              have walt := has_lt wa
              have tac0 := has_cell ta 0 rfl; have tac1 := has_cell ta 1 rfl; have tac2 := has_cell ta 2 rfl; have tac3 := has_cell ta 3 rfl; have tac4 := has_cell ta 4 rfl; have tac5 := has_cell ta 5 rfl; have tac6 := has_cell ta 6 rfl; have tac7 := has_cell ta 7 rfl
              have talt := has_lt ta
              have WAH := Lib.hid wa; clear wa
              have TAH := Lib.hid ta; clear ta
              have ZB := Lib.hid zb; clear zb
              go_wp2_with fail
              clear wac0 wac1 walt tac0 tac1 tac2 tac3 tac4 tac5 tac6 tac7 talt
              have wa := WAH.out; clear WAH
              have ta := TAH.out; clear TAH
              have zb := ZB.out; clear ZB
              go_roundw
              case rel => exact ⟨n + 1, y, m9, by omega, by omega, rfl, rfl, rfl, by omega, by omega, by omega, by omega, R1.out, R2.out, hbr⟩
              case measure => simp [intOf]; omega
          · skip
            exfalso; omega
        | some z =>
          have HE := Lib.hid (show extB o c t a y n = true from hex); clear hex; have HN := Lib.hid hq; clear hq
          have wac0 := has_cell wa 0 rfl; have wac1 := has_cell wa 1 rfl
          have walt := has_lt wa
          have tac0 := has_cell ta 0 rfl; have tac1 := has_cell ta 1 rfl; have tac2 := has_cell ta 2 rfl; have tac3 := has_cell ta 3 rfl; have tac4 := has_cell ta 4 rfl; have tac5 := has_cell ta 5 rfl; have tac6 := has_cell ta 6 rfl; have tac7 := has_cell ta 7 rfl
          have talt := has_lt ta
          have WAH := Lib.hid wa; clear wa
          have TAH := Lib.hid ta; clear ta
          have ZB := Lib.hid zb; clear zb
          go_wp2_with fail
          clear wac0 wac1 walt tac0 tac1 tac2 tac3 tac4 tac5 tac6 tac7 talt
          have wa := WAH.out; clear WAH
          have ta := TAH.out; clear TAH
          have zb := ZB.out; clear ZB
          refine (deadS_any _ w1.heap.size A1 A2 m m' o c t a (n + 1) hlo' hlc' (by omega) SL_wk.out SL_wkk.out).mono ?_
          rintro e w9 ⟨rfl, hb⟩
          rw [HN.out]
          have kk := SL.later SL_wk.out (by omega) hb; clear SL_wk; have SL_wk := Lib.hid kk; clear kk
          have kk := SL.later SL_wkk.out (by omega) hb; clear SL_wkk; have SL_wkk := Lib.hid kk; clear kk
          replace hbr := bthen hbr hb
          have hsw9 := hb.size
          replace wa := has_call wa hb
          replace ta := has_call ta hb
          replace zb := bthen zb hb; clear hb
          unfold pairV
          have wac0 := has_cell wa 0 rfl; have wac1 := has_cell wa 1 rfl
          have walt := has_lt wa
          have tac0 := has_cell ta 0 rfl; have tac1 := has_cell ta 1 rfl; have tac2 := has_cell ta 2 rfl; have tac3 := has_cell ta 3 rfl; have tac4 := has_cell ta 4 rfl; have tac5 := has_cell ta 5 rfl; have tac6 := has_cell ta 6 rfl; have tac7 := has_cell ta 7 rfl
          have talt := has_lt ta
          have WAH := Lib.hid wa; clear wa
          have TAH := Lib.hid ta; clear ta
          have ZB := Lib.hid zb; clear zb
          go_wp2_with fail
          clear wac0 wac1 walt tac0 tac1 tac2 tac3 tac4 tac5 tac6 tac7 talt
          have wa := WAH.out; clear WAH
          have ta := TAH.out; clear TAH
          have zb := ZB.out; clear ZB
          refine (extI_any _ w1.heap.size A1 A2 m m' o c t a y n (by omega) (by omega) hlo' hlc' (by omega) SL_wk.out SL_wkk.out).mono ?_
          rintro e w10 ⟨rfl, hb⟩
          rw [HE.out]
          have kk := SL.later SL_wk.out (by omega) hb; clear SL_wk; have SL_wk := Lib.hid kk; clear kk
          have kk := SL.later SL_wkk.out (by omega) hb; clear SL_wkk; have SL_wkk := Lib.hid kk; clear kk
          replace hbr := bthen hbr hb
          have hsw10 := hb.size
          replace wa := has_call wa hb
          replace ta := has_call ta hb
          replace zb := bthen zb hb; clear hb
          by_cases hu : a + d ≤ y
          · skip
            by_cases hm9 : m9 < 0
            · skip
              have R2 := Lib.hid (least_hit6 n0 HQ.out hu hm9 HLE.out)
              have wac0 := has_cell wa 0 rfl; have wac1 := has_cell wa 1 rfl
              have walt := has_lt wa
              have tac0 := has_cell ta 0 rfl; have tac1 := has_cell ta 1 rfl; have tac2 := has_cell ta 2 rfl; have tac3 := has_cell ta 3 rfl; have tac4 := has_cell ta 4 rfl; have tac5 := has_cell ta 5 rfl; have tac6 := has_cell ta 6 rfl; have tac7 := has_cell ta 7 rfl
              have talt := has_lt ta
              have WAH := Lib.hid wa; clear wa
              have TAH := Lib.hid ta; clear ta
              have ZB := Lib.hid zb; clear zb
              go_wp2_with fail
              clear wac0 wac1 walt tac0 tac1 tac2 tac3 tac4 tac5 tac6 tac7 talt
              have wa := WAH.out; clear WAH
              have ta := TAH.out; clear TAH
              have zb := ZB.out; clear ZB
              go_roundw
              case rel => exact ⟨n + 1, y, n, by omega, by omega, rfl, rfl, rfl, by omega, by omega, by omega, by omega, R1.out, R2.out, hbr⟩
              case measure => simp [intOf]; omega
            · skip
              have R2 := Lib.hid (least_keep6 hm9 HLE.out)
              have wac0 := has_cell wa 0 rfl; have wac1 := has_cell wa 1 rfl
              have walt := has_lt wa
              have tac0 := has_cell ta 0 rfl; have tac1 := has_cell ta 1 rfl; have tac2 := has_cell ta 2 rfl; have tac3 := has_cell ta 3 rfl; have tac4 := has_cell ta 4 rfl; have tac5 := has_cell ta 5 rfl; have tac6 := has_cell ta 6 rfl; have tac7 := has_cell ta 7 rfl
              have talt := has_lt ta
              have WAH := Lib.hid wa; clear wa
              have TAH := Lib.hid ta; clear ta
              have ZB := Lib.hid zb; clear zb
              go_wp2_with fail
              clear wac0 wac1 walt tac0 tac1 tac2 tac3 tac4 tac5 tac6 tac7 talt
              have wa := WAH.out; clear WAH
              have ta := TAH.out; clear TAH
              have zb := ZB.out; clear ZB
              go_roundw
              case rel => exact ⟨n + 1, y, m9, by omega, by omega, rfl, rfl, rfl, by omega, by omega, by omega, by omega, R1.out, R2.out, hbr⟩
              case measure => simp [intOf]; omega
          · skip
            exfalso; omega
end Go.Proofs.Ytpooffekjealhaa
