/- Chapter 6: contracts of CheapestTerms, by the program and by the model (gen_feeb.py). -/
import Derived.Test.YtfkhhefphbhppaaFeeF
import Derived.Test.YtfkhhefphbhppaaFeeR
import Derived.Deep.RegionHeld3
import Derived.Deep.DeepMust
import Derived.WalkLawsBesides
namespace Go.Proofs.Ytfkhhefphbhppaa
open Go.RowKit
set_option linter.unusedVariables false
set_option maxRecDepth 100000 in
set_option maxHeartbeats 8000000 in
theorem cheapI_any (w : World) (B : Nat) (A A' : Option Addr) (n n' : Nat) (o c : List (Int × Int)) (AT : Option Addr) (cT : Nat) (LT : List Tm) (AF : Option Addr) (cF : Nat) (L : List St) (ho : o.length ≤ maxLen) (hc : c.length ≤ maxLen) (hB : B ≤ w.heap.size) (hS : SL w B A o) (hS' : SL w B A' c) (lLT : LT.length ≤ maxLen) (hLT : tmL w B AT LT) (lL : L.length ≤ maxLen) (hL : stL w B AF L) : Calls Try.prog 6 #[.agg #[.slice A o.length n, .slice A' c.length n'], .slice AT LT.length cT, .slice AF L.length cF] w fun r w' => r = .returned (.int .i64 (bestB o c LT L)) ∧ Below w.heap.size w w' := by
  have HS := Lib.hid hS; clear hS
  have HS' := Lib.hid hS'; clear hS'
  have HLT := Lib.hid hLT; clear hLT
  have hMLT : LT.length ≤ maxLen := lLT
  have NLT := Lib.hid lLT; clear lLT
  unfold maxLen at hMLT
  have HL := Lib.hid hL; clear hL
  have hML : L.length ≤ maxLen := lL
  have NL := Lib.hid lL; clear lL
  unfold maxLen at hML
  by_cases hbig : (20 : Int) < LT.length
  · skip
    go_enter Try.func6, Try.ntmps6
    go_wp2_with fail
    generalize hX : (w.alloc (.cells #[.slice A o.length n, .slice A' c.length n'] 26)) = w1
    have hb : Below w.heap.size w w1 := by rw [← hX]; exact balloc _ _
    have hk : Has w1 w.heap.size 26 #[.slice A o.length n, .slice A' c.length n'] := by rw [← hX]; exact has_new _ _ _
    have hzw1 : w1.heap.size = w.heap.size + 1 := by rw [← hX]; simp
    clear hX
    have zb := hb; clear hb
    have wa := hk; clear hk
    clear hzw1
    have wac0 := has_cell wa 0 rfl; have wac1 := has_cell wa 1 rfl
    have walt := has_lt wa
    have WAH := Lib.hid wa; clear wa
    have ZB := Lib.hid zb; clear zb
    go_wp2_with fail
    clear wac0 wac1 walt
    have wa := WAH.out; clear WAH
    have zb := ZB.out; clear ZB
    go_ret
    exact ⟨fint (by rw [bestB, if_neg (by omega)]), zb⟩
  have hbl := Lib.hid (show bestB o c LT L = cheapB o c L LT 0 (-1) 0 by rw [bestB, if_pos (by omega)])
  go_enter Try.func6, Try.ntmps6
  go_wp2_with fail
  generalize hX : (w.alloc (.cells #[.slice A o.length n, .slice A' c.length n'] 26)) = w1
  have hb : Below w.heap.size w w1 := by rw [← hX]; exact balloc _ _
  have hk : Has w1 w.heap.size 26 #[.slice A o.length n, .slice A' c.length n'] := by rw [← hX]; exact has_new _ _ _
  have hzw1 : w1.heap.size = w.heap.size + 1 := by rw [← hX]; simp
  clear hX
  have zb := hb; clear hb
  have wa := hk; clear hk
  clear hzw1
  have wac0 := has_cell wa 0 rfl; have wac1 := has_cell wa 1 rfl
  have walt := has_lt wa
  have WAH := Lib.hid wa; clear wa
  have ZB := Lib.hid zb; clear zb
  go_wp2_with fail
  clear wac0 wac1 walt
  have wa := WAH.out; clear WAH
  have zb := ZB.out; clear ZB
  have WA0 := Lib.hid wa; clear wa
  have ZB0 := Lib.hid zb; clear zb
  go_loopw [7, 8, 18] (fun bv u i wr => ∃ (k : Nat) (b m : Int), k ≤ LT.length ∧ i = .int .i64 k ∧ bv = .int .i64 b ∧ u = .int .i64 m ∧ -1 ≤ b ∧ (b < 0 ∨ b < k) ∧ 0 ≤ m ∧ m ≤ 60000000 ∧ cheapB o c L (LT.drop k) k b m = bestB o c LT L ∧ Below w1.heap.size w1 wr) (fun _ _ i _ => LT.length - (intOf i).toNat)
  case atStart => exact ⟨0, -1, 0, Nat.zero_le _, rfl, rfl, rfl, by omega, by omega, by omega, by omega, by rw [hbl.out]; rfl, Below.refl _ _⟩
  case round =>
    obtain ⟨k, b, m, hk, rfl, rfl, rfl, hb0, hb1, hm0, hm1, hr, hb⟩ := hrel
    have Hr := Lib.hid hr; clear hr
    by_cases hlt : k < LT.length
    rotate_left
    · have Hv := Lib.hid ((cheap_end (by omega) _ _ _).symm.trans Hr.out)
      have wa := has_call WA0.out hb
      have zb := bthen ZB0.out hb
      have hbr := hb; clear hb
      have wac0 := has_cell wa 0 rfl; have wac1 := has_cell wa 1 rfl
      have walt := has_lt wa
      have WAH := Lib.hid wa; clear wa
      have ZB := Lib.hid zb; clear zb
      go_wp2_with fail
      clear wac0 wac1 walt
      have wa := WAH.out; clear WAH
      have zb := ZB.out; clear ZB
      go_ret
      exact ⟨fint Hv.out, zb⟩
    obtain ⟨bb, off, t, rfl, hbB, hx, hc0, hc1, hc2, hc3, hc4, hc5, hc6, hc7⟩ := (HLT.out.later hB (bthen ZB0.out hb)).at_ hlt
    obtain ⟨q, hq⟩ : ∃ q, billB o c t L = q := ⟨_, rfl⟩
    cases q with
    | none =>
      have Hv := Lib.hid ((cheap_no hx _ _ _ hq).symm.trans Hr.out)
      have Hq := Lib.hid hq; clear hq hx
      have wa := has_call WA0.out hb
      have zb := bthen ZB0.out hb
      have hbr := hb; clear hb
      have wac0 := has_cell wa 0 rfl; have wac1 := has_cell wa 1 rfl
      have walt := has_lt wa
      have WAH := Lib.hid wa; clear wa
      have ZB := Lib.hid zb; clear zb
      go_wp2_with fail
      clear wac0 wac1 walt
      have wa := WAH.out; clear WAH
      have zb := ZB.out; clear ZB
      generalize hX : (wr.alloc (.cells #[.int .i64 t.keep, .int .i64 t.free, .int .i64 t.step, .int .i64 t.rate, .int .i64 t.cap, .int .i64 t.longer, .int .i64 t.price, .int .i64 t.most] 35)) = w101
      have hb : Below wr.heap.size wr w101 := by rw [← hX]; exact balloc _ _
      have hk : Has w101 wr.heap.size 35 #[.int .i64 t.keep, .int .i64 t.free, .int .i64 t.step, .int .i64 t.rate, .int .i64 t.cap, .int .i64 t.longer, .int .i64 t.price, .int .i64 t.most] := by rw [← hX]; exact has_new _ _ _
      clear hX
      replace hbr := bthen hbr hb
      replace wa := has_call wa hb
      replace zb := bthen zb hb; clear hb
      have ta := hk; clear hk
      have wac0 := has_cell wa 0 rfl; have wac1 := has_cell wa 1 rfl
      have walt := has_lt wa
      have tac0 := has_cell ta 0 rfl; have tac1 := has_cell ta 1 rfl; have tac2 := has_cell ta 2 rfl; have tac3 := has_cell ta 3 rfl; have tac4 := has_cell ta 4 rfl; have tac5 := has_cell ta 5 rfl; have tac6 := has_cell ta 6 rfl; have tac7 := has_cell ta 7 rfl
      have talt := has_lt ta
      have WAH := Lib.hid wa; clear wa
      have TAH := Lib.hid ta; clear ta
      have ZB := Lib.hid zb; clear zb
      go_wp2_with fail
      clear wac0 wac1 walt tac0 tac1 tac2 tac3 tac4 tac5 tac6 tac7 talt
      have wa := WAH.out; clear WAH
      have ta := TAH.out; clear TAH
      have zb := ZB.out; clear ZB
      refine (billI_any _ B A A' n n' o c t AF cF L ho hc (by have := zb.size; omega) (HS.out.later hB zb) (HS'.out.later hB zb) NL.out (HL.out.later hB zb)).mono ?_
      rintro e w102 ⟨rfl, hb⟩
      replace hbr := bthen hbr hb
      replace wa := has_call wa hb
      replace ta := has_call ta hb
      replace zb := bthen zb hb; clear hb
      rw [Hq.out]; unfold pairV
      have wac0 := has_cell wa 0 rfl; have wac1 := has_cell wa 1 rfl
      have walt := has_lt wa
      have tac0 := has_cell ta 0 rfl; have tac1 := has_cell ta 1 rfl; have tac2 := has_cell ta 2 rfl; have tac3 := has_cell ta 3 rfl; have tac4 := has_cell ta 4 rfl; have tac5 := has_cell ta 5 rfl; have tac6 := has_cell ta 6 rfl; have tac7 := has_cell ta 7 rfl
      have talt := has_lt ta
      have WAH := Lib.hid wa; clear wa
      have TAH := Lib.hid ta; clear ta
      have ZB := Lib.hid zb; clear zb
      go_wp2_with fail
      clear wac0 wac1 walt tac0 tac1 tac2 tac3 tac4 tac5 tac6 tac7 talt
      have wa := WAH.out; clear WAH
      have ta := TAH.out; clear TAH
      have zb := ZB.out; clear ZB
      go_roundw
      case rel => exact ⟨k + 1, b, m, by omega, by go_num, rfl, rfl, by omega, by omega, by omega, by omega, (by rw [show ((k + 1 : Nat) : Int) = (k : Int) + 1 by omega]; exact Hv.out), hbr⟩
      case measure => simp [intOf]; omega
    | some x =>
      have hxr := bill_range hq
      obtain ⟨hx0, hx1⟩ := hxr
      by_cases hb2 : b < 0
      · have hbn : b = -1 := by omega
        subst hbn
        have Hv := Lib.hid ((cheap_put hx _ _ _ hq (.inl hb2)).symm.trans Hr.out)
        have Hq := Lib.hid hq; clear hq hx
        have wa := has_call WA0.out hb
        have zb := bthen ZB0.out hb
        have hbr := hb; clear hb
        have wac0 := has_cell wa 0 rfl; have wac1 := has_cell wa 1 rfl
        have walt := has_lt wa
        have WAH := Lib.hid wa; clear wa
        have ZB := Lib.hid zb; clear zb
        go_wp2_with fail
        clear wac0 wac1 walt
        have wa := WAH.out; clear WAH
        have zb := ZB.out; clear ZB
        generalize hX : (wr.alloc (.cells #[.int .i64 t.keep, .int .i64 t.free, .int .i64 t.step, .int .i64 t.rate, .int .i64 t.cap, .int .i64 t.longer, .int .i64 t.price, .int .i64 t.most] 35)) = w101
        have hb : Below wr.heap.size wr w101 := by rw [← hX]; exact balloc _ _
        have hk : Has w101 wr.heap.size 35 #[.int .i64 t.keep, .int .i64 t.free, .int .i64 t.step, .int .i64 t.rate, .int .i64 t.cap, .int .i64 t.longer, .int .i64 t.price, .int .i64 t.most] := by rw [← hX]; exact has_new _ _ _
        clear hX
        replace hbr := bthen hbr hb
        replace wa := has_call wa hb
        replace zb := bthen zb hb; clear hb
        have ta := hk; clear hk
        have wac0 := has_cell wa 0 rfl; have wac1 := has_cell wa 1 rfl
        have walt := has_lt wa
        have tac0 := has_cell ta 0 rfl; have tac1 := has_cell ta 1 rfl; have tac2 := has_cell ta 2 rfl; have tac3 := has_cell ta 3 rfl; have tac4 := has_cell ta 4 rfl; have tac5 := has_cell ta 5 rfl; have tac6 := has_cell ta 6 rfl; have tac7 := has_cell ta 7 rfl
        have talt := has_lt ta
        have WAH := Lib.hid wa; clear wa
        have TAH := Lib.hid ta; clear ta
        have ZB := Lib.hid zb; clear zb
        go_wp2_with fail
        clear wac0 wac1 walt tac0 tac1 tac2 tac3 tac4 tac5 tac6 tac7 talt
        have wa := WAH.out; clear WAH
        have ta := TAH.out; clear TAH
        have zb := ZB.out; clear ZB
        refine (billI_any _ B A A' n n' o c t AF cF L ho hc (by have := zb.size; omega) (HS.out.later hB zb) (HS'.out.later hB zb) NL.out (HL.out.later hB zb)).mono ?_
        rintro e w102 ⟨rfl, hb⟩
        replace hbr := bthen hbr hb
        replace wa := has_call wa hb
        replace ta := has_call ta hb
        replace zb := bthen zb hb; clear hb
        rw [Hq.out]; unfold pairV
        have wac0 := has_cell wa 0 rfl; have wac1 := has_cell wa 1 rfl
        have walt := has_lt wa
        have tac0 := has_cell ta 0 rfl; have tac1 := has_cell ta 1 rfl; have tac2 := has_cell ta 2 rfl; have tac3 := has_cell ta 3 rfl; have tac4 := has_cell ta 4 rfl; have tac5 := has_cell ta 5 rfl; have tac6 := has_cell ta 6 rfl; have tac7 := has_cell ta 7 rfl
        have talt := has_lt ta
        have WAH := Lib.hid wa; clear wa
        have TAH := Lib.hid ta; clear ta
        have ZB := Lib.hid zb; clear zb
        go_wp2_with fail
        clear wac0 wac1 walt tac0 tac1 tac2 tac3 tac4 tac5 tac6 tac7 talt
        have wa := WAH.out; clear WAH
        have ta := TAH.out; clear TAH
        have zb := ZB.out; clear ZB
        go_roundw
        case rel => exact ⟨k + 1, k, x, by omega, by go_num, rfl, rfl, by omega, by omega, by omega, by omega, (by rw [show ((k + 1 : Nat) : Int) = (k : Int) + 1 by omega]; exact Hv.out), hbr⟩
        case measure => simp [intOf]; omega
      have hbe : (b == -1) = false := by simp; omega
      by_cases hxm : x < m
      · skip
        have Hv := Lib.hid ((cheap_put hx _ _ _ hq (.inr hxm)).symm.trans Hr.out)
        have Hq := Lib.hid hq; clear hq hx
        have wa := has_call WA0.out hb
        have zb := bthen ZB0.out hb
        have hbr := hb; clear hb
        have wac0 := has_cell wa 0 rfl; have wac1 := has_cell wa 1 rfl
        have walt := has_lt wa
        have WAH := Lib.hid wa; clear wa
        have ZB := Lib.hid zb; clear zb
        go_wp2_with fail
        clear wac0 wac1 walt
        have wa := WAH.out; clear WAH
        have zb := ZB.out; clear ZB
        generalize hX : (wr.alloc (.cells #[.int .i64 t.keep, .int .i64 t.free, .int .i64 t.step, .int .i64 t.rate, .int .i64 t.cap, .int .i64 t.longer, .int .i64 t.price, .int .i64 t.most] 35)) = w101
        have hb : Below wr.heap.size wr w101 := by rw [← hX]; exact balloc _ _
        have hk : Has w101 wr.heap.size 35 #[.int .i64 t.keep, .int .i64 t.free, .int .i64 t.step, .int .i64 t.rate, .int .i64 t.cap, .int .i64 t.longer, .int .i64 t.price, .int .i64 t.most] := by rw [← hX]; exact has_new _ _ _
        clear hX
        replace hbr := bthen hbr hb
        replace wa := has_call wa hb
        replace zb := bthen zb hb; clear hb
        have ta := hk; clear hk
        have wac0 := has_cell wa 0 rfl; have wac1 := has_cell wa 1 rfl
        have walt := has_lt wa
        have tac0 := has_cell ta 0 rfl; have tac1 := has_cell ta 1 rfl; have tac2 := has_cell ta 2 rfl; have tac3 := has_cell ta 3 rfl; have tac4 := has_cell ta 4 rfl; have tac5 := has_cell ta 5 rfl; have tac6 := has_cell ta 6 rfl; have tac7 := has_cell ta 7 rfl
        have talt := has_lt ta
        have WAH := Lib.hid wa; clear wa
        have TAH := Lib.hid ta; clear ta
        have ZB := Lib.hid zb; clear zb
        go_wp2_with fail
        clear wac0 wac1 walt tac0 tac1 tac2 tac3 tac4 tac5 tac6 tac7 talt
        have wa := WAH.out; clear WAH
        have ta := TAH.out; clear TAH
        have zb := ZB.out; clear ZB
        refine (billI_any _ B A A' n n' o c t AF cF L ho hc (by have := zb.size; omega) (HS.out.later hB zb) (HS'.out.later hB zb) NL.out (HL.out.later hB zb)).mono ?_
        rintro e w102 ⟨rfl, hb⟩
        replace hbr := bthen hbr hb
        replace wa := has_call wa hb
        replace ta := has_call ta hb
        replace zb := bthen zb hb; clear hb
        rw [Hq.out]; unfold pairV
        have wac0 := has_cell wa 0 rfl; have wac1 := has_cell wa 1 rfl
        have walt := has_lt wa
        have tac0 := has_cell ta 0 rfl; have tac1 := has_cell ta 1 rfl; have tac2 := has_cell ta 2 rfl; have tac3 := has_cell ta 3 rfl; have tac4 := has_cell ta 4 rfl; have tac5 := has_cell ta 5 rfl; have tac6 := has_cell ta 6 rfl; have tac7 := has_cell ta 7 rfl
        have talt := has_lt ta
        have WAH := Lib.hid wa; clear wa
        have TAH := Lib.hid ta; clear ta
        have ZB := Lib.hid zb; clear zb
        go_wp2_with fail
        clear wac0 wac1 walt tac0 tac1 tac2 tac3 tac4 tac5 tac6 tac7 talt
        have wa := WAH.out; clear WAH
        have ta := TAH.out; clear TAH
        have zb := ZB.out; clear ZB
        go_roundw
        case rel => exact ⟨k + 1, k, x, by omega, by go_num, rfl, rfl, by omega, by omega, by omega, by omega, (by rw [show ((k + 1 : Nat) : Int) = (k : Int) + 1 by omega]; exact Hv.out), hbr⟩
        case measure => simp [intOf]; omega
      · skip
        have Hv := Lib.hid ((cheap_keep hx _ _ _ hq (by omega)).symm.trans Hr.out)
        have Hq := Lib.hid hq; clear hq hx
        have wa := has_call WA0.out hb
        have zb := bthen ZB0.out hb
        have hbr := hb; clear hb
        have wac0 := has_cell wa 0 rfl; have wac1 := has_cell wa 1 rfl
        have walt := has_lt wa
        have WAH := Lib.hid wa; clear wa
        have ZB := Lib.hid zb; clear zb
        go_wp2_with fail
        clear wac0 wac1 walt
        have wa := WAH.out; clear WAH
        have zb := ZB.out; clear ZB
        generalize hX : (wr.alloc (.cells #[.int .i64 t.keep, .int .i64 t.free, .int .i64 t.step, .int .i64 t.rate, .int .i64 t.cap, .int .i64 t.longer, .int .i64 t.price, .int .i64 t.most] 35)) = w101
        have hb : Below wr.heap.size wr w101 := by rw [← hX]; exact balloc _ _
        have hk : Has w101 wr.heap.size 35 #[.int .i64 t.keep, .int .i64 t.free, .int .i64 t.step, .int .i64 t.rate, .int .i64 t.cap, .int .i64 t.longer, .int .i64 t.price, .int .i64 t.most] := by rw [← hX]; exact has_new _ _ _
        clear hX
        replace hbr := bthen hbr hb
        replace wa := has_call wa hb
        replace zb := bthen zb hb; clear hb
        have ta := hk; clear hk
        have wac0 := has_cell wa 0 rfl; have wac1 := has_cell wa 1 rfl
        have walt := has_lt wa
        have tac0 := has_cell ta 0 rfl; have tac1 := has_cell ta 1 rfl; have tac2 := has_cell ta 2 rfl; have tac3 := has_cell ta 3 rfl; have tac4 := has_cell ta 4 rfl; have tac5 := has_cell ta 5 rfl; have tac6 := has_cell ta 6 rfl; have tac7 := has_cell ta 7 rfl
        have talt := has_lt ta
        have WAH := Lib.hid wa; clear wa
        have TAH := Lib.hid ta; clear ta
        have ZB := Lib.hid zb; clear zb
        go_wp2_with fail
        clear wac0 wac1 walt tac0 tac1 tac2 tac3 tac4 tac5 tac6 tac7 talt
        have wa := WAH.out; clear WAH
        have ta := TAH.out; clear TAH
        have zb := ZB.out; clear ZB
        refine (billI_any _ B A A' n n' o c t AF cF L ho hc (by have := zb.size; omega) (HS.out.later hB zb) (HS'.out.later hB zb) NL.out (HL.out.later hB zb)).mono ?_
        rintro e w102 ⟨rfl, hb⟩
        replace hbr := bthen hbr hb
        replace wa := has_call wa hb
        replace ta := has_call ta hb
        replace zb := bthen zb hb; clear hb
        rw [Hq.out]; unfold pairV
        have wac0 := has_cell wa 0 rfl; have wac1 := has_cell wa 1 rfl
        have walt := has_lt wa
        have tac0 := has_cell ta 0 rfl; have tac1 := has_cell ta 1 rfl; have tac2 := has_cell ta 2 rfl; have tac3 := has_cell ta 3 rfl; have tac4 := has_cell ta 4 rfl; have tac5 := has_cell ta 5 rfl; have tac6 := has_cell ta 6 rfl; have tac7 := has_cell ta 7 rfl
        have talt := has_lt ta
        have WAH := Lib.hid wa; clear wa
        have TAH := Lib.hid ta; clear ta
        have ZB := Lib.hid zb; clear zb
        go_wp2_with fail
        clear wac0 wac1 walt tac0 tac1 tac2 tac3 tac4 tac5 tac6 tac7 talt
        have wa := WAH.out; clear WAH
        have ta := TAH.out; clear TAH
        have zb := ZB.out; clear ZB
        go_roundw
        case rel => exact ⟨k + 1, b, m, by omega, by go_num, rfl, rfl, by omega, by omega, by omega, by omega, (by rw [show ((k + 1 : Nat) : Int) = (k : Int) + 1 by omega]; exact Hv.out), hbr⟩
        case measure => simp [intOf]; omega
set_option maxRecDepth 100000 in
set_option maxHeartbeats 8000000 in
theorem cheapS_any (w : World) (B : Nat) (A A' : Option Addr) (n n' : Nat) (o c : List (Int × Int)) (AT : Option Addr) (cT : Nat) (LT : List Tm) (AF : Option Addr) (cF : Nat) (L : List St) (ho : o.length ≤ maxLen) (hc : c.length ≤ maxLen) (hB : B ≤ w.heap.size) (hS : SL w B A o) (hS' : SL w B A' c) (lLT : LT.length ≤ maxLen) (hLT : tmL w B AT LT) (lL : L.length ≤ maxLen) (hL : stL w B AF L) : Calls Try.prog 7 #[.agg #[.slice A o.length n, .slice A' c.length n'], .slice AT LT.length cT, .slice AF L.length cF] w fun r w' => r = .returned (.int .i64 (bestB o c LT L)) ∧ Below w.heap.size w w' := by
  have HS := Lib.hid hS; clear hS
  have HS' := Lib.hid hS'; clear hS'
  have HLT := Lib.hid hLT; clear hLT
  have hMLT : LT.length ≤ maxLen := lLT
  have NLT := Lib.hid lLT; clear lLT
  unfold maxLen at hMLT
  have HL := Lib.hid hL; clear hL
  have hML : L.length ≤ maxLen := lL
  have NL := Lib.hid lL; clear lL
  unfold maxLen at hML
  go_enter Try.func7, Try.ntmps7
  go_wp2_with fail
  generalize hX : (w.alloc (.cells #[.slice A o.length n, .slice A' c.length n'] 26)) = w1
  have hb : Below w.heap.size w w1 := by rw [← hX]; exact balloc _ _
  have hk : Has w1 w.heap.size 26 #[.slice A o.length n, .slice A' c.length n'] := by rw [← hX]; exact has_new _ _ _
  have hzw1 : w1.heap.size = w.heap.size + 1 := by rw [← hX]; simp
  clear hX
  have zb := hb; clear hb
  have wa := hk; clear hk
  clear hzw1
  have wac0 := has_cell wa 0 rfl; have wac1 := has_cell wa 1 rfl
  have walt := has_lt wa
  have WAH := Lib.hid wa; clear wa
  have ZB := Lib.hid zb; clear zb
  go_wp2_with fail
  clear wac0 wac1 walt
  have wa := WAH.out; clear WAH
  have zb := ZB.out; clear ZB
  have WA0 := Lib.hid wa; clear wa
  have ZB0 := Lib.hid zb; clear zb
  go_loopw [7, 8, 9] (fun bv u i wr => ∃ (k : Nat) (b m : Int), k ≤ LT.length ∧ i = .int .i64 k ∧ bv = .int .i64 b ∧ u = .int .i64 m ∧ -1 ≤ b ∧ (b < 0 ∨ b < k) ∧ 0 ≤ m ∧ m ≤ 60000000 ∧ (if (LT.length : Int) ≤ 20 then cheapB o c L (LT.drop k) k b m else b) = bestB o c LT L ∧ Below w1.heap.size w1 wr) (fun _ _ i _ => LT.length - (intOf i).toNat)
  case atStart => exact ⟨0, -1, 0, Nat.zero_le _, rfl, rfl, rfl, by omega, by omega, by omega, by omega, rfl, Below.refl _ _⟩
  case round =>
    obtain ⟨k, b, m, hk, rfl, rfl, rfl, hb0, hb1, hm0, hm1, hr, hb⟩ := hrel
    have Hr := Lib.hid hr; clear hr
    by_cases hlt : k < LT.length
    rotate_left
    · have Hv := Lib.hid (show b = bestB o c LT L from Hr.out |> fun h9 => if hq : (LT.length : Int) ≤ 20 then (cheap_end (by omega) _ _ _).symm.trans ((if_pos hq).symm.trans h9) else (if_neg hq).symm.trans h9)
      have wa := has_call WA0.out hb
      have zb := bthen ZB0.out hb
      have hbr := hb; clear hb
      have wac0 := has_cell wa 0 rfl; have wac1 := has_cell wa 1 rfl
      have walt := has_lt wa
      have WAH := Lib.hid wa; clear wa
      have ZB := Lib.hid zb; clear zb
      go_wp2_with fail
      clear wac0 wac1 walt
      have wa := WAH.out; clear WAH
      have zb := ZB.out; clear ZB
      go_ret
      exact ⟨fint Hv.out, zb⟩
    by_cases hsm : (LT.length : Int) ≤ 20
    rotate_left
    · have Hv := Lib.hid (show b = bestB o c LT L from (if_neg hsm).symm.trans Hr.out)
      have wa := has_call WA0.out hb
      have zb := bthen ZB0.out hb
      have hbr := hb; clear hb
      have wac0 := has_cell wa 0 rfl; have wac1 := has_cell wa 1 rfl
      have walt := has_lt wa
      have WAH := Lib.hid wa; clear wa
      have ZB := Lib.hid zb; clear zb
      go_wp2_with fail
      clear wac0 wac1 walt
      have wa := WAH.out; clear WAH
      have zb := ZB.out; clear ZB
      go_ret
      exact ⟨fint Hv.out, zb⟩
    have hr2 := (if_pos hsm).symm.trans Hr.out; clear Hr; have Hr := Lib.hid hr2; clear hr2
    obtain ⟨bb, off, t, rfl, hbB, hx, hc0, hc1, hc2, hc3, hc4, hc5, hc6, hc7⟩ := (HLT.out.later hB (bthen ZB0.out hb)).at_ hlt
    obtain ⟨q, hq⟩ : ∃ q, billB o c t L = q := ⟨_, rfl⟩
    cases q with
    | none =>
      have Hv := Lib.hid ((cheap_no hx _ _ _ hq).symm.trans Hr.out)
      have Hq := Lib.hid hq; clear hq hx
      have wa := has_call WA0.out hb
      have zb := bthen ZB0.out hb
      have hbr := hb; clear hb
      have wac0 := has_cell wa 0 rfl; have wac1 := has_cell wa 1 rfl
      have walt := has_lt wa
      have WAH := Lib.hid wa; clear wa
      have ZB := Lib.hid zb; clear zb
      go_wp2_with fail
      have S0 : (fun W : World => (W.cell? ⟨w.heap.size, 0, none⟩ = some (.slice A o.length n) ∧ W.cell? ⟨w.heap.size, 1, none⟩ = some (.slice A' c.length n')) ∧ (W.cell? ⟨bb, off + k * 8, none⟩ = some (.int .i64 t.keep) ∧ W.cell? ⟨bb, off + k * 8 + 1, none⟩ = some (.int .i64 t.free) ∧ W.cell? ⟨bb, off + k * 8 + 2, none⟩ = some (.int .i64 t.step) ∧ W.cell? ⟨bb, off + k * 8 + 3, none⟩ = some (.int .i64 t.rate) ∧ W.cell? ⟨bb, off + k * 8 + 4, none⟩ = some (.int .i64 t.cap) ∧ W.cell? ⟨bb, off + k * 8 + 5, none⟩ = some (.int .i64 t.longer) ∧ W.cell? ⟨bb, off + k * 8 + 6, none⟩ = some (.int .i64 t.price) ∧ W.cell? ⟨bb, off + k * 8 + 7, none⟩ = some (.int .i64 t.most)) ∧ Below wr.heap.size wr W) wr.drew := ⟨⟨wac0, wac1⟩, ⟨hc0, hc1, hc2, hc3, hc4, hc5, hc6, hc7⟩, (Below.refl _ _).drew⟩
      have zc : Below w.heap.size w wr := ZB.out
      have zd : Below w.heap.size w wr.drew := zc.drew
      have hzs := zc.size
      have hzd : w.heap.size < wr.drew.heap.size := walt
      have hzbb : bb < wr.drew.heap.size := by have := zc.size; exact Nat.lt_of_lt_of_le hbB (Nat.le_trans hB this)
      clear wac0 wac1 walt
      go_region_held3 (fun W : World => (W.cell? ⟨w.heap.size, 0, none⟩ = some (.slice A o.length n) ∧ W.cell? ⟨w.heap.size, 1, none⟩ = some (.slice A' c.length n')) ∧ (W.cell? ⟨bb, off + k * 8, none⟩ = some (.int .i64 t.keep) ∧ W.cell? ⟨bb, off + k * 8 + 1, none⟩ = some (.int .i64 t.free) ∧ W.cell? ⟨bb, off + k * 8 + 2, none⟩ = some (.int .i64 t.step) ∧ W.cell? ⟨bb, off + k * 8 + 3, none⟩ = some (.int .i64 t.rate) ∧ W.cell? ⟨bb, off + k * 8 + 4, none⟩ = some (.int .i64 t.cap) ∧ W.cell? ⟨bb, off + k * 8 + 5, none⟩ = some (.int .i64 t.longer) ∧ W.cell? ⟨bb, off + k * 8 + 6, none⟩ = some (.int .i64 t.price) ∧ W.cell? ⟨bb, off + k * 8 + 7, none⟩ = some (.int .i64 t.most)) ∧ Below wr.heap.size wr W) (first | assumption) (first
        | (go_at_call 9; go_must (refine (billS_any wr.drew B A A' n n' o c t AF cF L ho hc (by have := zd.size; omega) (HS.out.later hB zd) (HS'.out.later hB zd) NL.out (HL.out.later hB zd)).mono ?_); rintro r wh ⟨rfl, hh⟩; rw [Hq.out]; unfold pairV; have S1 : (fun W : World => (W.cell? ⟨w.heap.size, 0, none⟩ = some (.slice A o.length n) ∧ W.cell? ⟨w.heap.size, 1, none⟩ = some (.slice A' c.length n')) ∧ (W.cell? ⟨bb, off + k * 8, none⟩ = some (.int .i64 t.keep) ∧ W.cell? ⟨bb, off + k * 8 + 1, none⟩ = some (.int .i64 t.free) ∧ W.cell? ⟨bb, off + k * 8 + 2, none⟩ = some (.int .i64 t.step) ∧ W.cell? ⟨bb, off + k * 8 + 3, none⟩ = some (.int .i64 t.rate) ∧ W.cell? ⟨bb, off + k * 8 + 4, none⟩ = some (.int .i64 t.cap) ∧ W.cell? ⟨bb, off + k * 8 + 5, none⟩ = some (.int .i64 t.longer) ∧ W.cell? ⟨bb, off + k * 8 + 6, none⟩ = some (.int .i64 t.price) ∧ W.cell? ⟨bb, off + k * 8 + 7, none⟩ = some (.int .i64 t.most)) ∧ Below wr.heap.size wr W) wh := ⟨⟨(bold hh _ _ hzd).trans S0.1.1, (bold hh _ _ hzd).trans S0.1.2⟩, ⟨(bold hh _ _ hzbb).trans S0.2.1.1, (bold hh _ _ hzbb).trans S0.2.1.2.1, (bold hh _ _ hzbb).trans S0.2.1.2.2.1, (bold hh _ _ hzbb).trans S0.2.1.2.2.2.1, (bold hh _ _ hzbb).trans S0.2.1.2.2.2.2.1, (bold hh _ _ hzbb).trans S0.2.1.2.2.2.2.2.1, (bold hh _ _ hzbb).trans S0.2.1.2.2.2.2.2.2.1, (bold hh _ _ hzbb).trans S0.2.1.2.2.2.2.2.2.2⟩, bthen S0.2.2 hh⟩))
      have hb : Below wr.heap.size wr wh := S1.2.2
      clear S0 S1 zc zd hzs hzd hzbb
      have wa := WAH.out; clear WAH
      have zb := ZB.out; clear ZB
      replace hbr := bthen hbr hb
      replace wa := has_call wa hb
      replace zb := bthen zb hb; clear hb
      have wac0 := has_cell wa 0 rfl; have wac1 := has_cell wa 1 rfl
      have walt := has_lt wa
      have WAH := Lib.hid wa; clear wa
      have ZB := Lib.hid zb; clear zb
      go_wp2_with fail
      clear wac0 wac1 walt
      have wa := WAH.out; clear WAH
      have zb := ZB.out; clear ZB
      go_roundw
      case rel => exact ⟨k + 1, b, m, by omega, by go_num, rfl, rfl, by omega, by omega, by omega, by omega, by rw [if_pos hsm]; exact (by rw [show ((k + 1 : Nat) : Int) = (k : Int) + 1 by omega]; exact Hv.out), hbr⟩
      case measure => simp [intOf]; omega
    | some x =>
      have hxr := bill_range hq
      obtain ⟨hx0, hx1⟩ := hxr
      by_cases hb2 : b < 0
      · have hbn : b = -1 := by omega
        subst hbn
        have Hv := Lib.hid ((cheap_put hx _ _ _ hq (.inl hb2)).symm.trans Hr.out)
        have Hq := Lib.hid hq; clear hq hx
        have wa := has_call WA0.out hb
        have zb := bthen ZB0.out hb
        have hbr := hb; clear hb
        have wac0 := has_cell wa 0 rfl; have wac1 := has_cell wa 1 rfl
        have walt := has_lt wa
        have WAH := Lib.hid wa; clear wa
        have ZB := Lib.hid zb; clear zb
        go_wp2_with fail
        have S0 : (fun W : World => (W.cell? ⟨w.heap.size, 0, none⟩ = some (.slice A o.length n) ∧ W.cell? ⟨w.heap.size, 1, none⟩ = some (.slice A' c.length n')) ∧ (W.cell? ⟨bb, off + k * 8, none⟩ = some (.int .i64 t.keep) ∧ W.cell? ⟨bb, off + k * 8 + 1, none⟩ = some (.int .i64 t.free) ∧ W.cell? ⟨bb, off + k * 8 + 2, none⟩ = some (.int .i64 t.step) ∧ W.cell? ⟨bb, off + k * 8 + 3, none⟩ = some (.int .i64 t.rate) ∧ W.cell? ⟨bb, off + k * 8 + 4, none⟩ = some (.int .i64 t.cap) ∧ W.cell? ⟨bb, off + k * 8 + 5, none⟩ = some (.int .i64 t.longer) ∧ W.cell? ⟨bb, off + k * 8 + 6, none⟩ = some (.int .i64 t.price) ∧ W.cell? ⟨bb, off + k * 8 + 7, none⟩ = some (.int .i64 t.most)) ∧ Below wr.heap.size wr W) wr.drew := ⟨⟨wac0, wac1⟩, ⟨hc0, hc1, hc2, hc3, hc4, hc5, hc6, hc7⟩, (Below.refl _ _).drew⟩
        have zc : Below w.heap.size w wr := ZB.out
        have zd : Below w.heap.size w wr.drew := zc.drew
        have hzs := zc.size
        have hzd : w.heap.size < wr.drew.heap.size := walt
        have hzbb : bb < wr.drew.heap.size := by have := zc.size; exact Nat.lt_of_lt_of_le hbB (Nat.le_trans hB this)
        clear wac0 wac1 walt
        go_region_held3 (fun W : World => (W.cell? ⟨w.heap.size, 0, none⟩ = some (.slice A o.length n) ∧ W.cell? ⟨w.heap.size, 1, none⟩ = some (.slice A' c.length n')) ∧ (W.cell? ⟨bb, off + k * 8, none⟩ = some (.int .i64 t.keep) ∧ W.cell? ⟨bb, off + k * 8 + 1, none⟩ = some (.int .i64 t.free) ∧ W.cell? ⟨bb, off + k * 8 + 2, none⟩ = some (.int .i64 t.step) ∧ W.cell? ⟨bb, off + k * 8 + 3, none⟩ = some (.int .i64 t.rate) ∧ W.cell? ⟨bb, off + k * 8 + 4, none⟩ = some (.int .i64 t.cap) ∧ W.cell? ⟨bb, off + k * 8 + 5, none⟩ = some (.int .i64 t.longer) ∧ W.cell? ⟨bb, off + k * 8 + 6, none⟩ = some (.int .i64 t.price) ∧ W.cell? ⟨bb, off + k * 8 + 7, none⟩ = some (.int .i64 t.most)) ∧ Below wr.heap.size wr W) (first | assumption) (first
          | (go_at_call 9; go_must (refine (billS_any wr.drew B A A' n n' o c t AF cF L ho hc (by have := zd.size; omega) (HS.out.later hB zd) (HS'.out.later hB zd) NL.out (HL.out.later hB zd)).mono ?_); rintro r wh ⟨rfl, hh⟩; rw [Hq.out]; unfold pairV; have S1 : (fun W : World => (W.cell? ⟨w.heap.size, 0, none⟩ = some (.slice A o.length n) ∧ W.cell? ⟨w.heap.size, 1, none⟩ = some (.slice A' c.length n')) ∧ (W.cell? ⟨bb, off + k * 8, none⟩ = some (.int .i64 t.keep) ∧ W.cell? ⟨bb, off + k * 8 + 1, none⟩ = some (.int .i64 t.free) ∧ W.cell? ⟨bb, off + k * 8 + 2, none⟩ = some (.int .i64 t.step) ∧ W.cell? ⟨bb, off + k * 8 + 3, none⟩ = some (.int .i64 t.rate) ∧ W.cell? ⟨bb, off + k * 8 + 4, none⟩ = some (.int .i64 t.cap) ∧ W.cell? ⟨bb, off + k * 8 + 5, none⟩ = some (.int .i64 t.longer) ∧ W.cell? ⟨bb, off + k * 8 + 6, none⟩ = some (.int .i64 t.price) ∧ W.cell? ⟨bb, off + k * 8 + 7, none⟩ = some (.int .i64 t.most)) ∧ Below wr.heap.size wr W) wh := ⟨⟨(bold hh _ _ hzd).trans S0.1.1, (bold hh _ _ hzd).trans S0.1.2⟩, ⟨(bold hh _ _ hzbb).trans S0.2.1.1, (bold hh _ _ hzbb).trans S0.2.1.2.1, (bold hh _ _ hzbb).trans S0.2.1.2.2.1, (bold hh _ _ hzbb).trans S0.2.1.2.2.2.1, (bold hh _ _ hzbb).trans S0.2.1.2.2.2.2.1, (bold hh _ _ hzbb).trans S0.2.1.2.2.2.2.2.1, (bold hh _ _ hzbb).trans S0.2.1.2.2.2.2.2.2.1, (bold hh _ _ hzbb).trans S0.2.1.2.2.2.2.2.2.2⟩, bthen S0.2.2 hh⟩))
        have hb : Below wr.heap.size wr wh := S1.2.2
        clear S0 S1 zc zd hzs hzd hzbb
        have wa := WAH.out; clear WAH
        have zb := ZB.out; clear ZB
        replace hbr := bthen hbr hb
        replace wa := has_call wa hb
        replace zb := bthen zb hb; clear hb
        have wac0 := has_cell wa 0 rfl; have wac1 := has_cell wa 1 rfl
        have walt := has_lt wa
        have WAH := Lib.hid wa; clear wa
        have ZB := Lib.hid zb; clear zb
        go_wp2_with fail
        clear wac0 wac1 walt
        have wa := WAH.out; clear WAH
        have zb := ZB.out; clear ZB
        go_roundw
        case rel => exact ⟨k + 1, k, x, by omega, by go_num, rfl, rfl, by omega, by omega, by omega, by omega, by rw [if_pos hsm]; exact (by rw [show ((k + 1 : Nat) : Int) = (k : Int) + 1 by omega]; exact Hv.out), hbr⟩
        case measure => simp [intOf]; omega
      have hbe : (b == -1) = false := by simp; omega
      by_cases hxm : x < m
      · skip
        have Hv := Lib.hid ((cheap_put hx _ _ _ hq (.inr hxm)).symm.trans Hr.out)
        have Hq := Lib.hid hq; clear hq hx
        have wa := has_call WA0.out hb
        have zb := bthen ZB0.out hb
        have hbr := hb; clear hb
        have wac0 := has_cell wa 0 rfl; have wac1 := has_cell wa 1 rfl
        have walt := has_lt wa
        have WAH := Lib.hid wa; clear wa
        have ZB := Lib.hid zb; clear zb
        go_wp2_with fail
        have S0 : (fun W : World => (W.cell? ⟨w.heap.size, 0, none⟩ = some (.slice A o.length n) ∧ W.cell? ⟨w.heap.size, 1, none⟩ = some (.slice A' c.length n')) ∧ (W.cell? ⟨bb, off + k * 8, none⟩ = some (.int .i64 t.keep) ∧ W.cell? ⟨bb, off + k * 8 + 1, none⟩ = some (.int .i64 t.free) ∧ W.cell? ⟨bb, off + k * 8 + 2, none⟩ = some (.int .i64 t.step) ∧ W.cell? ⟨bb, off + k * 8 + 3, none⟩ = some (.int .i64 t.rate) ∧ W.cell? ⟨bb, off + k * 8 + 4, none⟩ = some (.int .i64 t.cap) ∧ W.cell? ⟨bb, off + k * 8 + 5, none⟩ = some (.int .i64 t.longer) ∧ W.cell? ⟨bb, off + k * 8 + 6, none⟩ = some (.int .i64 t.price) ∧ W.cell? ⟨bb, off + k * 8 + 7, none⟩ = some (.int .i64 t.most)) ∧ Below wr.heap.size wr W) wr.drew := ⟨⟨wac0, wac1⟩, ⟨hc0, hc1, hc2, hc3, hc4, hc5, hc6, hc7⟩, (Below.refl _ _).drew⟩
        have zc : Below w.heap.size w wr := ZB.out
        have zd : Below w.heap.size w wr.drew := zc.drew
        have hzs := zc.size
        have hzd : w.heap.size < wr.drew.heap.size := walt
        have hzbb : bb < wr.drew.heap.size := by have := zc.size; exact Nat.lt_of_lt_of_le hbB (Nat.le_trans hB this)
        clear wac0 wac1 walt
        go_region_held3 (fun W : World => (W.cell? ⟨w.heap.size, 0, none⟩ = some (.slice A o.length n) ∧ W.cell? ⟨w.heap.size, 1, none⟩ = some (.slice A' c.length n')) ∧ (W.cell? ⟨bb, off + k * 8, none⟩ = some (.int .i64 t.keep) ∧ W.cell? ⟨bb, off + k * 8 + 1, none⟩ = some (.int .i64 t.free) ∧ W.cell? ⟨bb, off + k * 8 + 2, none⟩ = some (.int .i64 t.step) ∧ W.cell? ⟨bb, off + k * 8 + 3, none⟩ = some (.int .i64 t.rate) ∧ W.cell? ⟨bb, off + k * 8 + 4, none⟩ = some (.int .i64 t.cap) ∧ W.cell? ⟨bb, off + k * 8 + 5, none⟩ = some (.int .i64 t.longer) ∧ W.cell? ⟨bb, off + k * 8 + 6, none⟩ = some (.int .i64 t.price) ∧ W.cell? ⟨bb, off + k * 8 + 7, none⟩ = some (.int .i64 t.most)) ∧ Below wr.heap.size wr W) (first | assumption) (first
          | (go_at_call 9; go_must (refine (billS_any wr.drew B A A' n n' o c t AF cF L ho hc (by have := zd.size; omega) (HS.out.later hB zd) (HS'.out.later hB zd) NL.out (HL.out.later hB zd)).mono ?_); rintro r wh ⟨rfl, hh⟩; rw [Hq.out]; unfold pairV; have S1 : (fun W : World => (W.cell? ⟨w.heap.size, 0, none⟩ = some (.slice A o.length n) ∧ W.cell? ⟨w.heap.size, 1, none⟩ = some (.slice A' c.length n')) ∧ (W.cell? ⟨bb, off + k * 8, none⟩ = some (.int .i64 t.keep) ∧ W.cell? ⟨bb, off + k * 8 + 1, none⟩ = some (.int .i64 t.free) ∧ W.cell? ⟨bb, off + k * 8 + 2, none⟩ = some (.int .i64 t.step) ∧ W.cell? ⟨bb, off + k * 8 + 3, none⟩ = some (.int .i64 t.rate) ∧ W.cell? ⟨bb, off + k * 8 + 4, none⟩ = some (.int .i64 t.cap) ∧ W.cell? ⟨bb, off + k * 8 + 5, none⟩ = some (.int .i64 t.longer) ∧ W.cell? ⟨bb, off + k * 8 + 6, none⟩ = some (.int .i64 t.price) ∧ W.cell? ⟨bb, off + k * 8 + 7, none⟩ = some (.int .i64 t.most)) ∧ Below wr.heap.size wr W) wh := ⟨⟨(bold hh _ _ hzd).trans S0.1.1, (bold hh _ _ hzd).trans S0.1.2⟩, ⟨(bold hh _ _ hzbb).trans S0.2.1.1, (bold hh _ _ hzbb).trans S0.2.1.2.1, (bold hh _ _ hzbb).trans S0.2.1.2.2.1, (bold hh _ _ hzbb).trans S0.2.1.2.2.2.1, (bold hh _ _ hzbb).trans S0.2.1.2.2.2.2.1, (bold hh _ _ hzbb).trans S0.2.1.2.2.2.2.2.1, (bold hh _ _ hzbb).trans S0.2.1.2.2.2.2.2.2.1, (bold hh _ _ hzbb).trans S0.2.1.2.2.2.2.2.2.2⟩, bthen S0.2.2 hh⟩))
        have hb : Below wr.heap.size wr wh := S1.2.2
        clear S0 S1 zc zd hzs hzd hzbb
        have wa := WAH.out; clear WAH
        have zb := ZB.out; clear ZB
        replace hbr := bthen hbr hb
        replace wa := has_call wa hb
        replace zb := bthen zb hb; clear hb
        have wac0 := has_cell wa 0 rfl; have wac1 := has_cell wa 1 rfl
        have walt := has_lt wa
        have WAH := Lib.hid wa; clear wa
        have ZB := Lib.hid zb; clear zb
        go_wp2_with fail
        clear wac0 wac1 walt
        have wa := WAH.out; clear WAH
        have zb := ZB.out; clear ZB
        go_roundw
        case rel => exact ⟨k + 1, k, x, by omega, by go_num, rfl, rfl, by omega, by omega, by omega, by omega, by rw [if_pos hsm]; exact (by rw [show ((k + 1 : Nat) : Int) = (k : Int) + 1 by omega]; exact Hv.out), hbr⟩
        case measure => simp [intOf]; omega
      · skip
        have Hv := Lib.hid ((cheap_keep hx _ _ _ hq (by omega)).symm.trans Hr.out)
        have Hq := Lib.hid hq; clear hq hx
        have wa := has_call WA0.out hb
        have zb := bthen ZB0.out hb
        have hbr := hb; clear hb
        have wac0 := has_cell wa 0 rfl; have wac1 := has_cell wa 1 rfl
        have walt := has_lt wa
        have WAH := Lib.hid wa; clear wa
        have ZB := Lib.hid zb; clear zb
        go_wp2_with fail
        have S0 : (fun W : World => (W.cell? ⟨w.heap.size, 0, none⟩ = some (.slice A o.length n) ∧ W.cell? ⟨w.heap.size, 1, none⟩ = some (.slice A' c.length n')) ∧ (W.cell? ⟨bb, off + k * 8, none⟩ = some (.int .i64 t.keep) ∧ W.cell? ⟨bb, off + k * 8 + 1, none⟩ = some (.int .i64 t.free) ∧ W.cell? ⟨bb, off + k * 8 + 2, none⟩ = some (.int .i64 t.step) ∧ W.cell? ⟨bb, off + k * 8 + 3, none⟩ = some (.int .i64 t.rate) ∧ W.cell? ⟨bb, off + k * 8 + 4, none⟩ = some (.int .i64 t.cap) ∧ W.cell? ⟨bb, off + k * 8 + 5, none⟩ = some (.int .i64 t.longer) ∧ W.cell? ⟨bb, off + k * 8 + 6, none⟩ = some (.int .i64 t.price) ∧ W.cell? ⟨bb, off + k * 8 + 7, none⟩ = some (.int .i64 t.most)) ∧ Below wr.heap.size wr W) wr.drew := ⟨⟨wac0, wac1⟩, ⟨hc0, hc1, hc2, hc3, hc4, hc5, hc6, hc7⟩, (Below.refl _ _).drew⟩
        have zc : Below w.heap.size w wr := ZB.out
        have zd : Below w.heap.size w wr.drew := zc.drew
        have hzs := zc.size
        have hzd : w.heap.size < wr.drew.heap.size := walt
        have hzbb : bb < wr.drew.heap.size := by have := zc.size; exact Nat.lt_of_lt_of_le hbB (Nat.le_trans hB this)
        clear wac0 wac1 walt
        go_region_held3 (fun W : World => (W.cell? ⟨w.heap.size, 0, none⟩ = some (.slice A o.length n) ∧ W.cell? ⟨w.heap.size, 1, none⟩ = some (.slice A' c.length n')) ∧ (W.cell? ⟨bb, off + k * 8, none⟩ = some (.int .i64 t.keep) ∧ W.cell? ⟨bb, off + k * 8 + 1, none⟩ = some (.int .i64 t.free) ∧ W.cell? ⟨bb, off + k * 8 + 2, none⟩ = some (.int .i64 t.step) ∧ W.cell? ⟨bb, off + k * 8 + 3, none⟩ = some (.int .i64 t.rate) ∧ W.cell? ⟨bb, off + k * 8 + 4, none⟩ = some (.int .i64 t.cap) ∧ W.cell? ⟨bb, off + k * 8 + 5, none⟩ = some (.int .i64 t.longer) ∧ W.cell? ⟨bb, off + k * 8 + 6, none⟩ = some (.int .i64 t.price) ∧ W.cell? ⟨bb, off + k * 8 + 7, none⟩ = some (.int .i64 t.most)) ∧ Below wr.heap.size wr W) (first | assumption) (first
          | (go_at_call 9; go_must (refine (billS_any wr.drew B A A' n n' o c t AF cF L ho hc (by have := zd.size; omega) (HS.out.later hB zd) (HS'.out.later hB zd) NL.out (HL.out.later hB zd)).mono ?_); rintro r wh ⟨rfl, hh⟩; rw [Hq.out]; unfold pairV; have S1 : (fun W : World => (W.cell? ⟨w.heap.size, 0, none⟩ = some (.slice A o.length n) ∧ W.cell? ⟨w.heap.size, 1, none⟩ = some (.slice A' c.length n')) ∧ (W.cell? ⟨bb, off + k * 8, none⟩ = some (.int .i64 t.keep) ∧ W.cell? ⟨bb, off + k * 8 + 1, none⟩ = some (.int .i64 t.free) ∧ W.cell? ⟨bb, off + k * 8 + 2, none⟩ = some (.int .i64 t.step) ∧ W.cell? ⟨bb, off + k * 8 + 3, none⟩ = some (.int .i64 t.rate) ∧ W.cell? ⟨bb, off + k * 8 + 4, none⟩ = some (.int .i64 t.cap) ∧ W.cell? ⟨bb, off + k * 8 + 5, none⟩ = some (.int .i64 t.longer) ∧ W.cell? ⟨bb, off + k * 8 + 6, none⟩ = some (.int .i64 t.price) ∧ W.cell? ⟨bb, off + k * 8 + 7, none⟩ = some (.int .i64 t.most)) ∧ Below wr.heap.size wr W) wh := ⟨⟨(bold hh _ _ hzd).trans S0.1.1, (bold hh _ _ hzd).trans S0.1.2⟩, ⟨(bold hh _ _ hzbb).trans S0.2.1.1, (bold hh _ _ hzbb).trans S0.2.1.2.1, (bold hh _ _ hzbb).trans S0.2.1.2.2.1, (bold hh _ _ hzbb).trans S0.2.1.2.2.2.1, (bold hh _ _ hzbb).trans S0.2.1.2.2.2.2.1, (bold hh _ _ hzbb).trans S0.2.1.2.2.2.2.2.1, (bold hh _ _ hzbb).trans S0.2.1.2.2.2.2.2.2.1, (bold hh _ _ hzbb).trans S0.2.1.2.2.2.2.2.2.2⟩, bthen S0.2.2 hh⟩))
        have hb : Below wr.heap.size wr wh := S1.2.2
        clear S0 S1 zc zd hzs hzd hzbb
        have wa := WAH.out; clear WAH
        have zb := ZB.out; clear ZB
        replace hbr := bthen hbr hb
        replace wa := has_call wa hb
        replace zb := bthen zb hb; clear hb
        have wac0 := has_cell wa 0 rfl; have wac1 := has_cell wa 1 rfl
        have walt := has_lt wa
        have WAH := Lib.hid wa; clear wa
        have ZB := Lib.hid zb; clear zb
        go_wp2_with fail
        clear wac0 wac1 walt
        have wa := WAH.out; clear WAH
        have zb := ZB.out; clear ZB
        go_roundw
        case rel => exact ⟨k + 1, b, m, by omega, by go_num, rfl, rfl, by omega, by omega, by omega, by omega, by rw [if_pos hsm]; exact (by rw [show ((k + 1 : Nat) : Int) = (k : Int) + 1 by omega]; exact Hv.out), hbr⟩
        case measure => simp [intOf]; omega
end Go.Proofs.Ytfkhhefphbhppaa
