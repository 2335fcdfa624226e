/- Chapter 6: contracts of DeadlineOf, by the program and by the model (gen_feea.py). -/
import Derived.Test.YtpooffekjealhaaFeeU
namespace Go.Proofs.Ytpooffekjealhaa
open Go.RowKit
set_option linter.unusedVariables false
set_option maxRecDepth 100000 in
set_option maxHeartbeats 4000000 in
theorem deadI_any (w : World) (B : Nat) (A A' : Option Addr) (n n' : Nat) (o c : List (Int × Int)) (t : Tm) (a e : Int) (ho : o.length ≤ maxLen) (hc : c.length ≤ maxLen) (hB : B ≤ w.heap.size) (hS : SL w B A o) (hS' : SL w B A' c) : Calls Try.prog 10 #[.agg #[.slice A o.length n, .slice A' c.length n'], .agg #[.int .i64 t.keep, .int .i64 t.free, .int .i64 t.step, .int .i64 t.rate, .int .i64 t.cap, .int .i64 t.longer, .int .i64 t.price, .int .i64 t.most], .int .i64 a, .int .i64 e] w fun r w' => r = .returned (pairV (deadB o c t a e)) ∧ Below w.heap.size w w' := by
  have HS := Lib.hid hS; clear hS
  have HS' := Lib.hid hS'; clear hS'
  cases h0 : weekB o c
  · have H0 := Lib.hid h0; clear h0
    go_enter Try.func10, Try.ntmps10
    go_wp2_with fail
    generalize hX : (w.alloc (.cells #[.slice A o.length n, .slice A' c.length n'] 26)) = w1
    have hb : Below w.heap.size w w1 := by rw [← hX]; exact balloc _ _
    have hk : Has w1 w.heap.size 26 #[.slice A o.length n, .slice A' c.length n'] := by rw [← hX]; exact has_new _ _ _
    have hzw1 : w1.heap.size = w.heap.size + 1 := by rw [← hX]; simp
    clear hX
    have zb := hb; clear hb
    have wa := hk; clear hk
    generalize hX : (w1.alloc (.cells #[.int .i64 t.keep, .int .i64 t.free, .int .i64 t.step, .int .i64 t.rate, .int .i64 t.cap, .int .i64 t.longer, .int .i64 t.price, .int .i64 t.most] 29)) = w2
    have hb : Below w1.heap.size w1 w2 := by rw [← hX]; exact balloc _ _
    have hk : Has w2 w1.heap.size 29 #[.int .i64 t.keep, .int .i64 t.free, .int .i64 t.step, .int .i64 t.rate, .int .i64 t.cap, .int .i64 t.longer, .int .i64 t.price, .int .i64 t.most] := by rw [← hX]; exact has_new _ _ _
    have hzw2 : w2.heap.size = w.heap.size + 2 := by rw [← hX]; simp [hzw1]
    clear hX
    rw [hzw1] at hk
    replace wa := has_call wa hb
    replace zb := bthen zb hb; clear hb
    have ta := hk; clear hk
    clear hzw1 hzw2
    have wac0 := has_cell wa 0 rfl; have wac1 := has_cell wa 1 rfl
    have walt := has_lt wa
    have tac0 := has_cell ta 0 rfl; have tac1 := has_cell ta 1 rfl; have tac2 := has_cell ta 2 rfl; have tac3 := has_cell ta 3 rfl; have tac4 := has_cell ta 4 rfl; have tac5 := has_cell ta 5 rfl; have tac6 := has_cell ta 6 rfl; have tac7 := has_cell ta 7 rfl
    have talt := has_lt ta
    have WAH := Lib.hid wa; clear wa
    have TAH := Lib.hid ta; clear ta
    have ZB := Lib.hid zb; clear zb
    go_wp2_with fail
    clear wac0 wac1 walt tac0 tac1 tac2 tac3 tac4 tac5 tac6 tac7 talt
    have wa := WAH.out; clear WAH
    have ta := TAH.out; clear TAH
    have zb := ZB.out; clear ZB
    refine (weekI_any _ B A A' n n' o c ho hc (by have := zb.size; omega) (HS.out.later hB zb) (HS'.out.later hB zb)).mono ?_
    rintro e w3 ⟨rfl, hb⟩
    rw [H0.out]
    replace wa := has_call wa hb
    replace ta := has_call ta hb
    replace zb := bthen zb hb; clear hb
    have wac0 := has_cell wa 0 rfl; have wac1 := has_cell wa 1 rfl
    have walt := has_lt wa
    have tac0 := has_cell ta 0 rfl; have tac1 := has_cell ta 1 rfl; have tac2 := has_cell ta 2 rfl; have tac3 := has_cell ta 3 rfl; have tac4 := has_cell ta 4 rfl; have tac5 := has_cell ta 5 rfl; have tac6 := has_cell ta 6 rfl; have tac7 := has_cell ta 7 rfl
    have talt := has_lt ta
    have WAH := Lib.hid wa; clear wa
    have TAH := Lib.hid ta; clear ta
    have ZB := Lib.hid zb; clear zb
    go_wp2_with fail
    clear wac0 wac1 walt tac0 tac1 tac2 tac3 tac4 tac5 tac6 tac7 talt
    have wa := WAH.out; clear WAH
    have ta := TAH.out; clear TAH
    have zb := ZB.out; clear ZB
    go_ret2
    exact ⟨ret_none (by unfold deadB afterB; rw [H0.out]; simp), zb⟩
  have H0 := Lib.hid h0; clear h0
  cases h1 : termsB t
  · have H1 := Lib.hid h1; clear h1
    go_enter Try.func10, Try.ntmps10
    go_wp2_with fail
    generalize hX : (w.alloc (.cells #[.slice A o.length n, .slice A' c.length n'] 26)) = w1
    have hb : Below w.heap.size w w1 := by rw [← hX]; exact balloc _ _
    have hk : Has w1 w.heap.size 26 #[.slice A o.length n, .slice A' c.length n'] := by rw [← hX]; exact has_new _ _ _
    have hzw1 : w1.heap.size = w.heap.size + 1 := by rw [← hX]; simp
    clear hX
    have zb := hb; clear hb
    have wa := hk; clear hk
    generalize hX : (w1.alloc (.cells #[.int .i64 t.keep, .int .i64 t.free, .int .i64 t.step, .int .i64 t.rate, .int .i64 t.cap, .int .i64 t.longer, .int .i64 t.price, .int .i64 t.most] 29)) = w2
    have hb : Below w1.heap.size w1 w2 := by rw [← hX]; exact balloc _ _
    have hk : Has w2 w1.heap.size 29 #[.int .i64 t.keep, .int .i64 t.free, .int .i64 t.step, .int .i64 t.rate, .int .i64 t.cap, .int .i64 t.longer, .int .i64 t.price, .int .i64 t.most] := by rw [← hX]; exact has_new _ _ _
    have hzw2 : w2.heap.size = w.heap.size + 2 := by rw [← hX]; simp [hzw1]
    clear hX
    rw [hzw1] at hk
    replace wa := has_call wa hb
    replace zb := bthen zb hb; clear hb
    have ta := hk; clear hk
    clear hzw1 hzw2
    have wac0 := has_cell wa 0 rfl; have wac1 := has_cell wa 1 rfl
    have walt := has_lt wa
    have tac0 := has_cell ta 0 rfl; have tac1 := has_cell ta 1 rfl; have tac2 := has_cell ta 2 rfl; have tac3 := has_cell ta 3 rfl; have tac4 := has_cell ta 4 rfl; have tac5 := has_cell ta 5 rfl; have tac6 := has_cell ta 6 rfl; have tac7 := has_cell ta 7 rfl
    have talt := has_lt ta
    have WAH := Lib.hid wa; clear wa
    have TAH := Lib.hid ta; clear ta
    have ZB := Lib.hid zb; clear zb
    go_wp2_with fail
    clear wac0 wac1 walt tac0 tac1 tac2 tac3 tac4 tac5 tac6 tac7 talt
    have wa := WAH.out; clear WAH
    have ta := TAH.out; clear TAH
    have zb := ZB.out; clear ZB
    refine (weekI_any _ B A A' n n' o c ho hc (by have := zb.size; omega) (HS.out.later hB zb) (HS'.out.later hB zb)).mono ?_
    rintro e w3 ⟨rfl, hb⟩
    rw [H0.out]
    replace wa := has_call wa hb
    replace ta := has_call ta hb
    replace zb := bthen zb hb; clear hb
    have wac0 := has_cell wa 0 rfl; have wac1 := has_cell wa 1 rfl
    have walt := has_lt wa
    have tac0 := has_cell ta 0 rfl; have tac1 := has_cell ta 1 rfl; have tac2 := has_cell ta 2 rfl; have tac3 := has_cell ta 3 rfl; have tac4 := has_cell ta 4 rfl; have tac5 := has_cell ta 5 rfl; have tac6 := has_cell ta 6 rfl; have tac7 := has_cell ta 7 rfl
    have talt := has_lt ta
    have WAH := Lib.hid wa; clear wa
    have TAH := Lib.hid ta; clear ta
    have ZB := Lib.hid zb; clear zb
    go_wp2_with fail
    clear wac0 wac1 walt tac0 tac1 tac2 tac3 tac4 tac5 tac6 tac7 talt
    have wa := WAH.out; clear WAH
    have ta := TAH.out; clear TAH
    have zb := ZB.out; clear ZB
    refine (termsI_any _ t).mono ?_
    rintro e w4 ⟨rfl, hb⟩
    rw [H1.out]
    replace wa := has_call wa hb
    replace ta := has_call ta hb
    replace zb := bthen zb hb; clear hb
    have wac0 := has_cell wa 0 rfl; have wac1 := has_cell wa 1 rfl
    have walt := has_lt wa
    have tac0 := has_cell ta 0 rfl; have tac1 := has_cell ta 1 rfl; have tac2 := has_cell ta 2 rfl; have tac3 := has_cell ta 3 rfl; have tac4 := has_cell ta 4 rfl; have tac5 := has_cell ta 5 rfl; have tac6 := has_cell ta 6 rfl; have tac7 := has_cell ta 7 rfl
    have talt := has_lt ta
    have WAH := Lib.hid wa; clear wa
    have TAH := Lib.hid ta; clear ta
    have ZB := Lib.hid zb; clear zb
    go_wp2_with fail
    clear wac0 wac1 walt tac0 tac1 tac2 tac3 tac4 tac5 tac6 tac7 talt
    have wa := WAH.out; clear WAH
    have ta := TAH.out; clear TAH
    have zb := ZB.out; clear ZB
    go_ret2
    exact ⟨ret_none (by unfold deadB; rw [H1.out]; simp), zb⟩
  have H1 := Lib.hid h1; clear h1
  cases h2 : timeB a
  · have H2 := Lib.hid h2; clear h2
    go_enter Try.func10, Try.ntmps10
    go_wp2_with fail
    generalize hX : (w.alloc (.cells #[.slice A o.length n, .slice A' c.length n'] 26)) = w1
    have hb : Below w.heap.size w w1 := by rw [← hX]; exact balloc _ _
    have hk : Has w1 w.heap.size 26 #[.slice A o.length n, .slice A' c.length n'] := by rw [← hX]; exact has_new _ _ _
    have hzw1 : w1.heap.size = w.heap.size + 1 := by rw [← hX]; simp
    clear hX
    have zb := hb; clear hb
    have wa := hk; clear hk
    generalize hX : (w1.alloc (.cells #[.int .i64 t.keep, .int .i64 t.free, .int .i64 t.step, .int .i64 t.rate, .int .i64 t.cap, .int .i64 t.longer, .int .i64 t.price, .int .i64 t.most] 29)) = w2
    have hb : Below w1.heap.size w1 w2 := by rw [← hX]; exact balloc _ _
    have hk : Has w2 w1.heap.size 29 #[.int .i64 t.keep, .int .i64 t.free, .int .i64 t.step, .int .i64 t.rate, .int .i64 t.cap, .int .i64 t.longer, .int .i64 t.price, .int .i64 t.most] := by rw [← hX]; exact has_new _ _ _
    have hzw2 : w2.heap.size = w.heap.size + 2 := by rw [← hX]; simp [hzw1]
    clear hX
    rw [hzw1] at hk
    replace wa := has_call wa hb
    replace zb := bthen zb hb; clear hb
    have ta := hk; clear hk
    clear hzw1 hzw2
    have wac0 := has_cell wa 0 rfl; have wac1 := has_cell wa 1 rfl
    have walt := has_lt wa
    have tac0 := has_cell ta 0 rfl; have tac1 := has_cell ta 1 rfl; have tac2 := has_cell ta 2 rfl; have tac3 := has_cell ta 3 rfl; have tac4 := has_cell ta 4 rfl; have tac5 := has_cell ta 5 rfl; have tac6 := has_cell ta 6 rfl; have tac7 := has_cell ta 7 rfl
    have talt := has_lt ta
    have WAH := Lib.hid wa; clear wa
    have TAH := Lib.hid ta; clear ta
    have ZB := Lib.hid zb; clear zb
    go_wp2_with fail
    clear wac0 wac1 walt tac0 tac1 tac2 tac3 tac4 tac5 tac6 tac7 talt
    have wa := WAH.out; clear WAH
    have ta := TAH.out; clear TAH
    have zb := ZB.out; clear ZB
    refine (weekI_any _ B A A' n n' o c ho hc (by have := zb.size; omega) (HS.out.later hB zb) (HS'.out.later hB zb)).mono ?_
    rintro e w3 ⟨rfl, hb⟩
    rw [H0.out]
    replace wa := has_call wa hb
    replace ta := has_call ta hb
    replace zb := bthen zb hb; clear hb
    have wac0 := has_cell wa 0 rfl; have wac1 := has_cell wa 1 rfl
    have walt := has_lt wa
    have tac0 := has_cell ta 0 rfl; have tac1 := has_cell ta 1 rfl; have tac2 := has_cell ta 2 rfl; have tac3 := has_cell ta 3 rfl; have tac4 := has_cell ta 4 rfl; have tac5 := has_cell ta 5 rfl; have tac6 := has_cell ta 6 rfl; have tac7 := has_cell ta 7 rfl
    have talt := has_lt ta
    have WAH := Lib.hid wa; clear wa
    have TAH := Lib.hid ta; clear ta
    have ZB := Lib.hid zb; clear zb
    go_wp2_with fail
    clear wac0 wac1 walt tac0 tac1 tac2 tac3 tac4 tac5 tac6 tac7 talt
    have wa := WAH.out; clear WAH
    have ta := TAH.out; clear TAH
    have zb := ZB.out; clear ZB
    refine (termsI_any _ t).mono ?_
    rintro e w4 ⟨rfl, hb⟩
    rw [H1.out]
    replace wa := has_call wa hb
    replace ta := has_call ta hb
    replace zb := bthen zb hb; clear hb
    have wac0 := has_cell wa 0 rfl; have wac1 := has_cell wa 1 rfl
    have walt := has_lt wa
    have tac0 := has_cell ta 0 rfl; have tac1 := has_cell ta 1 rfl; have tac2 := has_cell ta 2 rfl; have tac3 := has_cell ta 3 rfl; have tac4 := has_cell ta 4 rfl; have tac5 := has_cell ta 5 rfl; have tac6 := has_cell ta 6 rfl; have tac7 := has_cell ta 7 rfl
    have talt := has_lt ta
    have WAH := Lib.hid wa; clear wa
    have TAH := Lib.hid ta; clear ta
    have ZB := Lib.hid zb; clear zb
    go_wp2_with fail
    clear wac0 wac1 walt tac0 tac1 tac2 tac3 tac4 tac5 tac6 tac7 talt
    have wa := WAH.out; clear WAH
    have ta := TAH.out; clear TAH
    have zb := ZB.out; clear ZB
    refine (isTime_any _ a).mono ?_
    rintro e w5 ⟨rfl, hw⟩
    rw [hw]; clear hw w5
    rw [H2.out]
    have wac0 := has_cell wa 0 rfl; have wac1 := has_cell wa 1 rfl
    have walt := has_lt wa
    have tac0 := has_cell ta 0 rfl; have tac1 := has_cell ta 1 rfl; have tac2 := has_cell ta 2 rfl; have tac3 := has_cell ta 3 rfl; have tac4 := has_cell ta 4 rfl; have tac5 := has_cell ta 5 rfl; have tac6 := has_cell ta 6 rfl; have tac7 := has_cell ta 7 rfl
    have talt := has_lt ta
    have WAH := Lib.hid wa; clear wa
    have TAH := Lib.hid ta; clear ta
    have ZB := Lib.hid zb; clear zb
    go_wp2_with fail
    clear wac0 wac1 walt tac0 tac1 tac2 tac3 tac4 tac5 tac6 tac7 talt
    have wa := WAH.out; clear WAH
    have ta := TAH.out; clear TAH
    have zb := ZB.out; clear ZB
    go_ret2
    exact ⟨ret_none (by unfold deadB afterB; rw [H2.out]; simp), zb⟩
  have H2 := Lib.hid h2; clear h2
  cases h3 : inB e 0 t.most
  · have H3 := Lib.hid h3; clear h3
    go_enter Try.func10, Try.ntmps10
    go_wp2_with fail
    generalize hX : (w.alloc (.cells #[.slice A o.length n, .slice A' c.length n'] 26)) = w1
    have hb : Below w.heap.size w w1 := by rw [← hX]; exact balloc _ _
    have hk : Has w1 w.heap.size 26 #[.slice A o.length n, .slice A' c.length n'] := by rw [← hX]; exact has_new _ _ _
    have hzw1 : w1.heap.size = w.heap.size + 1 := by rw [← hX]; simp
    clear hX
    have zb := hb; clear hb
    have wa := hk; clear hk
    generalize hX : (w1.alloc (.cells #[.int .i64 t.keep, .int .i64 t.free, .int .i64 t.step, .int .i64 t.rate, .int .i64 t.cap, .int .i64 t.longer, .int .i64 t.price, .int .i64 t.most] 29)) = w2
    have hb : Below w1.heap.size w1 w2 := by rw [← hX]; exact balloc _ _
    have hk : Has w2 w1.heap.size 29 #[.int .i64 t.keep, .int .i64 t.free, .int .i64 t.step, .int .i64 t.rate, .int .i64 t.cap, .int .i64 t.longer, .int .i64 t.price, .int .i64 t.most] := by rw [← hX]; exact has_new _ _ _
    have hzw2 : w2.heap.size = w.heap.size + 2 := by rw [← hX]; simp [hzw1]
    clear hX
    rw [hzw1] at hk
    replace wa := has_call wa hb
    replace zb := bthen zb hb; clear hb
    have ta := hk; clear hk
    clear hzw1 hzw2
    have wac0 := has_cell wa 0 rfl; have wac1 := has_cell wa 1 rfl
    have walt := has_lt wa
    have tac0 := has_cell ta 0 rfl; have tac1 := has_cell ta 1 rfl; have tac2 := has_cell ta 2 rfl; have tac3 := has_cell ta 3 rfl; have tac4 := has_cell ta 4 rfl; have tac5 := has_cell ta 5 rfl; have tac6 := has_cell ta 6 rfl; have tac7 := has_cell ta 7 rfl
    have talt := has_lt ta
    have WAH := Lib.hid wa; clear wa
    have TAH := Lib.hid ta; clear ta
    have ZB := Lib.hid zb; clear zb
    go_wp2_with fail
    clear wac0 wac1 walt tac0 tac1 tac2 tac3 tac4 tac5 tac6 tac7 talt
    have wa := WAH.out; clear WAH
    have ta := TAH.out; clear TAH
    have zb := ZB.out; clear ZB
    refine (weekI_any _ B A A' n n' o c ho hc (by have := zb.size; omega) (HS.out.later hB zb) (HS'.out.later hB zb)).mono ?_
    rintro e w3 ⟨rfl, hb⟩
    rw [H0.out]
    replace wa := has_call wa hb
    replace ta := has_call ta hb
    replace zb := bthen zb hb; clear hb
    have wac0 := has_cell wa 0 rfl; have wac1 := has_cell wa 1 rfl
    have walt := has_lt wa
    have tac0 := has_cell ta 0 rfl; have tac1 := has_cell ta 1 rfl; have tac2 := has_cell ta 2 rfl; have tac3 := has_cell ta 3 rfl; have tac4 := has_cell ta 4 rfl; have tac5 := has_cell ta 5 rfl; have tac6 := has_cell ta 6 rfl; have tac7 := has_cell ta 7 rfl
    have talt := has_lt ta
    have WAH := Lib.hid wa; clear wa
    have TAH := Lib.hid ta; clear ta
    have ZB := Lib.hid zb; clear zb
    go_wp2_with fail
    clear wac0 wac1 walt tac0 tac1 tac2 tac3 tac4 tac5 tac6 tac7 talt
    have wa := WAH.out; clear WAH
    have ta := TAH.out; clear TAH
    have zb := ZB.out; clear ZB
    refine (termsI_any _ t).mono ?_
    rintro e w4 ⟨rfl, hb⟩
    rw [H1.out]
    replace wa := has_call wa hb
    replace ta := has_call ta hb
    replace zb := bthen zb hb; clear hb
    have wac0 := has_cell wa 0 rfl; have wac1 := has_cell wa 1 rfl
    have walt := has_lt wa
    have tac0 := has_cell ta 0 rfl; have tac1 := has_cell ta 1 rfl; have tac2 := has_cell ta 2 rfl; have tac3 := has_cell ta 3 rfl; have tac4 := has_cell ta 4 rfl; have tac5 := has_cell ta 5 rfl; have tac6 := has_cell ta 6 rfl; have tac7 := has_cell ta 7 rfl
    have talt := has_lt ta
    have WAH := Lib.hid wa; clear wa
    have TAH := Lib.hid ta; clear ta
    have ZB := Lib.hid zb; clear zb
    go_wp2_with fail
    clear wac0 wac1 walt tac0 tac1 tac2 tac3 tac4 tac5 tac6 tac7 talt
    have wa := WAH.out; clear WAH
    have ta := TAH.out; clear TAH
    have zb := ZB.out; clear ZB
    refine (isTime_any _ a).mono ?_
    rintro e w5 ⟨rfl, hw⟩
    rw [hw]; clear hw w5
    rw [H2.out]
    have wac0 := has_cell wa 0 rfl; have wac1 := has_cell wa 1 rfl
    have walt := has_lt wa
    have tac0 := has_cell ta 0 rfl; have tac1 := has_cell ta 1 rfl; have tac2 := has_cell ta 2 rfl; have tac3 := has_cell ta 3 rfl; have tac4 := has_cell ta 4 rfl; have tac5 := has_cell ta 5 rfl; have tac6 := has_cell ta 6 rfl; have tac7 := has_cell ta 7 rfl
    have talt := has_lt ta
    have WAH := Lib.hid wa; clear wa
    have TAH := Lib.hid ta; clear ta
    have ZB := Lib.hid zb; clear zb
    go_wp2_with fail
    clear wac0 wac1 walt tac0 tac1 tac2 tac3 tac4 tac5 tac6 tac7 talt
    have wa := WAH.out; clear WAH
    have ta := TAH.out; clear TAH
    have zb := ZB.out; clear ZB
    refine (isExt_any _ t e).mono ?_
    rintro e w6 ⟨rfl, hb⟩
    rw [H3.out]
    replace wa := has_call wa hb
    replace ta := has_call ta hb
    replace zb := bthen zb hb; clear hb
    have wac0 := has_cell wa 0 rfl; have wac1 := has_cell wa 1 rfl
    have walt := has_lt wa
    have tac0 := has_cell ta 0 rfl; have tac1 := has_cell ta 1 rfl; have tac2 := has_cell ta 2 rfl; have tac3 := has_cell ta 3 rfl; have tac4 := has_cell ta 4 rfl; have tac5 := has_cell ta 5 rfl; have tac6 := has_cell ta 6 rfl; have tac7 := has_cell ta 7 rfl
    have talt := has_lt ta
    have WAH := Lib.hid wa; clear wa
    have TAH := Lib.hid ta; clear ta
    have ZB := Lib.hid zb; clear zb
    go_wp2_with fail
    clear wac0 wac1 walt tac0 tac1 tac2 tac3 tac4 tac5 tac6 tac7 talt
    have wa := WAH.out; clear WAH
    have ta := TAH.out; clear TAH
    have zb := ZB.out; clear ZB
    go_ret2
    exact ⟨ret_none (by rw [deadB, if_neg (fun hx => by have := H3.out; rw [(in_iff e 0 t.most).2 hx.2] at this; cases this)]), zb⟩
  have H3 := Lib.hid h3; clear h3
  have ht : termsB t = true := H1.out
  have he := (in_iff e 0 t.most).1 H3.out
  have hlb := long_bound ht he.1 he.2
  have hkb := ((terms_iff t).1 ht).1
  have HD := Lib.hid (show deadB o c t a e = afterB o c a (t.keep + t.longer * e) by rw [deadB, if_pos ⟨ht, he⟩]); clear ht he
  obtain ⟨q, hq⟩ : ∃ q, afterB o c a (t.keep + t.longer * e) = q := ⟨_, rfl⟩
  have Hq := Lib.hid hq; clear hq
  cases q with
  | none =>
    go_enter Try.func10, Try.ntmps10
    go_wp2_with fail
    generalize hX : (w.alloc (.cells #[.slice A o.length n, .slice A' c.length n'] 26)) = w1
    have hb : Below w.heap.size w w1 := by rw [← hX]; exact balloc _ _
    have hk : Has w1 w.heap.size 26 #[.slice A o.length n, .slice A' c.length n'] := by rw [← hX]; exact has_new _ _ _
    have hzw1 : w1.heap.size = w.heap.size + 1 := by rw [← hX]; simp
    clear hX
    have zb := hb; clear hb
    have wa := hk; clear hk
    generalize hX : (w1.alloc (.cells #[.int .i64 t.keep, .int .i64 t.free, .int .i64 t.step, .int .i64 t.rate, .int .i64 t.cap, .int .i64 t.longer, .int .i64 t.price, .int .i64 t.most] 29)) = w2
    have hb : Below w1.heap.size w1 w2 := by rw [← hX]; exact balloc _ _
    have hk : Has w2 w1.heap.size 29 #[.int .i64 t.keep, .int .i64 t.free, .int .i64 t.step, .int .i64 t.rate, .int .i64 t.cap, .int .i64 t.longer, .int .i64 t.price, .int .i64 t.most] := by rw [← hX]; exact has_new _ _ _
    have hzw2 : w2.heap.size = w.heap.size + 2 := by rw [← hX]; simp [hzw1]
    clear hX
    rw [hzw1] at hk
    replace wa := has_call wa hb
    replace zb := bthen zb hb; clear hb
    have ta := hk; clear hk
    clear hzw1 hzw2
    have wac0 := has_cell wa 0 rfl; have wac1 := has_cell wa 1 rfl
    have walt := has_lt wa
    have tac0 := has_cell ta 0 rfl; have tac1 := has_cell ta 1 rfl; have tac2 := has_cell ta 2 rfl; have tac3 := has_cell ta 3 rfl; have tac4 := has_cell ta 4 rfl; have tac5 := has_cell ta 5 rfl; have tac6 := has_cell ta 6 rfl; have tac7 := has_cell ta 7 rfl
    have talt := has_lt ta
    have WAH := Lib.hid wa; clear wa
    have TAH := Lib.hid ta; clear ta
    have ZB := Lib.hid zb; clear zb
    go_wp2_with fail
    clear wac0 wac1 walt tac0 tac1 tac2 tac3 tac4 tac5 tac6 tac7 talt
    have wa := WAH.out; clear WAH
    have ta := TAH.out; clear TAH
    have zb := ZB.out; clear ZB
    refine (weekI_any _ B A A' n n' o c ho hc (by have := zb.size; omega) (HS.out.later hB zb) (HS'.out.later hB zb)).mono ?_
    rintro e w3 ⟨rfl, hb⟩
    rw [H0.out]
    replace wa := has_call wa hb
    replace ta := has_call ta hb
    replace zb := bthen zb hb; clear hb
    have wac0 := has_cell wa 0 rfl; have wac1 := has_cell wa 1 rfl
    have walt := has_lt wa
    have tac0 := has_cell ta 0 rfl; have tac1 := has_cell ta 1 rfl; have tac2 := has_cell ta 2 rfl; have tac3 := has_cell ta 3 rfl; have tac4 := has_cell ta 4 rfl; have tac5 := has_cell ta 5 rfl; have tac6 := has_cell ta 6 rfl; have tac7 := has_cell ta 7 rfl
    have talt := has_lt ta
    have WAH := Lib.hid wa; clear wa
    have TAH := Lib.hid ta; clear ta
    have ZB := Lib.hid zb; clear zb
    go_wp2_with fail
    clear wac0 wac1 walt tac0 tac1 tac2 tac3 tac4 tac5 tac6 tac7 talt
    have wa := WAH.out; clear WAH
    have ta := TAH.out; clear TAH
    have zb := ZB.out; clear ZB
    refine (termsI_any _ t).mono ?_
    rintro e w4 ⟨rfl, hb⟩
    rw [H1.out]
    replace wa := has_call wa hb
    replace ta := has_call ta hb
    replace zb := bthen zb hb; clear hb
    have wac0 := has_cell wa 0 rfl; have wac1 := has_cell wa 1 rfl
    have walt := has_lt wa
    have tac0 := has_cell ta 0 rfl; have tac1 := has_cell ta 1 rfl; have tac2 := has_cell ta 2 rfl; have tac3 := has_cell ta 3 rfl; have tac4 := has_cell ta 4 rfl; have tac5 := has_cell ta 5 rfl; have tac6 := has_cell ta 6 rfl; have tac7 := has_cell ta 7 rfl
    have talt := has_lt ta
    have WAH := Lib.hid wa; clear wa
    have TAH := Lib.hid ta; clear ta
    have ZB := Lib.hid zb; clear zb
    go_wp2_with fail
    clear wac0 wac1 walt tac0 tac1 tac2 tac3 tac4 tac5 tac6 tac7 talt
    have wa := WAH.out; clear WAH
    have ta := TAH.out; clear TAH
    have zb := ZB.out; clear ZB
    refine (isTime_any _ a).mono ?_
    rintro e w5 ⟨rfl, hw⟩
    rw [hw]; clear hw w5
    rw [H2.out]
    have wac0 := has_cell wa 0 rfl; have wac1 := has_cell wa 1 rfl
    have walt := has_lt wa
    have tac0 := has_cell ta 0 rfl; have tac1 := has_cell ta 1 rfl; have tac2 := has_cell ta 2 rfl; have tac3 := has_cell ta 3 rfl; have tac4 := has_cell ta 4 rfl; have tac5 := has_cell ta 5 rfl; have tac6 := has_cell ta 6 rfl; have tac7 := has_cell ta 7 rfl
    have talt := has_lt ta
    have WAH := Lib.hid wa; clear wa
    have TAH := Lib.hid ta; clear ta
    have ZB := Lib.hid zb; clear zb
    go_wp2_with fail
    clear wac0 wac1 walt tac0 tac1 tac2 tac3 tac4 tac5 tac6 tac7 talt
    have wa := WAH.out; clear WAH
    have ta := TAH.out; clear TAH
    have zb := ZB.out; clear ZB
    refine (isExt_any _ t e).mono ?_
    rintro e w6 ⟨rfl, hb⟩
    rw [H3.out]
    replace wa := has_call wa hb
    replace ta := has_call ta hb
    replace zb := bthen zb hb; clear hb
    have wac0 := has_cell wa 0 rfl; have wac1 := has_cell wa 1 rfl
    have walt := has_lt wa
    have tac0 := has_cell ta 0 rfl; have tac1 := has_cell ta 1 rfl; have tac2 := has_cell ta 2 rfl; have tac3 := has_cell ta 3 rfl; have tac4 := has_cell ta 4 rfl; have tac5 := has_cell ta 5 rfl; have tac6 := has_cell ta 6 rfl; have tac7 := has_cell ta 7 rfl
    have talt := has_lt ta
    have WAH := Lib.hid wa; clear wa
    have TAH := Lib.hid ta; clear ta
    have ZB := Lib.hid zb; clear zb
    go_wp2_with fail
    clear wac0 wac1 walt tac0 tac1 tac2 tac3 tac4 tac5 tac6 tac7 talt
    have wa := WAH.out; clear WAH
    have ta := TAH.out; clear TAH
    have zb := ZB.out; clear ZB
    refine (afterI_any _ B A A' n n' o c a (t.keep + t.longer * e) (by omega) (by omega) ho hc (by have := zb.size; omega) (HS.out.later hB zb) (HS'.out.later hB zb)).mono ?_
    rintro e w7 ⟨rfl, hb⟩
    replace wa := has_call wa hb
    replace ta := has_call ta hb
    replace zb := bthen zb hb; clear hb
    rw [Hq.out]; unfold pairV
    have wac0 := has_cell wa 0 rfl; have wac1 := has_cell wa 1 rfl
    have walt := has_lt wa
    have tac0 := has_cell ta 0 rfl; have tac1 := has_cell ta 1 rfl; have tac2 := has_cell ta 2 rfl; have tac3 := has_cell ta 3 rfl; have tac4 := has_cell ta 4 rfl; have tac5 := has_cell ta 5 rfl; have tac6 := has_cell ta 6 rfl; have tac7 := has_cell ta 7 rfl
    have talt := has_lt ta
    have WAH := Lib.hid wa; clear wa
    have TAH := Lib.hid ta; clear ta
    have ZB := Lib.hid zb; clear zb
    go_wp2_with fail
    clear wac0 wac1 walt tac0 tac1 tac2 tac3 tac4 tac5 tac6 tac7 talt
    have wa := WAH.out; clear WAH
    have ta := TAH.out; clear TAH
    have zb := ZB.out; clear ZB
    go_ret2
    exact ⟨ret_none (HD.out.trans Hq.out), zb⟩
  | some x =>
    go_enter Try.func10, Try.ntmps10
    go_wp2_with fail
    generalize hX : (w.alloc (.cells #[.slice A o.length n, .slice A' c.length n'] 26)) = w1
    have hb : Below w.heap.size w w1 := by rw [← hX]; exact balloc _ _
    have hk : Has w1 w.heap.size 26 #[.slice A o.length n, .slice A' c.length n'] := by rw [← hX]; exact has_new _ _ _
    have hzw1 : w1.heap.size = w.heap.size + 1 := by rw [← hX]; simp
    clear hX
    have zb := hb; clear hb
    have wa := hk; clear hk
    generalize hX : (w1.alloc (.cells #[.int .i64 t.keep, .int .i64 t.free, .int .i64 t.step, .int .i64 t.rate, .int .i64 t.cap, .int .i64 t.longer, .int .i64 t.price, .int .i64 t.most] 29)) = w2
    have hb : Below w1.heap.size w1 w2 := by rw [← hX]; exact balloc _ _
    have hk : Has w2 w1.heap.size 29 #[.int .i64 t.keep, .int .i64 t.free, .int .i64 t.step, .int .i64 t.rate, .int .i64 t.cap, .int .i64 t.longer, .int .i64 t.price, .int .i64 t.most] := by rw [← hX]; exact has_new _ _ _
    have hzw2 : w2.heap.size = w.heap.size + 2 := by rw [← hX]; simp [hzw1]
    clear hX
    rw [hzw1] at hk
    replace wa := has_call wa hb
    replace zb := bthen zb hb; clear hb
    have ta := hk; clear hk
    clear hzw1 hzw2
    have wac0 := has_cell wa 0 rfl; have wac1 := has_cell wa 1 rfl
    have walt := has_lt wa
    have tac0 := has_cell ta 0 rfl; have tac1 := has_cell ta 1 rfl; have tac2 := has_cell ta 2 rfl; have tac3 := has_cell ta 3 rfl; have tac4 := has_cell ta 4 rfl; have tac5 := has_cell ta 5 rfl; have tac6 := has_cell ta 6 rfl; have tac7 := has_cell ta 7 rfl
    have talt := has_lt ta
    have WAH := Lib.hid wa; clear wa
    have TAH := Lib.hid ta; clear ta
    have ZB := Lib.hid zb; clear zb
    go_wp2_with fail
    clear wac0 wac1 walt tac0 tac1 tac2 tac3 tac4 tac5 tac6 tac7 talt
    have wa := WAH.out; clear WAH
    have ta := TAH.out; clear TAH
    have zb := ZB.out; clear ZB
    refine (weekI_any _ B A A' n n' o c ho hc (by have := zb.size; omega) (HS.out.later hB zb) (HS'.out.later hB zb)).mono ?_
    rintro e w3 ⟨rfl, hb⟩
    rw [H0.out]
    replace wa := has_call wa hb
    replace ta := has_call ta hb
    replace zb := bthen zb hb; clear hb
    have wac0 := has_cell wa 0 rfl; have wac1 := has_cell wa 1 rfl
    have walt := has_lt wa
    have tac0 := has_cell ta 0 rfl; have tac1 := has_cell ta 1 rfl; have tac2 := has_cell ta 2 rfl; have tac3 := has_cell ta 3 rfl; have tac4 := has_cell ta 4 rfl; have tac5 := has_cell ta 5 rfl; have tac6 := has_cell ta 6 rfl; have tac7 := has_cell ta 7 rfl
    have talt := has_lt ta
    have WAH := Lib.hid wa; clear wa
    have TAH := Lib.hid ta; clear ta
    have ZB := Lib.hid zb; clear zb
    go_wp2_with fail
    clear wac0 wac1 walt tac0 tac1 tac2 tac3 tac4 tac5 tac6 tac7 talt
    have wa := WAH.out; clear WAH
    have ta := TAH.out; clear TAH
    have zb := ZB.out; clear ZB
    refine (termsI_any _ t).mono ?_
    rintro e w4 ⟨rfl, hb⟩
    rw [H1.out]
    replace wa := has_call wa hb
    replace ta := has_call ta hb
    replace zb := bthen zb hb; clear hb
    have wac0 := has_cell wa 0 rfl; have wac1 := has_cell wa 1 rfl
    have walt := has_lt wa
    have tac0 := has_cell ta 0 rfl; have tac1 := has_cell ta 1 rfl; have tac2 := has_cell ta 2 rfl; have tac3 := has_cell ta 3 rfl; have tac4 := has_cell ta 4 rfl; have tac5 := has_cell ta 5 rfl; have tac6 := has_cell ta 6 rfl; have tac7 := has_cell ta 7 rfl
    have talt := has_lt ta
    have WAH := Lib.hid wa; clear wa
    have TAH := Lib.hid ta; clear ta
    have ZB := Lib.hid zb; clear zb
    go_wp2_with fail
    clear wac0 wac1 walt tac0 tac1 tac2 tac3 tac4 tac5 tac6 tac7 talt
    have wa := WAH.out; clear WAH
    have ta := TAH.out; clear TAH
    have zb := ZB.out; clear ZB
    refine (isTime_any _ a).mono ?_
    rintro e w5 ⟨rfl, hw⟩
    rw [hw]; clear hw w5
    rw [H2.out]
    have wac0 := has_cell wa 0 rfl; have wac1 := has_cell wa 1 rfl
    have walt := has_lt wa
    have tac0 := has_cell ta 0 rfl; have tac1 := has_cell ta 1 rfl; have tac2 := has_cell ta 2 rfl; have tac3 := has_cell ta 3 rfl; have tac4 := has_cell ta 4 rfl; have tac5 := has_cell ta 5 rfl; have tac6 := has_cell ta 6 rfl; have tac7 := has_cell ta 7 rfl
    have talt := has_lt ta
    have WAH := Lib.hid wa; clear wa
    have TAH := Lib.hid ta; clear ta
    have ZB := Lib.hid zb; clear zb
    go_wp2_with fail
    clear wac0 wac1 walt tac0 tac1 tac2 tac3 tac4 tac5 tac6 tac7 talt
    have wa := WAH.out; clear WAH
    have ta := TAH.out; clear TAH
    have zb := ZB.out; clear ZB
    refine (isExt_any _ t e).mono ?_
    rintro e w6 ⟨rfl, hb⟩
    rw [H3.out]
    replace wa := has_call wa hb
    replace ta := has_call ta hb
    replace zb := bthen zb hb; clear hb
    have wac0 := has_cell wa 0 rfl; have wac1 := has_cell wa 1 rfl
    have walt := has_lt wa
    have tac0 := has_cell ta 0 rfl; have tac1 := has_cell ta 1 rfl; have tac2 := has_cell ta 2 rfl; have tac3 := has_cell ta 3 rfl; have tac4 := has_cell ta 4 rfl; have tac5 := has_cell ta 5 rfl; have tac6 := has_cell ta 6 rfl; have tac7 := has_cell ta 7 rfl
    have talt := has_lt ta
    have WAH := Lib.hid wa; clear wa
    have TAH := Lib.hid ta; clear ta
    have ZB := Lib.hid zb; clear zb
    go_wp2_with fail
    clear wac0 wac1 walt tac0 tac1 tac2 tac3 tac4 tac5 tac6 tac7 talt
    have wa := WAH.out; clear WAH
    have ta := TAH.out; clear TAH
    have zb := ZB.out; clear ZB
    refine (afterI_any _ B A A' n n' o c a (t.keep + t.longer * e) (by omega) (by omega) ho hc (by have := zb.size; omega) (HS.out.later hB zb) (HS'.out.later hB zb)).mono ?_
    rintro e w7 ⟨rfl, hb⟩
    replace wa := has_call wa hb
    replace ta := has_call ta hb
    replace zb := bthen zb hb; clear hb
    rw [Hq.out]; unfold pairV
    have wac0 := has_cell wa 0 rfl; have wac1 := has_cell wa 1 rfl
    have walt := has_lt wa
    have tac0 := has_cell ta 0 rfl; have tac1 := has_cell ta 1 rfl; have tac2 := has_cell ta 2 rfl; have tac3 := has_cell ta 3 rfl; have tac4 := has_cell ta 4 rfl; have tac5 := has_cell ta 5 rfl; have tac6 := has_cell ta 6 rfl; have tac7 := has_cell ta 7 rfl
    have talt := has_lt ta
    have WAH := Lib.hid wa; clear wa
    have TAH := Lib.hid ta; clear ta
    have ZB := Lib.hid zb; clear zb
    go_wp2_with fail
    clear wac0 wac1 walt tac0 tac1 tac2 tac3 tac4 tac5 tac6 tac7 talt
    have wa := WAH.out; clear WAH
    have ta := TAH.out; clear TAH
    have zb := ZB.out; clear ZB
    go_ret2
    exact ⟨ret_some (HD.out.trans Hq.out), zb⟩
set_option maxRecDepth 100000 in
set_option maxHeartbeats 4000000 in
theorem deadS_any (w : World) (B : Nat) (A A' : Option Addr) (n n' : Nat) (o c : List (Int × Int)) (t : Tm) (a e : Int) (ho : o.length ≤ maxLen) (hc : c.length ≤ maxLen) (hB : B ≤ w.heap.size) (hS : SL w B A o) (hS' : SL w B A' c) : Calls Try.prog 11 #[.agg #[.slice A o.length n, .slice A' c.length n'], .agg #[.int .i64 t.keep, .int .i64 t.free, .int .i64 t.step, .int .i64 t.rate, .int .i64 t.cap, .int .i64 t.longer, .int .i64 t.price, .int .i64 t.most], .int .i64 a, .int .i64 e] w fun r w' => r = .returned (pairV (deadB o c t a e)) ∧ Below w.heap.size w w' := by
  have HS := Lib.hid hS; clear hS
  have HS' := Lib.hid hS'; clear hS'
  cases h0 : termsB t
  · have H0 := Lib.hid h0; clear h0
    go_enter Try.func11, Try.ntmps11
    go_wp2_with fail
    generalize hX : (w.alloc (.cells #[.slice A o.length n, .slice A' c.length n'] 26)) = w1
    have hb : Below w.heap.size w w1 := by rw [← hX]; exact balloc _ _
    have hk : Has w1 w.heap.size 26 #[.slice A o.length n, .slice A' c.length n'] := by rw [← hX]; exact has_new _ _ _
    have hzw1 : w1.heap.size = w.heap.size + 1 := by rw [← hX]; simp
    clear hX
    have zb := hb; clear hb
    have wa := hk; clear hk
    generalize hX : (w1.alloc (.cells #[.int .i64 t.keep, .int .i64 t.free, .int .i64 t.step, .int .i64 t.rate, .int .i64 t.cap, .int .i64 t.longer, .int .i64 t.price, .int .i64 t.most] 29)) = w2
    have hb : Below w1.heap.size w1 w2 := by rw [← hX]; exact balloc _ _
    have hk : Has w2 w1.heap.size 29 #[.int .i64 t.keep, .int .i64 t.free, .int .i64 t.step, .int .i64 t.rate, .int .i64 t.cap, .int .i64 t.longer, .int .i64 t.price, .int .i64 t.most] := by rw [← hX]; exact has_new _ _ _
    have hzw2 : w2.heap.size = w.heap.size + 2 := by rw [← hX]; simp [hzw1]
    clear hX
    rw [hzw1] at hk
    replace wa := has_call wa hb
    replace zb := bthen zb hb; clear hb
    have ta := hk; clear hk
    clear hzw1 hzw2
    have wac0 := has_cell wa 0 rfl; have wac1 := has_cell wa 1 rfl
    have walt := has_lt wa
    have tac0 := has_cell ta 0 rfl; have tac1 := has_cell ta 1 rfl; have tac2 := has_cell ta 2 rfl; have tac3 := has_cell ta 3 rfl; have tac4 := has_cell ta 4 rfl; have tac5 := has_cell ta 5 rfl; have tac6 := has_cell ta 6 rfl; have tac7 := has_cell ta 7 rfl
    have talt := has_lt ta
    have WAH := Lib.hid wa; clear wa
    have TAH := Lib.hid ta; clear ta
    have ZB := Lib.hid zb; clear zb
    go_wp2_with fail
    clear wac0 wac1 walt tac0 tac1 tac2 tac3 tac4 tac5 tac6 tac7 talt
    have wa := WAH.out; clear WAH
    have ta := TAH.out; clear TAH
    have zb := ZB.out; clear ZB
    refine (termsS_any _ t).mono ?_
    rintro e w3 ⟨rfl, hb⟩
    rw [H0.out]
    replace wa := has_call wa hb
    replace ta := has_call ta hb
    replace zb := bthen zb hb; clear hb
    have wac0 := has_cell wa 0 rfl; have wac1 := has_cell wa 1 rfl
    have walt := has_lt wa
    have tac0 := has_cell ta 0 rfl; have tac1 := has_cell ta 1 rfl; have tac2 := has_cell ta 2 rfl; have tac3 := has_cell ta 3 rfl; have tac4 := has_cell ta 4 rfl; have tac5 := has_cell ta 5 rfl; have tac6 := has_cell ta 6 rfl; have tac7 := has_cell ta 7 rfl
    have talt := has_lt ta
    have WAH := Lib.hid wa; clear wa
    have TAH := Lib.hid ta; clear ta
    have ZB := Lib.hid zb; clear zb
    go_wp2_with fail
    clear wac0 wac1 walt tac0 tac1 tac2 tac3 tac4 tac5 tac6 tac7 talt
    have wa := WAH.out; clear WAH
    have ta := TAH.out; clear TAH
    have zb := ZB.out; clear ZB
    go_ret2
    exact ⟨ret_none (by unfold deadB; rw [H0.out]; simp), zb⟩
  have H0 := Lib.hid h0; clear h0
  cases h1 : inB e 0 t.most
  · have H1 := Lib.hid h1; clear h1
    go_enter Try.func11, Try.ntmps11
    go_wp2_with fail
    generalize hX : (w.alloc (.cells #[.slice A o.length n, .slice A' c.length n'] 26)) = w1
    have hb : Below w.heap.size w w1 := by rw [← hX]; exact balloc _ _
    have hk : Has w1 w.heap.size 26 #[.slice A o.length n, .slice A' c.length n'] := by rw [← hX]; exact has_new _ _ _
    have hzw1 : w1.heap.size = w.heap.size + 1 := by rw [← hX]; simp
    clear hX
    have zb := hb; clear hb
    have wa := hk; clear hk
    generalize hX : (w1.alloc (.cells #[.int .i64 t.keep, .int .i64 t.free, .int .i64 t.step, .int .i64 t.rate, .int .i64 t.cap, .int .i64 t.longer, .int .i64 t.price, .int .i64 t.most] 29)) = w2
    have hb : Below w1.heap.size w1 w2 := by rw [← hX]; exact balloc _ _
    have hk : Has w2 w1.heap.size 29 #[.int .i64 t.keep, .int .i64 t.free, .int .i64 t.step, .int .i64 t.rate, .int .i64 t.cap, .int .i64 t.longer, .int .i64 t.price, .int .i64 t.most] := by rw [← hX]; exact has_new _ _ _
    have hzw2 : w2.heap.size = w.heap.size + 2 := by rw [← hX]; simp [hzw1]
    clear hX
    rw [hzw1] at hk
    replace wa := has_call wa hb
    replace zb := bthen zb hb; clear hb
    have ta := hk; clear hk
    clear hzw1 hzw2
    have wac0 := has_cell wa 0 rfl; have wac1 := has_cell wa 1 rfl
    have walt := has_lt wa
    have tac0 := has_cell ta 0 rfl; have tac1 := has_cell ta 1 rfl; have tac2 := has_cell ta 2 rfl; have tac3 := has_cell ta 3 rfl; have tac4 := has_cell ta 4 rfl; have tac5 := has_cell ta 5 rfl; have tac6 := has_cell ta 6 rfl; have tac7 := has_cell ta 7 rfl
    have talt := has_lt ta
    have WAH := Lib.hid wa; clear wa
    have TAH := Lib.hid ta; clear ta
    have ZB := Lib.hid zb; clear zb
    go_wp2_with fail
    clear wac0 wac1 walt tac0 tac1 tac2 tac3 tac4 tac5 tac6 tac7 talt
    have wa := WAH.out; clear WAH
    have ta := TAH.out; clear TAH
    have zb := ZB.out; clear ZB
    refine (termsS_any _ t).mono ?_
    rintro e w3 ⟨rfl, hb⟩
    rw [H0.out]
    replace wa := has_call wa hb
    replace ta := has_call ta hb
    replace zb := bthen zb hb; clear hb
    have wac0 := has_cell wa 0 rfl; have wac1 := has_cell wa 1 rfl
    have walt := has_lt wa
    have tac0 := has_cell ta 0 rfl; have tac1 := has_cell ta 1 rfl; have tac2 := has_cell ta 2 rfl; have tac3 := has_cell ta 3 rfl; have tac4 := has_cell ta 4 rfl; have tac5 := has_cell ta 5 rfl; have tac6 := has_cell ta 6 rfl; have tac7 := has_cell ta 7 rfl
    have talt := has_lt ta
    have WAH := Lib.hid wa; clear wa
    have TAH := Lib.hid ta; clear ta
    have ZB := Lib.hid zb; clear zb
    go_wp2_with fail
    clear wac0 wac1 walt tac0 tac1 tac2 tac3 tac4 tac5 tac6 tac7 talt
    have wa := WAH.out; clear WAH
    have ta := TAH.out; clear TAH
    have zb := ZB.out; clear ZB
    refine (in_any _ e 0 t.most).mono ?_
    rintro e w4 ⟨rfl, hw⟩
    rw [hw]; clear hw w4
    rw [H1.out]
    have wac0 := has_cell wa 0 rfl; have wac1 := has_cell wa 1 rfl
    have walt := has_lt wa
    have tac0 := has_cell ta 0 rfl; have tac1 := has_cell ta 1 rfl; have tac2 := has_cell ta 2 rfl; have tac3 := has_cell ta 3 rfl; have tac4 := has_cell ta 4 rfl; have tac5 := has_cell ta 5 rfl; have tac6 := has_cell ta 6 rfl; have tac7 := has_cell ta 7 rfl
    have talt := has_lt ta
    have WAH := Lib.hid wa; clear wa
    have TAH := Lib.hid ta; clear ta
    have ZB := Lib.hid zb; clear zb
    go_wp2_with fail
    clear wac0 wac1 walt tac0 tac1 tac2 tac3 tac4 tac5 tac6 tac7 talt
    have wa := WAH.out; clear WAH
    have ta := TAH.out; clear TAH
    have zb := ZB.out; clear ZB
    go_ret2
    exact ⟨ret_none (by rw [deadB, if_neg (fun hx => by have := H1.out; rw [(in_iff e 0 t.most).2 hx.2] at this; cases this)]), zb⟩
  have H1 := Lib.hid h1; clear h1
  have ht : termsB t = true := H0.out
  have he := (in_iff e 0 t.most).1 H1.out
  have hlb := long_bound ht he.1 he.2
  have hkb := ((terms_iff t).1 ht).1
  have HD := Lib.hid (show deadB o c t a e = afterB o c a (t.keep + t.longer * e) by rw [deadB, if_pos ⟨ht, he⟩]); clear ht he
  obtain ⟨q, hq⟩ : ∃ q, afterB o c a (t.keep + t.longer * e) = q := ⟨_, rfl⟩
  have Hq := Lib.hid hq; clear hq
  cases q with
  | none =>
    go_enter Try.func11, Try.ntmps11
    go_wp2_with fail
    generalize hX : (w.alloc (.cells #[.slice A o.length n, .slice A' c.length n'] 26)) = w1
    have hb : Below w.heap.size w w1 := by rw [← hX]; exact balloc _ _
    have hk : Has w1 w.heap.size 26 #[.slice A o.length n, .slice A' c.length n'] := by rw [← hX]; exact has_new _ _ _
    have hzw1 : w1.heap.size = w.heap.size + 1 := by rw [← hX]; simp
    clear hX
    have zb := hb; clear hb
    have wa := hk; clear hk
    generalize hX : (w1.alloc (.cells #[.int .i64 t.keep, .int .i64 t.free, .int .i64 t.step, .int .i64 t.rate, .int .i64 t.cap, .int .i64 t.longer, .int .i64 t.price, .int .i64 t.most] 29)) = w2
    have hb : Below w1.heap.size w1 w2 := by rw [← hX]; exact balloc _ _
    have hk : Has w2 w1.heap.size 29 #[.int .i64 t.keep, .int .i64 t.free, .int .i64 t.step, .int .i64 t.rate, .int .i64 t.cap, .int .i64 t.longer, .int .i64 t.price, .int .i64 t.most] := by rw [← hX]; exact has_new _ _ _
    have hzw2 : w2.heap.size = w.heap.size + 2 := by rw [← hX]; simp [hzw1]
    clear hX
    rw [hzw1] at hk
    replace wa := has_call wa hb
    replace zb := bthen zb hb; clear hb
    have ta := hk; clear hk
    clear hzw1 hzw2
    have wac0 := has_cell wa 0 rfl; have wac1 := has_cell wa 1 rfl
    have walt := has_lt wa
    have tac0 := has_cell ta 0 rfl; have tac1 := has_cell ta 1 rfl; have tac2 := has_cell ta 2 rfl; have tac3 := has_cell ta 3 rfl; have tac4 := has_cell ta 4 rfl; have tac5 := has_cell ta 5 rfl; have tac6 := has_cell ta 6 rfl; have tac7 := has_cell ta 7 rfl
    have talt := has_lt ta
    have WAH := Lib.hid wa; clear wa
    have TAH := Lib.hid ta; clear ta
    have ZB := Lib.hid zb; clear zb
    go_wp2_with fail
    clear wac0 wac1 walt tac0 tac1 tac2 tac3 tac4 tac5 tac6 tac7 talt
    have wa := WAH.out; clear WAH
    have ta := TAH.out; clear TAH
    have zb := ZB.out; clear ZB
    refine (termsS_any _ t).mono ?_
    rintro e w3 ⟨rfl, hb⟩
    rw [H0.out]
    replace wa := has_call wa hb
    replace ta := has_call ta hb
    replace zb := bthen zb hb; clear hb
    have wac0 := has_cell wa 0 rfl; have wac1 := has_cell wa 1 rfl
    have walt := has_lt wa
    have tac0 := has_cell ta 0 rfl; have tac1 := has_cell ta 1 rfl; have tac2 := has_cell ta 2 rfl; have tac3 := has_cell ta 3 rfl; have tac4 := has_cell ta 4 rfl; have tac5 := has_cell ta 5 rfl; have tac6 := has_cell ta 6 rfl; have tac7 := has_cell ta 7 rfl
    have talt := has_lt ta
    have WAH := Lib.hid wa; clear wa
    have TAH := Lib.hid ta; clear ta
    have ZB := Lib.hid zb; clear zb
    go_wp2_with fail
    clear wac0 wac1 walt tac0 tac1 tac2 tac3 tac4 tac5 tac6 tac7 talt
    have wa := WAH.out; clear WAH
    have ta := TAH.out; clear TAH
    have zb := ZB.out; clear ZB
    refine (in_any _ e 0 t.most).mono ?_
    rintro e w4 ⟨rfl, hw⟩
    rw [hw]; clear hw w4
    rw [H1.out]
    have wac0 := has_cell wa 0 rfl; have wac1 := has_cell wa 1 rfl
    have walt := has_lt wa
    have tac0 := has_cell ta 0 rfl; have tac1 := has_cell ta 1 rfl; have tac2 := has_cell ta 2 rfl; have tac3 := has_cell ta 3 rfl; have tac4 := has_cell ta 4 rfl; have tac5 := has_cell ta 5 rfl; have tac6 := has_cell ta 6 rfl; have tac7 := has_cell ta 7 rfl
    have talt := has_lt ta
    have WAH := Lib.hid wa; clear wa
    have TAH := Lib.hid ta; clear ta
    have ZB := Lib.hid zb; clear zb
    go_wp2_with fail
    clear wac0 wac1 walt tac0 tac1 tac2 tac3 tac4 tac5 tac6 tac7 talt
    have wa := WAH.out; clear WAH
    have ta := TAH.out; clear TAH
    have zb := ZB.out; clear ZB
    refine (afterS_any _ B A A' n n' o c a (t.keep + t.longer * e) (by omega) (by omega) ho hc (by have := zb.size; omega) (HS.out.later hB zb) (HS'.out.later hB zb)).mono ?_
    rintro e w5 ⟨rfl, hb⟩
    replace wa := has_call wa hb
    replace ta := has_call ta hb
    replace zb := bthen zb hb; clear hb
    rw [Hq.out]; unfold pairV
    have wac0 := has_cell wa 0 rfl; have wac1 := has_cell wa 1 rfl
    have walt := has_lt wa
    have tac0 := has_cell ta 0 rfl; have tac1 := has_cell ta 1 rfl; have tac2 := has_cell ta 2 rfl; have tac3 := has_cell ta 3 rfl; have tac4 := has_cell ta 4 rfl; have tac5 := has_cell ta 5 rfl; have tac6 := has_cell ta 6 rfl; have tac7 := has_cell ta 7 rfl
    have talt := has_lt ta
    have WAH := Lib.hid wa; clear wa
    have TAH := Lib.hid ta; clear ta
    have ZB := Lib.hid zb; clear zb
    go_wp2_with fail
    clear wac0 wac1 walt tac0 tac1 tac2 tac3 tac4 tac5 tac6 tac7 talt
    have wa := WAH.out; clear WAH
    have ta := TAH.out; clear TAH
    have zb := ZB.out; clear ZB
    go_ret2
    exact ⟨ret_none (HD.out.trans Hq.out), zb⟩
  | some x =>
    go_enter Try.func11, Try.ntmps11
    go_wp2_with fail
    generalize hX : (w.alloc (.cells #[.slice A o.length n, .slice A' c.length n'] 26)) = w1
    have hb : Below w.heap.size w w1 := by rw [← hX]; exact balloc _ _
    have hk : Has w1 w.heap.size 26 #[.slice A o.length n, .slice A' c.length n'] := by rw [← hX]; exact has_new _ _ _
    have hzw1 : w1.heap.size = w.heap.size + 1 := by rw [← hX]; simp
    clear hX
    have zb := hb; clear hb
    have wa := hk; clear hk
    generalize hX : (w1.alloc (.cells #[.int .i64 t.keep, .int .i64 t.free, .int .i64 t.step, .int .i64 t.rate, .int .i64 t.cap, .int .i64 t.longer, .int .i64 t.price, .int .i64 t.most] 29)) = w2
    have hb : Below w1.heap.size w1 w2 := by rw [← hX]; exact balloc _ _
    have hk : Has w2 w1.heap.size 29 #[.int .i64 t.keep, .int .i64 t.free, .int .i64 t.step, .int .i64 t.rate, .int .i64 t.cap, .int .i64 t.longer, .int .i64 t.price, .int .i64 t.most] := by rw [← hX]; exact has_new _ _ _
    have hzw2 : w2.heap.size = w.heap.size + 2 := by rw [← hX]; simp [hzw1]
    clear hX
    rw [hzw1] at hk
    replace wa := has_call wa hb
    replace zb := bthen zb hb; clear hb
    have ta := hk; clear hk
    clear hzw1 hzw2
    have wac0 := has_cell wa 0 rfl; have wac1 := has_cell wa 1 rfl
    have walt := has_lt wa
    have tac0 := has_cell ta 0 rfl; have tac1 := has_cell ta 1 rfl; have tac2 := has_cell ta 2 rfl; have tac3 := has_cell ta 3 rfl; have tac4 := has_cell ta 4 rfl; have tac5 := has_cell ta 5 rfl; have tac6 := has_cell ta 6 rfl; have tac7 := has_cell ta 7 rfl
    have talt := has_lt ta
    have WAH := Lib.hid wa; clear wa
    have TAH := Lib.hid ta; clear ta
    have ZB := Lib.hid zb; clear zb
    go_wp2_with fail
    clear wac0 wac1 walt tac0 tac1 tac2 tac3 tac4 tac5 tac6 tac7 talt
    have wa := WAH.out; clear WAH
    have ta := TAH.out; clear TAH
    have zb := ZB.out; clear ZB
    refine (termsS_any _ t).mono ?_
    rintro e w3 ⟨rfl, hb⟩
    rw [H0.out]
    replace wa := has_call wa hb
    replace ta := has_call ta hb
    replace zb := bthen zb hb; clear hb
    have wac0 := has_cell wa 0 rfl; have wac1 := has_cell wa 1 rfl
    have walt := has_lt wa
    have tac0 := has_cell ta 0 rfl; have tac1 := has_cell ta 1 rfl; have tac2 := has_cell ta 2 rfl; have tac3 := has_cell ta 3 rfl; have tac4 := has_cell ta 4 rfl; have tac5 := has_cell ta 5 rfl; have tac6 := has_cell ta 6 rfl; have tac7 := has_cell ta 7 rfl
    have talt := has_lt ta
    have WAH := Lib.hid wa; clear wa
    have TAH := Lib.hid ta; clear ta
    have ZB := Lib.hid zb; clear zb
    go_wp2_with fail
    clear wac0 wac1 walt tac0 tac1 tac2 tac3 tac4 tac5 tac6 tac7 talt
    have wa := WAH.out; clear WAH
    have ta := TAH.out; clear TAH
    have zb := ZB.out; clear ZB
    refine (in_any _ e 0 t.most).mono ?_
    rintro e w4 ⟨rfl, hw⟩
    rw [hw]; clear hw w4
    rw [H1.out]
    have wac0 := has_cell wa 0 rfl; have wac1 := has_cell wa 1 rfl
    have walt := has_lt wa
    have tac0 := has_cell ta 0 rfl; have tac1 := has_cell ta 1 rfl; have tac2 := has_cell ta 2 rfl; have tac3 := has_cell ta 3 rfl; have tac4 := has_cell ta 4 rfl; have tac5 := has_cell ta 5 rfl; have tac6 := has_cell ta 6 rfl; have tac7 := has_cell ta 7 rfl
    have talt := has_lt ta
    have WAH := Lib.hid wa; clear wa
    have TAH := Lib.hid ta; clear ta
    have ZB := Lib.hid zb; clear zb
    go_wp2_with fail
    clear wac0 wac1 walt tac0 tac1 tac2 tac3 tac4 tac5 tac6 tac7 talt
    have wa := WAH.out; clear WAH
    have ta := TAH.out; clear TAH
    have zb := ZB.out; clear ZB
    refine (afterS_any _ B A A' n n' o c a (t.keep + t.longer * e) (by omega) (by omega) ho hc (by have := zb.size; omega) (HS.out.later hB zb) (HS'.out.later hB zb)).mono ?_
    rintro e w5 ⟨rfl, hb⟩
    replace wa := has_call wa hb
    replace ta := has_call ta hb
    replace zb := bthen zb hb; clear hb
    rw [Hq.out]; unfold pairV
    have wac0 := has_cell wa 0 rfl; have wac1 := has_cell wa 1 rfl
    have walt := has_lt wa
    have tac0 := has_cell ta 0 rfl; have tac1 := has_cell ta 1 rfl; have tac2 := has_cell ta 2 rfl; have tac3 := has_cell ta 3 rfl; have tac4 := has_cell ta 4 rfl; have tac5 := has_cell ta 5 rfl; have tac6 := has_cell ta 6 rfl; have tac7 := has_cell ta 7 rfl
    have talt := has_lt ta
    have WAH := Lib.hid wa; clear wa
    have TAH := Lib.hid ta; clear ta
    have ZB := Lib.hid zb; clear zb
    go_wp2_with fail
    clear wac0 wac1 walt tac0 tac1 tac2 tac3 tac4 tac5 tac6 tac7 talt
    have wa := WAH.out; clear WAH
    have ta := TAH.out; clear TAH
    have zb := ZB.out; clear ZB
    go_ret2
    exact ⟨ret_some (HD.out.trans Hq.out), zb⟩
end Go.Proofs.Ytpooffekjealhaa
