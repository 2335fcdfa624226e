/- Chapter 6: contracts of FreeUntil and Overdue, by the program and by the model (gen_feea.py). -/
import Derived.Test.YthdncneahdiieaaFeeA
namespace Go.Proofs.Ythdncneahdiieaa
open Go.RowKit
set_option linter.unusedVariables false
set_option maxRecDepth 100000 in
set_option maxHeartbeats 4000000 in
theorem overI_any (w : World) (B : Nat) (A A' : Option Addr) (n n' : Nat) (o c : List (Int × Int)) (t : Tm) (a k e : Int) (ho : o.length ≤ maxLen) (hc : c.length ≤ maxLen) (hB : B ≤ w.heap.size) (hS : SL w B A o) (hS' : SL w B A' c) : Calls Try.prog 46 #[.agg #[.slice A o.length n, .slice A' c.length n'], .agg #[.int .i64 t.keep, .int .i64 t.free, .int .i64 t.step, .int .i64 t.rate, .int .i64 t.cap, .int .i64 t.longer, .int .i64 t.price, .int .i64 t.most], .int .i64 a, .int .i64 k, .int .i64 e] w fun r w' => r = .returned (.bool (overB o c t a k e)) ∧ Below w.heap.size w w' := by
  have HS := Lib.hid hS; clear hS
  have HS' := Lib.hid hS'; clear hS'
  obtain ⟨q, hq⟩ : ∃ q, deadB o c t a e = q := ⟨_, rfl⟩
  cases q with
  | none =>
    have Hv := Lib.hid (show overB o c t a k e = false by rw [overB, hq])
    have Hq := Lib.hid hq; clear hq
    go_enter Try.func46, Try.ntmps46
    go_wp2_with fail
    generalize hX : (w.alloc (.cells #[.slice A o.length n, .slice A' c.length n'] 32)) = w1
    have hb : Below w.heap.size w w1 := by rw [← hX]; exact balloc _ _
    have hk : Has w1 w.heap.size 32 #[.slice A o.length n, .slice A' c.length n'] := by rw [← hX]; exact has_new _ _ _
    have hzw1 : w1.heap.size = w.heap.size + 1 := by rw [← hX]; simp
    clear hX
    have zb := hb; clear hb
    have wa := hk; clear hk
    generalize hX : (w1.alloc (.cells #[.int .i64 t.keep, .int .i64 t.free, .int .i64 t.step, .int .i64 t.rate, .int .i64 t.cap, .int .i64 t.longer, .int .i64 t.price, .int .i64 t.most] 34)) = w2
    have hb : Below w1.heap.size w1 w2 := by rw [← hX]; exact balloc _ _
    have hk : Has w2 w1.heap.size 34 #[.int .i64 t.keep, .int .i64 t.free, .int .i64 t.step, .int .i64 t.rate, .int .i64 t.cap, .int .i64 t.longer, .int .i64 t.price, .int .i64 t.most] := by rw [← hX]; exact has_new _ _ _
    have hzw2 : w2.heap.size = w.heap.size + 2 := by rw [← hX]; simp [hzw1]
    clear hX
    rw [hzw1] at hk
    replace wa := has_call wa hb
    replace zb := bthen zb hb; clear hb
    have ta := hk; clear hk
    clear hzw1 hzw2
    have wac0 := has_cell wa 0 rfl; have wac1 := has_cell wa 1 rfl
    have walt := has_lt wa
    have tac0 := has_cell ta 0 rfl; have tac1 := has_cell ta 1 rfl; have tac2 := has_cell ta 2 rfl; have tac3 := has_cell ta 3 rfl; have tac4 := has_cell ta 4 rfl; have tac5 := has_cell ta 5 rfl; have tac6 := has_cell ta 6 rfl; have tac7 := has_cell ta 7 rfl
    have talt := has_lt ta
    have WAH := Lib.hid wa; clear wa
    have TAH := Lib.hid ta; clear ta
    have ZB := Lib.hid zb; clear zb
    go_wp2_with fail
    clear wac0 wac1 walt tac0 tac1 tac2 tac3 tac4 tac5 tac6 tac7 talt
    have wa := WAH.out; clear WAH
    have ta := TAH.out; clear TAH
    have zb := ZB.out; clear ZB
    refine (deadI_any _ B A A' n n' o c t a e ho hc (by have := zb.size; omega) (HS.out.later hB zb) (HS'.out.later hB zb)).mono ?_
    rintro e w3 ⟨rfl, hb⟩
    replace wa := has_call wa hb
    replace ta := has_call ta hb
    replace zb := bthen zb hb; clear hb
    rw [Hq.out]; unfold pairV
    have wac0 := has_cell wa 0 rfl; have wac1 := has_cell wa 1 rfl
    have walt := has_lt wa
    have tac0 := has_cell ta 0 rfl; have tac1 := has_cell ta 1 rfl; have tac2 := has_cell ta 2 rfl; have tac3 := has_cell ta 3 rfl; have tac4 := has_cell ta 4 rfl; have tac5 := has_cell ta 5 rfl; have tac6 := has_cell ta 6 rfl; have tac7 := has_cell ta 7 rfl
    have talt := has_lt ta
    have WAH := Lib.hid wa; clear wa
    have TAH := Lib.hid ta; clear ta
    have ZB := Lib.hid zb; clear zb
    go_wp2_with fail
    clear wac0 wac1 walt tac0 tac1 tac2 tac3 tac4 tac5 tac6 tac7 talt
    have wa := WAH.out; clear WAH
    have ta := TAH.out; clear TAH
    have zb := ZB.out; clear ZB
    go_ret
    exact ⟨fbool Hv.out.symm, zb⟩
  | some x =>
    have hv : overB o c t a k e = (decide (x < k) && decide (k ≤ 20000)) := by rw [overB, hq]
    have hr := dead_range hq
    have hx0 : 0 ≤ x ∧ x ≤ 20000 := by omega
    clear hr
    have Hq := Lib.hid hq; clear hq
    cases ht : timeB k
    · have Ht := Lib.hid ht
      have Hv := Lib.hid (show overB o c t a k e = false by rw [hv]; simp [timeB] at ht ⊢; omega); clear hv ht
      go_enter Try.func46, Try.ntmps46
      go_wp2_with fail
      generalize hX : (w.alloc (.cells #[.slice A o.length n, .slice A' c.length n'] 32)) = w1
      have hb : Below w.heap.size w w1 := by rw [← hX]; exact balloc _ _
      have hk : Has w1 w.heap.size 32 #[.slice A o.length n, .slice A' c.length n'] := by rw [← hX]; exact has_new _ _ _
      have hzw1 : w1.heap.size = w.heap.size + 1 := by rw [← hX]; simp
      clear hX
      have zb := hb; clear hb
      have wa := hk; clear hk
      generalize hX : (w1.alloc (.cells #[.int .i64 t.keep, .int .i64 t.free, .int .i64 t.step, .int .i64 t.rate, .int .i64 t.cap, .int .i64 t.longer, .int .i64 t.price, .int .i64 t.most] 34)) = w2
      have hb : Below w1.heap.size w1 w2 := by rw [← hX]; exact balloc _ _
      have hk : Has w2 w1.heap.size 34 #[.int .i64 t.keep, .int .i64 t.free, .int .i64 t.step, .int .i64 t.rate, .int .i64 t.cap, .int .i64 t.longer, .int .i64 t.price, .int .i64 t.most] := by rw [← hX]; exact has_new _ _ _
      have hzw2 : w2.heap.size = w.heap.size + 2 := by rw [← hX]; simp [hzw1]
      clear hX
      rw [hzw1] at hk
      replace wa := has_call wa hb
      replace zb := bthen zb hb; clear hb
      have ta := hk; clear hk
      clear hzw1 hzw2
      have wac0 := has_cell wa 0 rfl; have wac1 := has_cell wa 1 rfl
      have walt := has_lt wa
      have tac0 := has_cell ta 0 rfl; have tac1 := has_cell ta 1 rfl; have tac2 := has_cell ta 2 rfl; have tac3 := has_cell ta 3 rfl; have tac4 := has_cell ta 4 rfl; have tac5 := has_cell ta 5 rfl; have tac6 := has_cell ta 6 rfl; have tac7 := has_cell ta 7 rfl
      have talt := has_lt ta
      have WAH := Lib.hid wa; clear wa
      have TAH := Lib.hid ta; clear ta
      have ZB := Lib.hid zb; clear zb
      go_wp2_with fail
      clear wac0 wac1 walt tac0 tac1 tac2 tac3 tac4 tac5 tac6 tac7 talt
      have wa := WAH.out; clear WAH
      have ta := TAH.out; clear TAH
      have zb := ZB.out; clear ZB
      refine (deadI_any _ B A A' n n' o c t a e ho hc (by have := zb.size; omega) (HS.out.later hB zb) (HS'.out.later hB zb)).mono ?_
      rintro e w3 ⟨rfl, hb⟩
      replace wa := has_call wa hb
      replace ta := has_call ta hb
      replace zb := bthen zb hb; clear hb
      rw [Hq.out]; unfold pairV
      have wac0 := has_cell wa 0 rfl; have wac1 := has_cell wa 1 rfl
      have walt := has_lt wa
      have tac0 := has_cell ta 0 rfl; have tac1 := has_cell ta 1 rfl; have tac2 := has_cell ta 2 rfl; have tac3 := has_cell ta 3 rfl; have tac4 := has_cell ta 4 rfl; have tac5 := has_cell ta 5 rfl; have tac6 := has_cell ta 6 rfl; have tac7 := has_cell ta 7 rfl
      have talt := has_lt ta
      have WAH := Lib.hid wa; clear wa
      have TAH := Lib.hid ta; clear ta
      have ZB := Lib.hid zb; clear zb
      go_wp2_with fail
      clear wac0 wac1 walt tac0 tac1 tac2 tac3 tac4 tac5 tac6 tac7 talt
      have wa := WAH.out; clear WAH
      have ta := TAH.out; clear TAH
      have zb := ZB.out; clear ZB
      refine (isTime_any _ k).mono ?_
      rintro e w4 ⟨rfl, hw⟩
      rw [hw]; clear hw w4
      rw [Ht.out]
      have wac0 := has_cell wa 0 rfl; have wac1 := has_cell wa 1 rfl
      have walt := has_lt wa
      have tac0 := has_cell ta 0 rfl; have tac1 := has_cell ta 1 rfl; have tac2 := has_cell ta 2 rfl; have tac3 := has_cell ta 3 rfl; have tac4 := has_cell ta 4 rfl; have tac5 := has_cell ta 5 rfl; have tac6 := has_cell ta 6 rfl; have tac7 := has_cell ta 7 rfl
      have talt := has_lt ta
      have WAH := Lib.hid wa; clear wa
      have TAH := Lib.hid ta; clear ta
      have ZB := Lib.hid zb; clear zb
      go_wp2_with fail
      clear wac0 wac1 walt tac0 tac1 tac2 tac3 tac4 tac5 tac6 tac7 talt
      have wa := WAH.out; clear WAH
      have ta := TAH.out; clear TAH
      have zb := ZB.out; clear ZB
      go_ret
      exact ⟨fbool Hv.out.symm, zb⟩
    have Ht := Lib.hid ht
    have Hv := Lib.hid (show overB o c t a k e = decide (x < k) by rw [hv]; simp [timeB] at ht ⊢; omega); clear hv ht
    go_enter Try.func46, Try.ntmps46
    go_wp2_with fail
    generalize hX : (w.alloc (.cells #[.slice A o.length n, .slice A' c.length n'] 32)) = w1
    have hb : Below w.heap.size w w1 := by rw [← hX]; exact balloc _ _
    have hk : Has w1 w.heap.size 32 #[.slice A o.length n, .slice A' c.length n'] := by rw [← hX]; exact has_new _ _ _
    have hzw1 : w1.heap.size = w.heap.size + 1 := by rw [← hX]; simp
    clear hX
    have zb := hb; clear hb
    have wa := hk; clear hk
    generalize hX : (w1.alloc (.cells #[.int .i64 t.keep, .int .i64 t.free, .int .i64 t.step, .int .i64 t.rate, .int .i64 t.cap, .int .i64 t.longer, .int .i64 t.price, .int .i64 t.most] 34)) = w2
    have hb : Below w1.heap.size w1 w2 := by rw [← hX]; exact balloc _ _
    have hk : Has w2 w1.heap.size 34 #[.int .i64 t.keep, .int .i64 t.free, .int .i64 t.step, .int .i64 t.rate, .int .i64 t.cap, .int .i64 t.longer, .int .i64 t.price, .int .i64 t.most] := by rw [← hX]; exact has_new _ _ _
    have hzw2 : w2.heap.size = w.heap.size + 2 := by rw [← hX]; simp [hzw1]
    clear hX
    rw [hzw1] at hk
    replace wa := has_call wa hb
    replace zb := bthen zb hb; clear hb
    have ta := hk; clear hk
    clear hzw1 hzw2
    have wac0 := has_cell wa 0 rfl; have wac1 := has_cell wa 1 rfl
    have walt := has_lt wa
    have tac0 := has_cell ta 0 rfl; have tac1 := has_cell ta 1 rfl; have tac2 := has_cell ta 2 rfl; have tac3 := has_cell ta 3 rfl; have tac4 := has_cell ta 4 rfl; have tac5 := has_cell ta 5 rfl; have tac6 := has_cell ta 6 rfl; have tac7 := has_cell ta 7 rfl
    have talt := has_lt ta
    have WAH := Lib.hid wa; clear wa
    have TAH := Lib.hid ta; clear ta
    have ZB := Lib.hid zb; clear zb
    go_wp2_with fail
    clear wac0 wac1 walt tac0 tac1 tac2 tac3 tac4 tac5 tac6 tac7 talt
    have wa := WAH.out; clear WAH
    have ta := TAH.out; clear TAH
    have zb := ZB.out; clear ZB
    refine (deadI_any _ B A A' n n' o c t a e ho hc (by have := zb.size; omega) (HS.out.later hB zb) (HS'.out.later hB zb)).mono ?_
    rintro e w3 ⟨rfl, hb⟩
    replace wa := has_call wa hb
    replace ta := has_call ta hb
    replace zb := bthen zb hb; clear hb
    rw [Hq.out]; unfold pairV
    have wac0 := has_cell wa 0 rfl; have wac1 := has_cell wa 1 rfl
    have walt := has_lt wa
    have tac0 := has_cell ta 0 rfl; have tac1 := has_cell ta 1 rfl; have tac2 := has_cell ta 2 rfl; have tac3 := has_cell ta 3 rfl; have tac4 := has_cell ta 4 rfl; have tac5 := has_cell ta 5 rfl; have tac6 := has_cell ta 6 rfl; have tac7 := has_cell ta 7 rfl
    have talt := has_lt ta
    have WAH := Lib.hid wa; clear wa
    have TAH := Lib.hid ta; clear ta
    have ZB := Lib.hid zb; clear zb
    go_wp2_with fail
    clear wac0 wac1 walt tac0 tac1 tac2 tac3 tac4 tac5 tac6 tac7 talt
    have wa := WAH.out; clear WAH
    have ta := TAH.out; clear TAH
    have zb := ZB.out; clear ZB
    refine (isTime_any _ k).mono ?_
    rintro e w4 ⟨rfl, hw⟩
    rw [hw]; clear hw w4
    rw [Ht.out]
    have wac0 := has_cell wa 0 rfl; have wac1 := has_cell wa 1 rfl
    have walt := has_lt wa
    have tac0 := has_cell ta 0 rfl; have tac1 := has_cell ta 1 rfl; have tac2 := has_cell ta 2 rfl; have tac3 := has_cell ta 3 rfl; have tac4 := has_cell ta 4 rfl; have tac5 := has_cell ta 5 rfl; have tac6 := has_cell ta 6 rfl; have tac7 := has_cell ta 7 rfl
    have talt := has_lt ta
    have WAH := Lib.hid wa; clear wa
    have TAH := Lib.hid ta; clear ta
    have ZB := Lib.hid zb; clear zb
    go_wp2_with fail
    clear wac0 wac1 walt tac0 tac1 tac2 tac3 tac4 tac5 tac6 tac7 talt
    have wa := WAH.out; clear WAH
    have ta := TAH.out; clear TAH
    have zb := ZB.out; clear ZB
    go_ret
    exact ⟨fbool Hv.out.symm, zb⟩
set_option maxRecDepth 100000 in
set_option maxHeartbeats 4000000 in
theorem overS_any (w : World) (B : Nat) (A A' : Option Addr) (n n' : Nat) (o c : List (Int × Int)) (t : Tm) (a k e : Int) (ho : o.length ≤ maxLen) (hc : c.length ≤ maxLen) (hB : B ≤ w.heap.size) (hS : SL w B A o) (hS' : SL w B A' c) : Calls Try.prog 43 #[.agg #[.slice A o.length n, .slice A' c.length n'], .agg #[.int .i64 t.keep, .int .i64 t.free, .int .i64 t.step, .int .i64 t.rate, .int .i64 t.cap, .int .i64 t.longer, .int .i64 t.price, .int .i64 t.most], .int .i64 a, .int .i64 k, .int .i64 e] w fun r w' => r = .returned (.bool (overB o c t a k e)) ∧ Below w.heap.size w w' := by
  have HS := Lib.hid hS; clear hS
  have HS' := Lib.hid hS'; clear hS'
  obtain ⟨q, hq⟩ : ∃ q, deadB o c t a e = q := ⟨_, rfl⟩
  cases q with
  | none =>
    have Hv := Lib.hid (show overB o c t a k e = false by rw [overB, hq])
    have Hq := Lib.hid hq; clear hq
    go_enter Try.func43, Try.ntmps43
    go_wp2_with fail
    generalize hX : (w.alloc (.cells #[.slice A o.length n, .slice A' c.length n'] 32)) = w1
    have hb : Below w.heap.size w w1 := by rw [← hX]; exact balloc _ _
    have hk : Has w1 w.heap.size 32 #[.slice A o.length n, .slice A' c.length n'] := by rw [← hX]; exact has_new _ _ _
    have hzw1 : w1.heap.size = w.heap.size + 1 := by rw [← hX]; simp
    clear hX
    have zb := hb; clear hb
    have wa := hk; clear hk
    generalize hX : (w1.alloc (.cells #[.int .i64 t.keep, .int .i64 t.free, .int .i64 t.step, .int .i64 t.rate, .int .i64 t.cap, .int .i64 t.longer, .int .i64 t.price, .int .i64 t.most] 34)) = w2
    have hb : Below w1.heap.size w1 w2 := by rw [← hX]; exact balloc _ _
    have hk : Has w2 w1.heap.size 34 #[.int .i64 t.keep, .int .i64 t.free, .int .i64 t.step, .int .i64 t.rate, .int .i64 t.cap, .int .i64 t.longer, .int .i64 t.price, .int .i64 t.most] := by rw [← hX]; exact has_new _ _ _
    have hzw2 : w2.heap.size = w.heap.size + 2 := by rw [← hX]; simp [hzw1]
    clear hX
    rw [hzw1] at hk
    replace wa := has_call wa hb
    replace zb := bthen zb hb; clear hb
    have ta := hk; clear hk
    clear hzw1 hzw2
    have wac0 := has_cell wa 0 rfl; have wac1 := has_cell wa 1 rfl
    have walt := has_lt wa
    have tac0 := has_cell ta 0 rfl; have tac1 := has_cell ta 1 rfl; have tac2 := has_cell ta 2 rfl; have tac3 := has_cell ta 3 rfl; have tac4 := has_cell ta 4 rfl; have tac5 := has_cell ta 5 rfl; have tac6 := has_cell ta 6 rfl; have tac7 := has_cell ta 7 rfl
    have talt := has_lt ta
    have WAH := Lib.hid wa; clear wa
    have TAH := Lib.hid ta; clear ta
    have ZB := Lib.hid zb; clear zb
    go_wp2_with fail
    clear wac0 wac1 walt tac0 tac1 tac2 tac3 tac4 tac5 tac6 tac7 talt
    have wa := WAH.out; clear WAH
    have ta := TAH.out; clear TAH
    have zb := ZB.out; clear ZB
    refine (deadS_any _ B A A' n n' o c t a e ho hc (by have := zb.size; omega) (HS.out.later hB zb) (HS'.out.later hB zb)).mono ?_
    rintro e w3 ⟨rfl, hb⟩
    replace wa := has_call wa hb
    replace ta := has_call ta hb
    replace zb := bthen zb hb; clear hb
    rw [Hq.out]; unfold pairV
    have wac0 := has_cell wa 0 rfl; have wac1 := has_cell wa 1 rfl
    have walt := has_lt wa
    have tac0 := has_cell ta 0 rfl; have tac1 := has_cell ta 1 rfl; have tac2 := has_cell ta 2 rfl; have tac3 := has_cell ta 3 rfl; have tac4 := has_cell ta 4 rfl; have tac5 := has_cell ta 5 rfl; have tac6 := has_cell ta 6 rfl; have tac7 := has_cell ta 7 rfl
    have talt := has_lt ta
    have WAH := Lib.hid wa; clear wa
    have TAH := Lib.hid ta; clear ta
    have ZB := Lib.hid zb; clear zb
    go_wp2_with fail
    clear wac0 wac1 walt tac0 tac1 tac2 tac3 tac4 tac5 tac6 tac7 talt
    have wa := WAH.out; clear WAH
    have ta := TAH.out; clear TAH
    have zb := ZB.out; clear ZB
    go_ret
    exact ⟨fbool Hv.out.symm, zb⟩
  | some x =>
    have hv : overB o c t a k e = (decide (x < k) && decide (k ≤ 20000)) := by rw [overB, hq]
    have hr := dead_range hq
    have hx0 : 0 ≤ x ∧ x ≤ 20000 := by omega
    clear hr
    have Hq := Lib.hid hq; clear hq
    have Hv := Lib.hid (show overB o c t a k e = inB k (x + 1) 20000 by rw [hv, inB]; congr 1); clear hv
    go_enter Try.func43, Try.ntmps43
    go_wp2_with fail
    generalize hX : (w.alloc (.cells #[.slice A o.length n, .slice A' c.length n'] 32)) = w1
    have hb : Below w.heap.size w w1 := by rw [← hX]; exact balloc _ _
    have hk : Has w1 w.heap.size 32 #[.slice A o.length n, .slice A' c.length n'] := by rw [← hX]; exact has_new _ _ _
    have hzw1 : w1.heap.size = w.heap.size + 1 := by rw [← hX]; simp
    clear hX
    have zb := hb; clear hb
    have wa := hk; clear hk
    generalize hX : (w1.alloc (.cells #[.int .i64 t.keep, .int .i64 t.free, .int .i64 t.step, .int .i64 t.rate, .int .i64 t.cap, .int .i64 t.longer, .int .i64 t.price, .int .i64 t.most] 34)) = w2
    have hb : Below w1.heap.size w1 w2 := by rw [← hX]; exact balloc _ _
    have hk : Has w2 w1.heap.size 34 #[.int .i64 t.keep, .int .i64 t.free, .int .i64 t.step, .int .i64 t.rate, .int .i64 t.cap, .int .i64 t.longer, .int .i64 t.price, .int .i64 t.most] := by rw [← hX]; exact has_new _ _ _
    have hzw2 : w2.heap.size = w.heap.size + 2 := by rw [← hX]; simp [hzw1]
    clear hX
    rw [hzw1] at hk
    replace wa := has_call wa hb
    replace zb := bthen zb hb; clear hb
    have ta := hk; clear hk
    clear hzw1 hzw2
    have wac0 := has_cell wa 0 rfl; have wac1 := has_cell wa 1 rfl
    have walt := has_lt wa
    have tac0 := has_cell ta 0 rfl; have tac1 := has_cell ta 1 rfl; have tac2 := has_cell ta 2 rfl; have tac3 := has_cell ta 3 rfl; have tac4 := has_cell ta 4 rfl; have tac5 := has_cell ta 5 rfl; have tac6 := has_cell ta 6 rfl; have tac7 := has_cell ta 7 rfl
    have talt := has_lt ta
    have WAH := Lib.hid wa; clear wa
    have TAH := Lib.hid ta; clear ta
    have ZB := Lib.hid zb; clear zb
    go_wp2_with fail
    clear wac0 wac1 walt tac0 tac1 tac2 tac3 tac4 tac5 tac6 tac7 talt
    have wa := WAH.out; clear WAH
    have ta := TAH.out; clear TAH
    have zb := ZB.out; clear ZB
    refine (deadS_any _ B A A' n n' o c t a e ho hc (by have := zb.size; omega) (HS.out.later hB zb) (HS'.out.later hB zb)).mono ?_
    rintro e w3 ⟨rfl, hb⟩
    replace wa := has_call wa hb
    replace ta := has_call ta hb
    replace zb := bthen zb hb; clear hb
    rw [Hq.out]; unfold pairV
    have wac0 := has_cell wa 0 rfl; have wac1 := has_cell wa 1 rfl
    have walt := has_lt wa
    have tac0 := has_cell ta 0 rfl; have tac1 := has_cell ta 1 rfl; have tac2 := has_cell ta 2 rfl; have tac3 := has_cell ta 3 rfl; have tac4 := has_cell ta 4 rfl; have tac5 := has_cell ta 5 rfl; have tac6 := has_cell ta 6 rfl; have tac7 := has_cell ta 7 rfl
    have talt := has_lt ta
    have WAH := Lib.hid wa; clear wa
    have TAH := Lib.hid ta; clear ta
    have ZB := Lib.hid zb; clear zb
    go_wp2_with fail
    clear wac0 wac1 walt tac0 tac1 tac2 tac3 tac4 tac5 tac6 tac7 talt
    have wa := WAH.out; clear WAH
    have ta := TAH.out; clear TAH
    have zb := ZB.out; clear ZB
    refine (in_any _ k (x + 1) 20000).mono ?_
    rintro e w4 ⟨rfl, hw⟩
    rw [hw]; clear hw w4
    have wac0 := has_cell wa 0 rfl; have wac1 := has_cell wa 1 rfl
    have walt := has_lt wa
    have tac0 := has_cell ta 0 rfl; have tac1 := has_cell ta 1 rfl; have tac2 := has_cell ta 2 rfl; have tac3 := has_cell ta 3 rfl; have tac4 := has_cell ta 4 rfl; have tac5 := has_cell ta 5 rfl; have tac6 := has_cell ta 6 rfl; have tac7 := has_cell ta 7 rfl
    have talt := has_lt ta
    have WAH := Lib.hid wa; clear wa
    have TAH := Lib.hid ta; clear ta
    have ZB := Lib.hid zb; clear zb
    go_wp2_with fail
    clear wac0 wac1 walt tac0 tac1 tac2 tac3 tac4 tac5 tac6 tac7 talt
    have wa := WAH.out; clear WAH
    have ta := TAH.out; clear TAH
    have zb := ZB.out; clear ZB
    go_ret
    exact ⟨fbool Hv.out.symm, zb⟩
end Go.Proofs.Ythdncneahdiieaa
