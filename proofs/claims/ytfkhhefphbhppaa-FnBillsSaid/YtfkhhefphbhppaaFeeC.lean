/- Chapter 6: contracts of FeeOf, by the program and by the model (gen_feeb.py). -/
import Derived.Test.YtfkhhefphbhppaaFeeB
import Derived.Test.YtfkhhefphbhppaaFeeU
import Derived.Deep.RegionHeld3
import Derived.Deep.DeepMust
import Derived.WalkLawsBesides
namespace Go.Proofs.Ytfkhhefphbhppaa
open Go.RowKit
set_option linter.unusedVariables false
set_option maxRecDepth 100000 in
set_option maxHeartbeats 4000000 in
theorem feeI_any (w : World) (B : Nat) (A A' : Option Addr) (n n' : Nat) (o c : List (Int × Int)) (t : Tm) (z a b e : Int) (ho : o.length ≤ maxLen) (hc : c.length ≤ maxLen) (hB : B ≤ w.heap.size) (hS : SL w B A o) (hS' : SL w B A' c) : Calls Try.prog 10 #[.agg #[.slice A o.length n, .slice A' c.length n'], .agg #[.int .i64 t.keep, .int .i64 t.free, .int .i64 t.step, .int .i64 t.rate, .int .i64 t.cap, .int .i64 t.longer, .int .i64 t.price, .int .i64 t.most], .int .i64 z, .int .i64 a, .int .i64 b, .int .i64 e] w fun r w' => r = .returned (.int .i64 (feeB o c t z a b e)) ∧ Below w.heap.size w w' := by
  have HS := Lib.hid hS; clear hS
  have HS' := Lib.hid hS'; clear hS'
  cases h0 : weekB o c
  · have H0 := Lib.hid h0; clear h0
    go_enter Try.func10, Try.ntmps10
    go_wp2_with fail
    generalize hX : (w.alloc (.cells #[.slice A o.length n, .slice A' c.length n'] 26)) = w1
    have hb : Below w.heap.size w w1 := by rw [← hX]; exact balloc _ _
    have hk : Has w1 w.heap.size 26 #[.slice A o.length n, .slice A' c.length n'] := by rw [← hX]; exact has_new _ _ _
    have hzw1 : w1.heap.size = w.heap.size + 1 := by rw [← hX]; simp
    clear hX
    have zb := hb; clear hb
    have wa := hk; clear hk
    generalize hX : (w1.alloc (.cells #[.int .i64 t.keep, .int .i64 t.free, .int .i64 t.step, .int .i64 t.rate, .int .i64 t.cap, .int .i64 t.longer, .int .i64 t.price, .int .i64 t.most] 35)) = w2
    have hb : Below w1.heap.size w1 w2 := by rw [← hX]; exact balloc _ _
    have hk : Has w2 w1.heap.size 35 #[.int .i64 t.keep, .int .i64 t.free, .int .i64 t.step, .int .i64 t.rate, .int .i64 t.cap, .int .i64 t.longer, .int .i64 t.price, .int .i64 t.most] := by rw [← hX]; exact has_new _ _ _
    have hzw2 : w2.heap.size = w.heap.size + 2 := by rw [← hX]; simp [hzw1]
    clear hX
    rw [hzw1] at hk
    replace wa := has_call wa hb
    replace zb := bthen zb hb; clear hb
    have ta := hk; clear hk
    clear hzw1 hzw2
    have wac0 := has_cell wa 0 rfl; have wac1 := has_cell wa 1 rfl
    have walt := has_lt wa
    have tac0 := has_cell ta 0 rfl; have tac1 := has_cell ta 1 rfl; have tac2 := has_cell ta 2 rfl; have tac3 := has_cell ta 3 rfl; have tac4 := has_cell ta 4 rfl; have tac5 := has_cell ta 5 rfl; have tac6 := has_cell ta 6 rfl; have tac7 := has_cell ta 7 rfl
    have talt := has_lt ta
    have WAH := Lib.hid wa; clear wa
    have TAH := Lib.hid ta; clear ta
    have ZB := Lib.hid zb; clear zb
    go_wp2_with fail
    clear wac0 wac1 walt tac0 tac1 tac2 tac3 tac4 tac5 tac6 tac7 talt
    have wa := WAH.out; clear WAH
    have ta := TAH.out; clear TAH
    have zb := ZB.out; clear ZB
    refine (weekI_any _ B A A' n n' o c ho hc (by have := zb.size; omega) (HS.out.later hB zb) (HS'.out.later hB zb)).mono ?_
    rintro e w3 ⟨rfl, hb⟩
    rw [H0.out]
    replace wa := has_call wa hb
    replace ta := has_call ta hb
    replace zb := bthen zb hb; clear hb
    have wac0 := has_cell wa 0 rfl; have wac1 := has_cell wa 1 rfl
    have walt := has_lt wa
    have tac0 := has_cell ta 0 rfl; have tac1 := has_cell ta 1 rfl; have tac2 := has_cell ta 2 rfl; have tac3 := has_cell ta 3 rfl; have tac4 := has_cell ta 4 rfl; have tac5 := has_cell ta 5 rfl; have tac6 := has_cell ta 6 rfl; have tac7 := has_cell ta 7 rfl
    have talt := has_lt ta
    have WAH := Lib.hid wa; clear wa
    have TAH := Lib.hid ta; clear ta
    have ZB := Lib.hid zb; clear zb
    go_wp2_with fail
    clear wac0 wac1 walt tac0 tac1 tac2 tac3 tac4 tac5 tac6 tac7 talt
    have wa := WAH.out; clear WAH
    have ta := TAH.out; clear TAH
    have zb := ZB.out; clear ZB
    go_ret
    exact ⟨fint (by rw [feeB, if_neg (fun hx => by have := H0.out; rw [hx.1] at this; cases this)]), zb⟩
  have H0 := Lib.hid h0; clear h0
  cases h1 : termsB t
  · have H1 := Lib.hid h1; clear h1
    go_enter Try.func10, Try.ntmps10
    go_wp2_with fail
    generalize hX : (w.alloc (.cells #[.slice A o.length n, .slice A' c.length n'] 26)) = w1
    have hb : Below w.heap.size w w1 := by rw [← hX]; exact balloc _ _
    have hk : Has w1 w.heap.size 26 #[.slice A o.length n, .slice A' c.length n'] := by rw [← hX]; exact has_new _ _ _
    have hzw1 : w1.heap.size = w.heap.size + 1 := by rw [← hX]; simp
    clear hX
    have zb := hb; clear hb
    have wa := hk; clear hk
    generalize hX : (w1.alloc (.cells #[.int .i64 t.keep, .int .i64 t.free, .int .i64 t.step, .int .i64 t.rate, .int .i64 t.cap, .int .i64 t.longer, .int .i64 t.price, .int .i64 t.most] 35)) = w2
    have hb : Below w1.heap.size w1 w2 := by rw [← hX]; exact balloc _ _
    have hk : Has w2 w1.heap.size 35 #[.int .i64 t.keep, .int .i64 t.free, .int .i64 t.step, .int .i64 t.rate, .int .i64 t.cap, .int .i64 t.longer, .int .i64 t.price, .int .i64 t.most] := by rw [← hX]; exact has_new _ _ _
    have hzw2 : w2.heap.size = w.heap.size + 2 := by rw [← hX]; simp [hzw1]
    clear hX
    rw [hzw1] at hk
    replace wa := has_call wa hb
    replace zb := bthen zb hb; clear hb
    have ta := hk; clear hk
    clear hzw1 hzw2
    have wac0 := has_cell wa 0 rfl; have wac1 := has_cell wa 1 rfl
    have walt := has_lt wa
    have tac0 := has_cell ta 0 rfl; have tac1 := has_cell ta 1 rfl; have tac2 := has_cell ta 2 rfl; have tac3 := has_cell ta 3 rfl; have tac4 := has_cell ta 4 rfl; have tac5 := has_cell ta 5 rfl; have tac6 := has_cell ta 6 rfl; have tac7 := has_cell ta 7 rfl
    have talt := has_lt ta
    have WAH := Lib.hid wa; clear wa
    have TAH := Lib.hid ta; clear ta
    have ZB := Lib.hid zb; clear zb
    go_wp2_with fail
    clear wac0 wac1 walt tac0 tac1 tac2 tac3 tac4 tac5 tac6 tac7 talt
    have wa := WAH.out; clear WAH
    have ta := TAH.out; clear TAH
    have zb := ZB.out; clear ZB
    refine (weekI_any _ B A A' n n' o c ho hc (by have := zb.size; omega) (HS.out.later hB zb) (HS'.out.later hB zb)).mono ?_
    rintro e w3 ⟨rfl, hb⟩
    rw [H0.out]
    replace wa := has_call wa hb
    replace ta := has_call ta hb
    replace zb := bthen zb hb; clear hb
    have wac0 := has_cell wa 0 rfl; have wac1 := has_cell wa 1 rfl
    have walt := has_lt wa
    have tac0 := has_cell ta 0 rfl; have tac1 := has_cell ta 1 rfl; have tac2 := has_cell ta 2 rfl; have tac3 := has_cell ta 3 rfl; have tac4 := has_cell ta 4 rfl; have tac5 := has_cell ta 5 rfl; have tac6 := has_cell ta 6 rfl; have tac7 := has_cell ta 7 rfl
    have talt := has_lt ta
    have WAH := Lib.hid wa; clear wa
    have TAH := Lib.hid ta; clear ta
    have ZB := Lib.hid zb; clear zb
    go_wp2_with fail
    clear wac0 wac1 walt tac0 tac1 tac2 tac3 tac4 tac5 tac6 tac7 talt
    have wa := WAH.out; clear WAH
    have ta := TAH.out; clear TAH
    have zb := ZB.out; clear ZB
    refine (termsI_any _ t).mono ?_
    rintro e w4 ⟨rfl, hb⟩
    rw [H1.out]
    replace wa := has_call wa hb
    replace ta := has_call ta hb
    replace zb := bthen zb hb; clear hb
    have wac0 := has_cell wa 0 rfl; have wac1 := has_cell wa 1 rfl
    have walt := has_lt wa
    have tac0 := has_cell ta 0 rfl; have tac1 := has_cell ta 1 rfl; have tac2 := has_cell ta 2 rfl; have tac3 := has_cell ta 3 rfl; have tac4 := has_cell ta 4 rfl; have tac5 := has_cell ta 5 rfl; have tac6 := has_cell ta 6 rfl; have tac7 := has_cell ta 7 rfl
    have talt := has_lt ta
    have WAH := Lib.hid wa; clear wa
    have TAH := Lib.hid ta; clear ta
    have ZB := Lib.hid zb; clear zb
    go_wp2_with fail
    clear wac0 wac1 walt tac0 tac1 tac2 tac3 tac4 tac5 tac6 tac7 talt
    have wa := WAH.out; clear WAH
    have ta := TAH.out; clear TAH
    have zb := ZB.out; clear ZB
    go_ret
    exact ⟨fint (by rw [feeB, if_neg (fun hx => by have := H1.out; rw [hx.2.1] at this; cases this)]), zb⟩
  have H1 := Lib.hid h1; clear h1
  cases h2 : inB z 1 24
  · have H2 := Lib.hid h2; clear h2
    go_enter Try.func10, Try.ntmps10
    go_wp2_with fail
    generalize hX : (w.alloc (.cells #[.slice A o.length n, .slice A' c.length n'] 26)) = w1
    have hb : Below w.heap.size w w1 := by rw [← hX]; exact balloc _ _
    have hk : Has w1 w.heap.size 26 #[.slice A o.length n, .slice A' c.length n'] := by rw [← hX]; exact has_new _ _ _
    have hzw1 : w1.heap.size = w.heap.size + 1 := by rw [← hX]; simp
    clear hX
    have zb := hb; clear hb
    have wa := hk; clear hk
    generalize hX : (w1.alloc (.cells #[.int .i64 t.keep, .int .i64 t.free, .int .i64 t.step, .int .i64 t.rate, .int .i64 t.cap, .int .i64 t.longer, .int .i64 t.price, .int .i64 t.most] 35)) = w2
    have hb : Below w1.heap.size w1 w2 := by rw [← hX]; exact balloc _ _
    have hk : Has w2 w1.heap.size 35 #[.int .i64 t.keep, .int .i64 t.free, .int .i64 t.step, .int .i64 t.rate, .int .i64 t.cap, .int .i64 t.longer, .int .i64 t.price, .int .i64 t.most] := by rw [← hX]; exact has_new _ _ _
    have hzw2 : w2.heap.size = w.heap.size + 2 := by rw [← hX]; simp [hzw1]
    clear hX
    rw [hzw1] at hk
    replace wa := has_call wa hb
    replace zb := bthen zb hb; clear hb
    have ta := hk; clear hk
    clear hzw1 hzw2
    have wac0 := has_cell wa 0 rfl; have wac1 := has_cell wa 1 rfl
    have walt := has_lt wa
    have tac0 := has_cell ta 0 rfl; have tac1 := has_cell ta 1 rfl; have tac2 := has_cell ta 2 rfl; have tac3 := has_cell ta 3 rfl; have tac4 := has_cell ta 4 rfl; have tac5 := has_cell ta 5 rfl; have tac6 := has_cell ta 6 rfl; have tac7 := has_cell ta 7 rfl
    have talt := has_lt ta
    have WAH := Lib.hid wa; clear wa
    have TAH := Lib.hid ta; clear ta
    have ZB := Lib.hid zb; clear zb
    go_wp2_with fail
    clear wac0 wac1 walt tac0 tac1 tac2 tac3 tac4 tac5 tac6 tac7 talt
    have wa := WAH.out; clear WAH
    have ta := TAH.out; clear TAH
    have zb := ZB.out; clear ZB
    refine (weekI_any _ B A A' n n' o c ho hc (by have := zb.size; omega) (HS.out.later hB zb) (HS'.out.later hB zb)).mono ?_
    rintro e w3 ⟨rfl, hb⟩
    rw [H0.out]
    replace wa := has_call wa hb
    replace ta := has_call ta hb
    replace zb := bthen zb hb; clear hb
    have wac0 := has_cell wa 0 rfl; have wac1 := has_cell wa 1 rfl
    have walt := has_lt wa
    have tac0 := has_cell ta 0 rfl; have tac1 := has_cell ta 1 rfl; have tac2 := has_cell ta 2 rfl; have tac3 := has_cell ta 3 rfl; have tac4 := has_cell ta 4 rfl; have tac5 := has_cell ta 5 rfl; have tac6 := has_cell ta 6 rfl; have tac7 := has_cell ta 7 rfl
    have talt := has_lt ta
    have WAH := Lib.hid wa; clear wa
    have TAH := Lib.hid ta; clear ta
    have ZB := Lib.hid zb; clear zb
    go_wp2_with fail
    clear wac0 wac1 walt tac0 tac1 tac2 tac3 tac4 tac5 tac6 tac7 talt
    have wa := WAH.out; clear WAH
    have ta := TAH.out; clear TAH
    have zb := ZB.out; clear ZB
    refine (termsI_any _ t).mono ?_
    rintro e w4 ⟨rfl, hb⟩
    rw [H1.out]
    replace wa := has_call wa hb
    replace ta := has_call ta hb
    replace zb := bthen zb hb; clear hb
    have wac0 := has_cell wa 0 rfl; have wac1 := has_cell wa 1 rfl
    have walt := has_lt wa
    have tac0 := has_cell ta 0 rfl; have tac1 := has_cell ta 1 rfl; have tac2 := has_cell ta 2 rfl; have tac3 := has_cell ta 3 rfl; have tac4 := has_cell ta 4 rfl; have tac5 := has_cell ta 5 rfl; have tac6 := has_cell ta 6 rfl; have tac7 := has_cell ta 7 rfl
    have talt := has_lt ta
    have WAH := Lib.hid wa; clear wa
    have TAH := Lib.hid ta; clear ta
    have ZB := Lib.hid zb; clear zb
    go_wp2_with fail
    clear wac0 wac1 walt tac0 tac1 tac2 tac3 tac4 tac5 tac6 tac7 talt
    have wa := WAH.out; clear WAH
    have ta := TAH.out; clear TAH
    have zb := ZB.out; clear ZB
    refine (isSize_any _ z).mono ?_
    rintro e w5 ⟨rfl, hw⟩
    rw [hw]; clear hw w5
    rw [H2.out]
    have wac0 := has_cell wa 0 rfl; have wac1 := has_cell wa 1 rfl
    have walt := has_lt wa
    have tac0 := has_cell ta 0 rfl; have tac1 := has_cell ta 1 rfl; have tac2 := has_cell ta 2 rfl; have tac3 := has_cell ta 3 rfl; have tac4 := has_cell ta 4 rfl; have tac5 := has_cell ta 5 rfl; have tac6 := has_cell ta 6 rfl; have tac7 := has_cell ta 7 rfl
    have talt := has_lt ta
    have WAH := Lib.hid wa; clear wa
    have TAH := Lib.hid ta; clear ta
    have ZB := Lib.hid zb; clear zb
    go_wp2_with fail
    clear wac0 wac1 walt tac0 tac1 tac2 tac3 tac4 tac5 tac6 tac7 talt
    have wa := WAH.out; clear WAH
    have ta := TAH.out; clear TAH
    have zb := ZB.out; clear ZB
    go_ret
    exact ⟨fint (by rw [feeB, if_neg (fun hx => by have := H2.out; rw [(in_iff z 1 24).2 hx.2.2.1] at this; cases this)]), zb⟩
  have H2 := Lib.hid h2; clear h2
  cases h3 : timeB a
  · have H3 := Lib.hid h3; clear h3
    go_enter Try.func10, Try.ntmps10
    go_wp2_with fail
    generalize hX : (w.alloc (.cells #[.slice A o.length n, .slice A' c.length n'] 26)) = w1
    have hb : Below w.heap.size w w1 := by rw [← hX]; exact balloc _ _
    have hk : Has w1 w.heap.size 26 #[.slice A o.length n, .slice A' c.length n'] := by rw [← hX]; exact has_new _ _ _
    have hzw1 : w1.heap.size = w.heap.size + 1 := by rw [← hX]; simp
    clear hX
    have zb := hb; clear hb
    have wa := hk; clear hk
    generalize hX : (w1.alloc (.cells #[.int .i64 t.keep, .int .i64 t.free, .int .i64 t.step, .int .i64 t.rate, .int .i64 t.cap, .int .i64 t.longer, .int .i64 t.price, .int .i64 t.most] 35)) = w2
    have hb : Below w1.heap.size w1 w2 := by rw [← hX]; exact balloc _ _
    have hk : Has w2 w1.heap.size 35 #[.int .i64 t.keep, .int .i64 t.free, .int .i64 t.step, .int .i64 t.rate, .int .i64 t.cap, .int .i64 t.longer, .int .i64 t.price, .int .i64 t.most] := by rw [← hX]; exact has_new _ _ _
    have hzw2 : w2.heap.size = w.heap.size + 2 := by rw [← hX]; simp [hzw1]
    clear hX
    rw [hzw1] at hk
    replace wa := has_call wa hb
    replace zb := bthen zb hb; clear hb
    have ta := hk; clear hk
    clear hzw1 hzw2
    have wac0 := has_cell wa 0 rfl; have wac1 := has_cell wa 1 rfl
    have walt := has_lt wa
    have tac0 := has_cell ta 0 rfl; have tac1 := has_cell ta 1 rfl; have tac2 := has_cell ta 2 rfl; have tac3 := has_cell ta 3 rfl; have tac4 := has_cell ta 4 rfl; have tac5 := has_cell ta 5 rfl; have tac6 := has_cell ta 6 rfl; have tac7 := has_cell ta 7 rfl
    have talt := has_lt ta
    have WAH := Lib.hid wa; clear wa
    have TAH := Lib.hid ta; clear ta
    have ZB := Lib.hid zb; clear zb
    go_wp2_with fail
    clear wac0 wac1 walt tac0 tac1 tac2 tac3 tac4 tac5 tac6 tac7 talt
    have wa := WAH.out; clear WAH
    have ta := TAH.out; clear TAH
    have zb := ZB.out; clear ZB
    refine (weekI_any _ B A A' n n' o c ho hc (by have := zb.size; omega) (HS.out.later hB zb) (HS'.out.later hB zb)).mono ?_
    rintro e w3 ⟨rfl, hb⟩
    rw [H0.out]
    replace wa := has_call wa hb
    replace ta := has_call ta hb
    replace zb := bthen zb hb; clear hb
    have wac0 := has_cell wa 0 rfl; have wac1 := has_cell wa 1 rfl
    have walt := has_lt wa
    have tac0 := has_cell ta 0 rfl; have tac1 := has_cell ta 1 rfl; have tac2 := has_cell ta 2 rfl; have tac3 := has_cell ta 3 rfl; have tac4 := has_cell ta 4 rfl; have tac5 := has_cell ta 5 rfl; have tac6 := has_cell ta 6 rfl; have tac7 := has_cell ta 7 rfl
    have talt := has_lt ta
    have WAH := Lib.hid wa; clear wa
    have TAH := Lib.hid ta; clear ta
    have ZB := Lib.hid zb; clear zb
    go_wp2_with fail
    clear wac0 wac1 walt tac0 tac1 tac2 tac3 tac4 tac5 tac6 tac7 talt
    have wa := WAH.out; clear WAH
    have ta := TAH.out; clear TAH
    have zb := ZB.out; clear ZB
    refine (termsI_any _ t).mono ?_
    rintro e w4 ⟨rfl, hb⟩
    rw [H1.out]
    replace wa := has_call wa hb
    replace ta := has_call ta hb
    replace zb := bthen zb hb; clear hb
    have wac0 := has_cell wa 0 rfl; have wac1 := has_cell wa 1 rfl
    have walt := has_lt wa
    have tac0 := has_cell ta 0 rfl; have tac1 := has_cell ta 1 rfl; have tac2 := has_cell ta 2 rfl; have tac3 := has_cell ta 3 rfl; have tac4 := has_cell ta 4 rfl; have tac5 := has_cell ta 5 rfl; have tac6 := has_cell ta 6 rfl; have tac7 := has_cell ta 7 rfl
    have talt := has_lt ta
    have WAH := Lib.hid wa; clear wa
    have TAH := Lib.hid ta; clear ta
    have ZB := Lib.hid zb; clear zb
    go_wp2_with fail
    clear wac0 wac1 walt tac0 tac1 tac2 tac3 tac4 tac5 tac6 tac7 talt
    have wa := WAH.out; clear WAH
    have ta := TAH.out; clear TAH
    have zb := ZB.out; clear ZB
    refine (isSize_any _ z).mono ?_
    rintro e w5 ⟨rfl, hw⟩
    rw [hw]; clear hw w5
    rw [H2.out]
    have wac0 := has_cell wa 0 rfl; have wac1 := has_cell wa 1 rfl
    have walt := has_lt wa
    have tac0 := has_cell ta 0 rfl; have tac1 := has_cell ta 1 rfl; have tac2 := has_cell ta 2 rfl; have tac3 := has_cell ta 3 rfl; have tac4 := has_cell ta 4 rfl; have tac5 := has_cell ta 5 rfl; have tac6 := has_cell ta 6 rfl; have tac7 := has_cell ta 7 rfl
    have talt := has_lt ta
    have WAH := Lib.hid wa; clear wa
    have TAH := Lib.hid ta; clear ta
    have ZB := Lib.hid zb; clear zb
    go_wp2_with fail
    clear wac0 wac1 walt tac0 tac1 tac2 tac3 tac4 tac5 tac6 tac7 talt
    have wa := WAH.out; clear WAH
    have ta := TAH.out; clear TAH
    have zb := ZB.out; clear ZB
    refine (isTime_any _ a).mono ?_
    rintro e w6 ⟨rfl, hw⟩
    rw [hw]; clear hw w6
    rw [H3.out]
    have wac0 := has_cell wa 0 rfl; have wac1 := has_cell wa 1 rfl
    have walt := has_lt wa
    have tac0 := has_cell ta 0 rfl; have tac1 := has_cell ta 1 rfl; have tac2 := has_cell ta 2 rfl; have tac3 := has_cell ta 3 rfl; have tac4 := has_cell ta 4 rfl; have tac5 := has_cell ta 5 rfl; have tac6 := has_cell ta 6 rfl; have tac7 := has_cell ta 7 rfl
    have talt := has_lt ta
    have WAH := Lib.hid wa; clear wa
    have TAH := Lib.hid ta; clear ta
    have ZB := Lib.hid zb; clear zb
    go_wp2_with fail
    clear wac0 wac1 walt tac0 tac1 tac2 tac3 tac4 tac5 tac6 tac7 talt
    have wa := WAH.out; clear WAH
    have ta := TAH.out; clear TAH
    have zb := ZB.out; clear ZB
    go_ret
    exact ⟨fint (by rw [feeB, if_neg (fun hx => by have := H3.out; rw [hx.2.2.2.1] at this; cases this)]), zb⟩
  have H3 := Lib.hid h3; clear h3
  cases h4 : timeB b
  · have H4 := Lib.hid h4; clear h4
    go_enter Try.func10, Try.ntmps10
    go_wp2_with fail
    generalize hX : (w.alloc (.cells #[.slice A o.length n, .slice A' c.length n'] 26)) = w1
    have hb : Below w.heap.size w w1 := by rw [← hX]; exact balloc _ _
    have hk : Has w1 w.heap.size 26 #[.slice A o.length n, .slice A' c.length n'] := by rw [← hX]; exact has_new _ _ _
    have hzw1 : w1.heap.size = w.heap.size + 1 := by rw [← hX]; simp
    clear hX
    have zb := hb; clear hb
    have wa := hk; clear hk
    generalize hX : (w1.alloc (.cells #[.int .i64 t.keep, .int .i64 t.free, .int .i64 t.step, .int .i64 t.rate, .int .i64 t.cap, .int .i64 t.longer, .int .i64 t.price, .int .i64 t.most] 35)) = w2
    have hb : Below w1.heap.size w1 w2 := by rw [← hX]; exact balloc _ _
    have hk : Has w2 w1.heap.size 35 #[.int .i64 t.keep, .int .i64 t.free, .int .i64 t.step, .int .i64 t.rate, .int .i64 t.cap, .int .i64 t.longer, .int .i64 t.price, .int .i64 t.most] := by rw [← hX]; exact has_new _ _ _
    have hzw2 : w2.heap.size = w.heap.size + 2 := by rw [← hX]; simp [hzw1]
    clear hX
    rw [hzw1] at hk
    replace wa := has_call wa hb
    replace zb := bthen zb hb; clear hb
    have ta := hk; clear hk
    clear hzw1 hzw2
    have wac0 := has_cell wa 0 rfl; have wac1 := has_cell wa 1 rfl
    have walt := has_lt wa
    have tac0 := has_cell ta 0 rfl; have tac1 := has_cell ta 1 rfl; have tac2 := has_cell ta 2 rfl; have tac3 := has_cell ta 3 rfl; have tac4 := has_cell ta 4 rfl; have tac5 := has_cell ta 5 rfl; have tac6 := has_cell ta 6 rfl; have tac7 := has_cell ta 7 rfl
    have talt := has_lt ta
    have WAH := Lib.hid wa; clear wa
    have TAH := Lib.hid ta; clear ta
    have ZB := Lib.hid zb; clear zb
    go_wp2_with fail
    clear wac0 wac1 walt tac0 tac1 tac2 tac3 tac4 tac5 tac6 tac7 talt
    have wa := WAH.out; clear WAH
    have ta := TAH.out; clear TAH
    have zb := ZB.out; clear ZB
    refine (weekI_any _ B A A' n n' o c ho hc (by have := zb.size; omega) (HS.out.later hB zb) (HS'.out.later hB zb)).mono ?_
    rintro e w3 ⟨rfl, hb⟩
    rw [H0.out]
    replace wa := has_call wa hb
    replace ta := has_call ta hb
    replace zb := bthen zb hb; clear hb
    have wac0 := has_cell wa 0 rfl; have wac1 := has_cell wa 1 rfl
    have walt := has_lt wa
    have tac0 := has_cell ta 0 rfl; have tac1 := has_cell ta 1 rfl; have tac2 := has_cell ta 2 rfl; have tac3 := has_cell ta 3 rfl; have tac4 := has_cell ta 4 rfl; have tac5 := has_cell ta 5 rfl; have tac6 := has_cell ta 6 rfl; have tac7 := has_cell ta 7 rfl
    have talt := has_lt ta
    have WAH := Lib.hid wa; clear wa
    have TAH := Lib.hid ta; clear ta
    have ZB := Lib.hid zb; clear zb
    go_wp2_with fail
    clear wac0 wac1 walt tac0 tac1 tac2 tac3 tac4 tac5 tac6 tac7 talt
    have wa := WAH.out; clear WAH
    have ta := TAH.out; clear TAH
    have zb := ZB.out; clear ZB
    refine (termsI_any _ t).mono ?_
    rintro e w4 ⟨rfl, hb⟩
    rw [H1.out]
    replace wa := has_call wa hb
    replace ta := has_call ta hb
    replace zb := bthen zb hb; clear hb
    have wac0 := has_cell wa 0 rfl; have wac1 := has_cell wa 1 rfl
    have walt := has_lt wa
    have tac0 := has_cell ta 0 rfl; have tac1 := has_cell ta 1 rfl; have tac2 := has_cell ta 2 rfl; have tac3 := has_cell ta 3 rfl; have tac4 := has_cell ta 4 rfl; have tac5 := has_cell ta 5 rfl; have tac6 := has_cell ta 6 rfl; have tac7 := has_cell ta 7 rfl
    have talt := has_lt ta
    have WAH := Lib.hid wa; clear wa
    have TAH := Lib.hid ta; clear ta
    have ZB := Lib.hid zb; clear zb
    go_wp2_with fail
    clear wac0 wac1 walt tac0 tac1 tac2 tac3 tac4 tac5 tac6 tac7 talt
    have wa := WAH.out; clear WAH
    have ta := TAH.out; clear TAH
    have zb := ZB.out; clear ZB
    refine (isSize_any _ z).mono ?_
    rintro e w5 ⟨rfl, hw⟩
    rw [hw]; clear hw w5
    rw [H2.out]
    have wac0 := has_cell wa 0 rfl; have wac1 := has_cell wa 1 rfl
    have walt := has_lt wa
    have tac0 := has_cell ta 0 rfl; have tac1 := has_cell ta 1 rfl; have tac2 := has_cell ta 2 rfl; have tac3 := has_cell ta 3 rfl; have tac4 := has_cell ta 4 rfl; have tac5 := has_cell ta 5 rfl; have tac6 := has_cell ta 6 rfl; have tac7 := has_cell ta 7 rfl
    have talt := has_lt ta
    have WAH := Lib.hid wa; clear wa
    have TAH := Lib.hid ta; clear ta
    have ZB := Lib.hid zb; clear zb
    go_wp2_with fail
    clear wac0 wac1 walt tac0 tac1 tac2 tac3 tac4 tac5 tac6 tac7 talt
    have wa := WAH.out; clear WAH
    have ta := TAH.out; clear TAH
    have zb := ZB.out; clear ZB
    refine (isTime_any _ a).mono ?_
    rintro e w6 ⟨rfl, hw⟩
    rw [hw]; clear hw w6
    rw [H3.out]
    have wac0 := has_cell wa 0 rfl; have wac1 := has_cell wa 1 rfl
    have walt := has_lt wa
    have tac0 := has_cell ta 0 rfl; have tac1 := has_cell ta 1 rfl; have tac2 := has_cell ta 2 rfl; have tac3 := has_cell ta 3 rfl; have tac4 := has_cell ta 4 rfl; have tac5 := has_cell ta 5 rfl; have tac6 := has_cell ta 6 rfl; have tac7 := has_cell ta 7 rfl
    have talt := has_lt ta
    have WAH := Lib.hid wa; clear wa
    have TAH := Lib.hid ta; clear ta
    have ZB := Lib.hid zb; clear zb
    go_wp2_with fail
    clear wac0 wac1 walt tac0 tac1 tac2 tac3 tac4 tac5 tac6 tac7 talt
    have wa := WAH.out; clear WAH
    have ta := TAH.out; clear TAH
    have zb := ZB.out; clear ZB
    refine (isTime_any _ b).mono ?_
    rintro e w7 ⟨rfl, hw⟩
    rw [hw]; clear hw w7
    rw [H4.out]
    have wac0 := has_cell wa 0 rfl; have wac1 := has_cell wa 1 rfl
    have walt := has_lt wa
    have tac0 := has_cell ta 0 rfl; have tac1 := has_cell ta 1 rfl; have tac2 := has_cell ta 2 rfl; have tac3 := has_cell ta 3 rfl; have tac4 := has_cell ta 4 rfl; have tac5 := has_cell ta 5 rfl; have tac6 := has_cell ta 6 rfl; have tac7 := has_cell ta 7 rfl
    have talt := has_lt ta
    have WAH := Lib.hid wa; clear wa
    have TAH := Lib.hid ta; clear ta
    have ZB := Lib.hid zb; clear zb
    go_wp2_with fail
    clear wac0 wac1 walt tac0 tac1 tac2 tac3 tac4 tac5 tac6 tac7 talt
    have wa := WAH.out; clear WAH
    have ta := TAH.out; clear TAH
    have zb := ZB.out; clear ZB
    go_ret
    exact ⟨fint (by rw [feeB, if_neg (fun hx => by have := H4.out; rw [hx.2.2.2.2.1] at this; cases this)]), zb⟩
  have H4 := Lib.hid h4; clear h4
  by_cases h5 : b < a
  · skip
    go_enter Try.func10, Try.ntmps10
    go_wp2_with fail
    generalize hX : (w.alloc (.cells #[.slice A o.length n, .slice A' c.length n'] 26)) = w1
    have hb : Below w.heap.size w w1 := by rw [← hX]; exact balloc _ _
    have hk : Has w1 w.heap.size 26 #[.slice A o.length n, .slice A' c.length n'] := by rw [← hX]; exact has_new _ _ _
    have hzw1 : w1.heap.size = w.heap.size + 1 := by rw [← hX]; simp
    clear hX
    have zb := hb; clear hb
    have wa := hk; clear hk
    generalize hX : (w1.alloc (.cells #[.int .i64 t.keep, .int .i64 t.free, .int .i64 t.step, .int .i64 t.rate, .int .i64 t.cap, .int .i64 t.longer, .int .i64 t.price, .int .i64 t.most] 35)) = w2
    have hb : Below w1.heap.size w1 w2 := by rw [← hX]; exact balloc _ _
    have hk : Has w2 w1.heap.size 35 #[.int .i64 t.keep, .int .i64 t.free, .int .i64 t.step, .int .i64 t.rate, .int .i64 t.cap, .int .i64 t.longer, .int .i64 t.price, .int .i64 t.most] := by rw [← hX]; exact has_new _ _ _
    have hzw2 : w2.heap.size = w.heap.size + 2 := by rw [← hX]; simp [hzw1]
    clear hX
    rw [hzw1] at hk
    replace wa := has_call wa hb
    replace zb := bthen zb hb; clear hb
    have ta := hk; clear hk
    clear hzw1 hzw2
    have wac0 := has_cell wa 0 rfl; have wac1 := has_cell wa 1 rfl
    have walt := has_lt wa
    have tac0 := has_cell ta 0 rfl; have tac1 := has_cell ta 1 rfl; have tac2 := has_cell ta 2 rfl; have tac3 := has_cell ta 3 rfl; have tac4 := has_cell ta 4 rfl; have tac5 := has_cell ta 5 rfl; have tac6 := has_cell ta 6 rfl; have tac7 := has_cell ta 7 rfl
    have talt := has_lt ta
    have WAH := Lib.hid wa; clear wa
    have TAH := Lib.hid ta; clear ta
    have ZB := Lib.hid zb; clear zb
    go_wp2_with fail
    clear wac0 wac1 walt tac0 tac1 tac2 tac3 tac4 tac5 tac6 tac7 talt
    have wa := WAH.out; clear WAH
    have ta := TAH.out; clear TAH
    have zb := ZB.out; clear ZB
    refine (weekI_any _ B A A' n n' o c ho hc (by have := zb.size; omega) (HS.out.later hB zb) (HS'.out.later hB zb)).mono ?_
    rintro e w3 ⟨rfl, hb⟩
    rw [H0.out]
    replace wa := has_call wa hb
    replace ta := has_call ta hb
    replace zb := bthen zb hb; clear hb
    have wac0 := has_cell wa 0 rfl; have wac1 := has_cell wa 1 rfl
    have walt := has_lt wa
    have tac0 := has_cell ta 0 rfl; have tac1 := has_cell ta 1 rfl; have tac2 := has_cell ta 2 rfl; have tac3 := has_cell ta 3 rfl; have tac4 := has_cell ta 4 rfl; have tac5 := has_cell ta 5 rfl; have tac6 := has_cell ta 6 rfl; have tac7 := has_cell ta 7 rfl
    have talt := has_lt ta
    have WAH := Lib.hid wa; clear wa
    have TAH := Lib.hid ta; clear ta
    have ZB := Lib.hid zb; clear zb
    go_wp2_with fail
    clear wac0 wac1 walt tac0 tac1 tac2 tac3 tac4 tac5 tac6 tac7 talt
    have wa := WAH.out; clear WAH
    have ta := TAH.out; clear TAH
    have zb := ZB.out; clear ZB
    refine (termsI_any _ t).mono ?_
    rintro e w4 ⟨rfl, hb⟩
    rw [H1.out]
    replace wa := has_call wa hb
    replace ta := has_call ta hb
    replace zb := bthen zb hb; clear hb
    have wac0 := has_cell wa 0 rfl; have wac1 := has_cell wa 1 rfl
    have walt := has_lt wa
    have tac0 := has_cell ta 0 rfl; have tac1 := has_cell ta 1 rfl; have tac2 := has_cell ta 2 rfl; have tac3 := has_cell ta 3 rfl; have tac4 := has_cell ta 4 rfl; have tac5 := has_cell ta 5 rfl; have tac6 := has_cell ta 6 rfl; have tac7 := has_cell ta 7 rfl
    have talt := has_lt ta
    have WAH := Lib.hid wa; clear wa
    have TAH := Lib.hid ta; clear ta
    have ZB := Lib.hid zb; clear zb
    go_wp2_with fail
    clear wac0 wac1 walt tac0 tac1 tac2 tac3 tac4 tac5 tac6 tac7 talt
    have wa := WAH.out; clear WAH
    have ta := TAH.out; clear TAH
    have zb := ZB.out; clear ZB
    refine (isSize_any _ z).mono ?_
    rintro e w5 ⟨rfl, hw⟩
    rw [hw]; clear hw w5
    rw [H2.out]
    have wac0 := has_cell wa 0 rfl; have wac1 := has_cell wa 1 rfl
    have walt := has_lt wa
    have tac0 := has_cell ta 0 rfl; have tac1 := has_cell ta 1 rfl; have tac2 := has_cell ta 2 rfl; have tac3 := has_cell ta 3 rfl; have tac4 := has_cell ta 4 rfl; have tac5 := has_cell ta 5 rfl; have tac6 := has_cell ta 6 rfl; have tac7 := has_cell ta 7 rfl
    have talt := has_lt ta
    have WAH := Lib.hid wa; clear wa
    have TAH := Lib.hid ta; clear ta
    have ZB := Lib.hid zb; clear zb
    go_wp2_with fail
    clear wac0 wac1 walt tac0 tac1 tac2 tac3 tac4 tac5 tac6 tac7 talt
    have wa := WAH.out; clear WAH
    have ta := TAH.out; clear TAH
    have zb := ZB.out; clear ZB
    refine (isTime_any _ a).mono ?_
    rintro e w6 ⟨rfl, hw⟩
    rw [hw]; clear hw w6
    rw [H3.out]
    have wac0 := has_cell wa 0 rfl; have wac1 := has_cell wa 1 rfl
    have walt := has_lt wa
    have tac0 := has_cell ta 0 rfl; have tac1 := has_cell ta 1 rfl; have tac2 := has_cell ta 2 rfl; have tac3 := has_cell ta 3 rfl; have tac4 := has_cell ta 4 rfl; have tac5 := has_cell ta 5 rfl; have tac6 := has_cell ta 6 rfl; have tac7 := has_cell ta 7 rfl
    have talt := has_lt ta
    have WAH := Lib.hid wa; clear wa
    have TAH := Lib.hid ta; clear ta
    have ZB := Lib.hid zb; clear zb
    go_wp2_with fail
    clear wac0 wac1 walt tac0 tac1 tac2 tac3 tac4 tac5 tac6 tac7 talt
    have wa := WAH.out; clear WAH
    have ta := TAH.out; clear TAH
    have zb := ZB.out; clear ZB
    refine (isTime_any _ b).mono ?_
    rintro e w7 ⟨rfl, hw⟩
    rw [hw]; clear hw w7
    rw [H4.out]
    have wac0 := has_cell wa 0 rfl; have wac1 := has_cell wa 1 rfl
    have walt := has_lt wa
    have tac0 := has_cell ta 0 rfl; have tac1 := has_cell ta 1 rfl; have tac2 := has_cell ta 2 rfl; have tac3 := has_cell ta 3 rfl; have tac4 := has_cell ta 4 rfl; have tac5 := has_cell ta 5 rfl; have tac6 := has_cell ta 6 rfl; have tac7 := has_cell ta 7 rfl
    have talt := has_lt ta
    have WAH := Lib.hid wa; clear wa
    have TAH := Lib.hid ta; clear ta
    have ZB := Lib.hid zb; clear zb
    go_wp2_with fail
    clear wac0 wac1 walt tac0 tac1 tac2 tac3 tac4 tac5 tac6 tac7 talt
    have wa := WAH.out; clear WAH
    have ta := TAH.out; clear TAH
    have zb := ZB.out; clear ZB
    go_ret
    exact ⟨fint (by rw [feeB, if_neg (fun hx => by have := hx.2.2.2.2.2.1; omega)]), zb⟩
  cases h6 : inB e 0 t.most
  · have H6 := Lib.hid h6; clear h6
    go_enter Try.func10, Try.ntmps10
    go_wp2_with fail
    generalize hX : (w.alloc (.cells #[.slice A o.length n, .slice A' c.length n'] 26)) = w1
    have hb : Below w.heap.size w w1 := by rw [← hX]; exact balloc _ _
    have hk : Has w1 w.heap.size 26 #[.slice A o.length n, .slice A' c.length n'] := by rw [← hX]; exact has_new _ _ _
    have hzw1 : w1.heap.size = w.heap.size + 1 := by rw [← hX]; simp
    clear hX
    have zb := hb; clear hb
    have wa := hk; clear hk
    generalize hX : (w1.alloc (.cells #[.int .i64 t.keep, .int .i64 t.free, .int .i64 t.step, .int .i64 t.rate, .int .i64 t.cap, .int .i64 t.longer, .int .i64 t.price, .int .i64 t.most] 35)) = w2
    have hb : Below w1.heap.size w1 w2 := by rw [← hX]; exact balloc _ _
    have hk : Has w2 w1.heap.size 35 #[.int .i64 t.keep, .int .i64 t.free, .int .i64 t.step, .int .i64 t.rate, .int .i64 t.cap, .int .i64 t.longer, .int .i64 t.price, .int .i64 t.most] := by rw [← hX]; exact has_new _ _ _
    have hzw2 : w2.heap.size = w.heap.size + 2 := by rw [← hX]; simp [hzw1]
    clear hX
    rw [hzw1] at hk
    replace wa := has_call wa hb
    replace zb := bthen zb hb; clear hb
    have ta := hk; clear hk
    clear hzw1 hzw2
    have wac0 := has_cell wa 0 rfl; have wac1 := has_cell wa 1 rfl
    have walt := has_lt wa
    have tac0 := has_cell ta 0 rfl; have tac1 := has_cell ta 1 rfl; have tac2 := has_cell ta 2 rfl; have tac3 := has_cell ta 3 rfl; have tac4 := has_cell ta 4 rfl; have tac5 := has_cell ta 5 rfl; have tac6 := has_cell ta 6 rfl; have tac7 := has_cell ta 7 rfl
    have talt := has_lt ta
    have WAH := Lib.hid wa; clear wa
    have TAH := Lib.hid ta; clear ta
    have ZB := Lib.hid zb; clear zb
    go_wp2_with fail
    clear wac0 wac1 walt tac0 tac1 tac2 tac3 tac4 tac5 tac6 tac7 talt
    have wa := WAH.out; clear WAH
    have ta := TAH.out; clear TAH
    have zb := ZB.out; clear ZB
    refine (weekI_any _ B A A' n n' o c ho hc (by have := zb.size; omega) (HS.out.later hB zb) (HS'.out.later hB zb)).mono ?_
    rintro e w3 ⟨rfl, hb⟩
    rw [H0.out]
    replace wa := has_call wa hb
    replace ta := has_call ta hb
    replace zb := bthen zb hb; clear hb
    have wac0 := has_cell wa 0 rfl; have wac1 := has_cell wa 1 rfl
    have walt := has_lt wa
    have tac0 := has_cell ta 0 rfl; have tac1 := has_cell ta 1 rfl; have tac2 := has_cell ta 2 rfl; have tac3 := has_cell ta 3 rfl; have tac4 := has_cell ta 4 rfl; have tac5 := has_cell ta 5 rfl; have tac6 := has_cell ta 6 rfl; have tac7 := has_cell ta 7 rfl
    have talt := has_lt ta
    have WAH := Lib.hid wa; clear wa
    have TAH := Lib.hid ta; clear ta
    have ZB := Lib.hid zb; clear zb
    go_wp2_with fail
    clear wac0 wac1 walt tac0 tac1 tac2 tac3 tac4 tac5 tac6 tac7 talt
    have wa := WAH.out; clear WAH
    have ta := TAH.out; clear TAH
    have zb := ZB.out; clear ZB
    refine (termsI_any _ t).mono ?_
    rintro e w4 ⟨rfl, hb⟩
    rw [H1.out]
    replace wa := has_call wa hb
    replace ta := has_call ta hb
    replace zb := bthen zb hb; clear hb
    have wac0 := has_cell wa 0 rfl; have wac1 := has_cell wa 1 rfl
    have walt := has_lt wa
    have tac0 := has_cell ta 0 rfl; have tac1 := has_cell ta 1 rfl; have tac2 := has_cell ta 2 rfl; have tac3 := has_cell ta 3 rfl; have tac4 := has_cell ta 4 rfl; have tac5 := has_cell ta 5 rfl; have tac6 := has_cell ta 6 rfl; have tac7 := has_cell ta 7 rfl
    have talt := has_lt ta
    have WAH := Lib.hid wa; clear wa
    have TAH := Lib.hid ta; clear ta
    have ZB := Lib.hid zb; clear zb
    go_wp2_with fail
    clear wac0 wac1 walt tac0 tac1 tac2 tac3 tac4 tac5 tac6 tac7 talt
    have wa := WAH.out; clear WAH
    have ta := TAH.out; clear TAH
    have zb := ZB.out; clear ZB
    refine (isSize_any _ z).mono ?_
    rintro e w5 ⟨rfl, hw⟩
    rw [hw]; clear hw w5
    rw [H2.out]
    have wac0 := has_cell wa 0 rfl; have wac1 := has_cell wa 1 rfl
    have walt := has_lt wa
    have tac0 := has_cell ta 0 rfl; have tac1 := has_cell ta 1 rfl; have tac2 := has_cell ta 2 rfl; have tac3 := has_cell ta 3 rfl; have tac4 := has_cell ta 4 rfl; have tac5 := has_cell ta 5 rfl; have tac6 := has_cell ta 6 rfl; have tac7 := has_cell ta 7 rfl
    have talt := has_lt ta
    have WAH := Lib.hid wa; clear wa
    have TAH := Lib.hid ta; clear ta
    have ZB := Lib.hid zb; clear zb
    go_wp2_with fail
    clear wac0 wac1 walt tac0 tac1 tac2 tac3 tac4 tac5 tac6 tac7 talt
    have wa := WAH.out; clear WAH
    have ta := TAH.out; clear TAH
    have zb := ZB.out; clear ZB
    refine (isTime_any _ a).mono ?_
    rintro e w6 ⟨rfl, hw⟩
    rw [hw]; clear hw w6
    rw [H3.out]
    have wac0 := has_cell wa 0 rfl; have wac1 := has_cell wa 1 rfl
    have walt := has_lt wa
    have tac0 := has_cell ta 0 rfl; have tac1 := has_cell ta 1 rfl; have tac2 := has_cell ta 2 rfl; have tac3 := has_cell ta 3 rfl; have tac4 := has_cell ta 4 rfl; have tac5 := has_cell ta 5 rfl; have tac6 := has_cell ta 6 rfl; have tac7 := has_cell ta 7 rfl
    have talt := has_lt ta
    have WAH := Lib.hid wa; clear wa
    have TAH := Lib.hid ta; clear ta
    have ZB := Lib.hid zb; clear zb
    go_wp2_with fail
    clear wac0 wac1 walt tac0 tac1 tac2 tac3 tac4 tac5 tac6 tac7 talt
    have wa := WAH.out; clear WAH
    have ta := TAH.out; clear TAH
    have zb := ZB.out; clear ZB
    refine (isTime_any _ b).mono ?_
    rintro e w7 ⟨rfl, hw⟩
    rw [hw]; clear hw w7
    rw [H4.out]
    have wac0 := has_cell wa 0 rfl; have wac1 := has_cell wa 1 rfl
    have walt := has_lt wa
    have tac0 := has_cell ta 0 rfl; have tac1 := has_cell ta 1 rfl; have tac2 := has_cell ta 2 rfl; have tac3 := has_cell ta 3 rfl; have tac4 := has_cell ta 4 rfl; have tac5 := has_cell ta 5 rfl; have tac6 := has_cell ta 6 rfl; have tac7 := has_cell ta 7 rfl
    have talt := has_lt ta
    have WAH := Lib.hid wa; clear wa
    have TAH := Lib.hid ta; clear ta
    have ZB := Lib.hid zb; clear zb
    go_wp2_with fail
    clear wac0 wac1 walt tac0 tac1 tac2 tac3 tac4 tac5 tac6 tac7 talt
    have wa := WAH.out; clear WAH
    have ta := TAH.out; clear TAH
    have zb := ZB.out; clear ZB
    refine (isExt_any _ t e).mono ?_
    rintro e w8 ⟨rfl, hb⟩
    rw [H6.out]
    replace wa := has_call wa hb
    replace ta := has_call ta hb
    replace zb := bthen zb hb; clear hb
    have wac0 := has_cell wa 0 rfl; have wac1 := has_cell wa 1 rfl
    have walt := has_lt wa
    have tac0 := has_cell ta 0 rfl; have tac1 := has_cell ta 1 rfl; have tac2 := has_cell ta 2 rfl; have tac3 := has_cell ta 3 rfl; have tac4 := has_cell ta 4 rfl; have tac5 := has_cell ta 5 rfl; have tac6 := has_cell ta 6 rfl; have tac7 := has_cell ta 7 rfl
    have talt := has_lt ta
    have WAH := Lib.hid wa; clear wa
    have TAH := Lib.hid ta; clear ta
    have ZB := Lib.hid zb; clear zb
    go_wp2_with fail
    clear wac0 wac1 walt tac0 tac1 tac2 tac3 tac4 tac5 tac6 tac7 talt
    have wa := WAH.out; clear WAH
    have ta := TAH.out; clear TAH
    have zb := ZB.out; clear ZB
    go_ret
    exact ⟨fint (by rw [feeB, if_neg (fun hx => by have := H6.out; rw [(in_iff e 0 t.most).2 hx.2.2.2.2.2.2] at this; cases this)]), zb⟩
  have H6 := Lib.hid h6; clear h6
  have hz := (in_iff z 1 24).1 H2.out; have he := (in_iff e 0 t.most).1 H6.out
  have hok : feeOk o c t z a b e := ⟨H0.out, H1.out, hz, H3.out, H4.out, by omega, he⟩
  have hfb : feeB o c t z a b e = storB t z (hoursB o c a b) + t.price * e := by rw [feeB, if_pos hok]
  have HF := Lib.hid hfb; clear hfb hok
  have hr := hours_range o c a b; have sr := stor_nonneg H1.out (show 0 ≤ z by omega) (hoursB o c a b); have qb := price_bound H1.out he.1 he.2
  obtain ⟨sr0, sr1⟩ := sr; obtain ⟨qb0, qb1⟩ := qb; obtain ⟨hr0, hr1⟩ := hr; obtain ⟨hz0, hz1⟩ := hz; obtain ⟨he0, he1⟩ := he
  have hw3 : IntKind.i64.wrap (t.price * e) = t.price * e := IntWalk.i64_in _ (by omega)
  have hw4 : IntKind.i64.wrap (storB t z (hoursB o c a b) + t.price * e) = storB t z (hoursB o c a b) + t.price * e := IntWalk.i64_in _ (by omega)
  go_enter Try.func10, Try.ntmps10
  go_wp2_with fail
  generalize hX : (w.alloc (.cells #[.slice A o.length n, .slice A' c.length n'] 26)) = w1
  have hb : Below w.heap.size w w1 := by rw [← hX]; exact balloc _ _
  have hk : Has w1 w.heap.size 26 #[.slice A o.length n, .slice A' c.length n'] := by rw [← hX]; exact has_new _ _ _
  have hzw1 : w1.heap.size = w.heap.size + 1 := by rw [← hX]; simp
  clear hX
  have zb := hb; clear hb
  have wa := hk; clear hk
  generalize hX : (w1.alloc (.cells #[.int .i64 t.keep, .int .i64 t.free, .int .i64 t.step, .int .i64 t.rate, .int .i64 t.cap, .int .i64 t.longer, .int .i64 t.price, .int .i64 t.most] 35)) = w2
  have hb : Below w1.heap.size w1 w2 := by rw [← hX]; exact balloc _ _
  have hk : Has w2 w1.heap.size 35 #[.int .i64 t.keep, .int .i64 t.free, .int .i64 t.step, .int .i64 t.rate, .int .i64 t.cap, .int .i64 t.longer, .int .i64 t.price, .int .i64 t.most] := by rw [← hX]; exact has_new _ _ _
  have hzw2 : w2.heap.size = w.heap.size + 2 := by rw [← hX]; simp [hzw1]
  clear hX
  rw [hzw1] at hk
  replace wa := has_call wa hb
  replace zb := bthen zb hb; clear hb
  have ta := hk; clear hk
  clear hzw1 hzw2
  have wac0 := has_cell wa 0 rfl; have wac1 := has_cell wa 1 rfl
  have walt := has_lt wa
  have tac0 := has_cell ta 0 rfl; have tac1 := has_cell ta 1 rfl; have tac2 := has_cell ta 2 rfl; have tac3 := has_cell ta 3 rfl; have tac4 := has_cell ta 4 rfl; have tac5 := has_cell ta 5 rfl; have tac6 := has_cell ta 6 rfl; have tac7 := has_cell ta 7 rfl
  have talt := has_lt ta
  have WAH := Lib.hid wa; clear wa
  have TAH := Lib.hid ta; clear ta
  have ZB := Lib.hid zb; clear zb
  go_wp2_with fail
  clear wac0 wac1 walt tac0 tac1 tac2 tac3 tac4 tac5 tac6 tac7 talt
  have wa := WAH.out; clear WAH
  have ta := TAH.out; clear TAH
  have zb := ZB.out; clear ZB
  refine (weekI_any _ B A A' n n' o c ho hc (by have := zb.size; omega) (HS.out.later hB zb) (HS'.out.later hB zb)).mono ?_
  rintro e w3 ⟨rfl, hb⟩
  rw [H0.out]
  replace wa := has_call wa hb
  replace ta := has_call ta hb
  replace zb := bthen zb hb; clear hb
  have wac0 := has_cell wa 0 rfl; have wac1 := has_cell wa 1 rfl
  have walt := has_lt wa
  have tac0 := has_cell ta 0 rfl; have tac1 := has_cell ta 1 rfl; have tac2 := has_cell ta 2 rfl; have tac3 := has_cell ta 3 rfl; have tac4 := has_cell ta 4 rfl; have tac5 := has_cell ta 5 rfl; have tac6 := has_cell ta 6 rfl; have tac7 := has_cell ta 7 rfl
  have talt := has_lt ta
  have WAH := Lib.hid wa; clear wa
  have TAH := Lib.hid ta; clear ta
  have ZB := Lib.hid zb; clear zb
  go_wp2_with fail
  clear wac0 wac1 walt tac0 tac1 tac2 tac3 tac4 tac5 tac6 tac7 talt
  have wa := WAH.out; clear WAH
  have ta := TAH.out; clear TAH
  have zb := ZB.out; clear ZB
  refine (termsI_any _ t).mono ?_
  rintro e w4 ⟨rfl, hb⟩
  rw [H1.out]
  replace wa := has_call wa hb
  replace ta := has_call ta hb
  replace zb := bthen zb hb; clear hb
  have wac0 := has_cell wa 0 rfl; have wac1 := has_cell wa 1 rfl
  have walt := has_lt wa
  have tac0 := has_cell ta 0 rfl; have tac1 := has_cell ta 1 rfl; have tac2 := has_cell ta 2 rfl; have tac3 := has_cell ta 3 rfl; have tac4 := has_cell ta 4 rfl; have tac5 := has_cell ta 5 rfl; have tac6 := has_cell ta 6 rfl; have tac7 := has_cell ta 7 rfl
  have talt := has_lt ta
  have WAH := Lib.hid wa; clear wa
  have TAH := Lib.hid ta; clear ta
  have ZB := Lib.hid zb; clear zb
  go_wp2_with fail
  clear wac0 wac1 walt tac0 tac1 tac2 tac3 tac4 tac5 tac6 tac7 talt
  have wa := WAH.out; clear WAH
  have ta := TAH.out; clear TAH
  have zb := ZB.out; clear ZB
  refine (isSize_any _ z).mono ?_
  rintro e w5 ⟨rfl, hw⟩
  rw [hw]; clear hw w5
  rw [H2.out]
  have wac0 := has_cell wa 0 rfl; have wac1 := has_cell wa 1 rfl
  have walt := has_lt wa
  have tac0 := has_cell ta 0 rfl; have tac1 := has_cell ta 1 rfl; have tac2 := has_cell ta 2 rfl; have tac3 := has_cell ta 3 rfl; have tac4 := has_cell ta 4 rfl; have tac5 := has_cell ta 5 rfl; have tac6 := has_cell ta 6 rfl; have tac7 := has_cell ta 7 rfl
  have talt := has_lt ta
  have WAH := Lib.hid wa; clear wa
  have TAH := Lib.hid ta; clear ta
  have ZB := Lib.hid zb; clear zb
  go_wp2_with fail
  clear wac0 wac1 walt tac0 tac1 tac2 tac3 tac4 tac5 tac6 tac7 talt
  have wa := WAH.out; clear WAH
  have ta := TAH.out; clear TAH
  have zb := ZB.out; clear ZB
  refine (isTime_any _ a).mono ?_
  rintro e w6 ⟨rfl, hw⟩
  rw [hw]; clear hw w6
  rw [H3.out]
  have wac0 := has_cell wa 0 rfl; have wac1 := has_cell wa 1 rfl
  have walt := has_lt wa
  have tac0 := has_cell ta 0 rfl; have tac1 := has_cell ta 1 rfl; have tac2 := has_cell ta 2 rfl; have tac3 := has_cell ta 3 rfl; have tac4 := has_cell ta 4 rfl; have tac5 := has_cell ta 5 rfl; have tac6 := has_cell ta 6 rfl; have tac7 := has_cell ta 7 rfl
  have talt := has_lt ta
  have WAH := Lib.hid wa; clear wa
  have TAH := Lib.hid ta; clear ta
  have ZB := Lib.hid zb; clear zb
  go_wp2_with fail
  clear wac0 wac1 walt tac0 tac1 tac2 tac3 tac4 tac5 tac6 tac7 talt
  have wa := WAH.out; clear WAH
  have ta := TAH.out; clear TAH
  have zb := ZB.out; clear ZB
  refine (isTime_any _ b).mono ?_
  rintro e w7 ⟨rfl, hw⟩
  rw [hw]; clear hw w7
  rw [H4.out]
  have wac0 := has_cell wa 0 rfl; have wac1 := has_cell wa 1 rfl
  have walt := has_lt wa
  have tac0 := has_cell ta 0 rfl; have tac1 := has_cell ta 1 rfl; have tac2 := has_cell ta 2 rfl; have tac3 := has_cell ta 3 rfl; have tac4 := has_cell ta 4 rfl; have tac5 := has_cell ta 5 rfl; have tac6 := has_cell ta 6 rfl; have tac7 := has_cell ta 7 rfl
  have talt := has_lt ta
  have WAH := Lib.hid wa; clear wa
  have TAH := Lib.hid ta; clear ta
  have ZB := Lib.hid zb; clear zb
  go_wp2_with fail
  clear wac0 wac1 walt tac0 tac1 tac2 tac3 tac4 tac5 tac6 tac7 talt
  have wa := WAH.out; clear WAH
  have ta := TAH.out; clear TAH
  have zb := ZB.out; clear ZB
  refine (isExt_any _ t e).mono ?_
  rintro e w8 ⟨rfl, hb⟩
  rw [H6.out]
  replace wa := has_call wa hb
  replace ta := has_call ta hb
  replace zb := bthen zb hb; clear hb
  have wac0 := has_cell wa 0 rfl; have wac1 := has_cell wa 1 rfl
  have walt := has_lt wa
  have tac0 := has_cell ta 0 rfl; have tac1 := has_cell ta 1 rfl; have tac2 := has_cell ta 2 rfl; have tac3 := has_cell ta 3 rfl; have tac4 := has_cell ta 4 rfl; have tac5 := has_cell ta 5 rfl; have tac6 := has_cell ta 6 rfl; have tac7 := has_cell ta 7 rfl
  have talt := has_lt ta
  have WAH := Lib.hid wa; clear wa
  have TAH := Lib.hid ta; clear ta
  have ZB := Lib.hid zb; clear zb
  go_wp2_with fail
  clear wac0 wac1 walt tac0 tac1 tac2 tac3 tac4 tac5 tac6 tac7 talt
  have wa := WAH.out; clear WAH
  have ta := TAH.out; clear TAH
  have zb := ZB.out; clear ZB
  refine (tariffOf_any _ t z).mono ?_
  rintro r w9 ⟨b1, b2, rfl, hC, hb⟩
  replace wa := has_call wa hb
  replace ta := has_call ta hb
  replace zb := bthen zb hb; clear hb
  have wac0 := has_cell wa 0 rfl; have wac1 := has_cell wa 1 rfl
  have walt := has_lt wa
  have tac0 := has_cell ta 0 rfl; have tac1 := has_cell ta 1 rfl; have tac2 := has_cell ta 2 rfl; have tac3 := has_cell ta 3 rfl; have tac4 := has_cell ta 4 rfl; have tac5 := has_cell ta 5 rfl; have tac6 := has_cell ta 6 rfl; have tac7 := has_cell ta 7 rfl
  have talt := has_lt ta
  have WAH := Lib.hid wa; clear wa
  have TAH := Lib.hid ta; clear ta
  have ZB := Lib.hid zb; clear zb
  try go_wp2_with fail
  have zc : Below w.heap.size w w9 := ZB.out
  have hzs := zc.size
  have S0 : (fun W : World => ((W.cell? ⟨w.heap.size, 0, none⟩ = some (.slice A o.length n) ∧ W.cell? ⟨w.heap.size, 1, none⟩ = some (.slice A' c.length n')) ∧ (W.cell? ⟨w.heap.size + 1, 0, none⟩ = some (.int .i64 t.keep) ∧ W.cell? ⟨w.heap.size + 1, 1, none⟩ = some (.int .i64 t.free) ∧ W.cell? ⟨w.heap.size + 1, 2, none⟩ = some (.int .i64 t.step) ∧ W.cell? ⟨w.heap.size + 1, 3, none⟩ = some (.int .i64 t.rate) ∧ W.cell? ⟨w.heap.size + 1, 4, none⟩ = some (.int .i64 t.cap) ∧ W.cell? ⟨w.heap.size + 1, 5, none⟩ = some (.int .i64 t.longer) ∧ W.cell? ⟨w.heap.size + 1, 6, none⟩ = some (.int .i64 t.price) ∧ W.cell? ⟨w.heap.size + 1, 7, none⟩ = some (.int .i64 t.most))) ∧ Caught6 W b1 b2 t z ∧ Below w9.heap.size w9 W) w9.drew := ⟨⟨⟨wac0, wac1⟩, ⟨tac0, tac1, tac2, tac3, tac4, tac5, tac6, tac7⟩⟩, hC, (Below.refl _ _).drew⟩
  clear hC wac0 wac1 tac0 tac1 tac2 tac3 tac4 tac5 tac6 tac7
  have zd : Below w.heap.size w w9.drew := zc.drew
  have hzd : w.heap.size + 1 < w9.drew.heap.size := talt
  go_region_held3 (fun W : World => ((W.cell? ⟨w.heap.size, 0, none⟩ = some (.slice A o.length n) ∧ W.cell? ⟨w.heap.size, 1, none⟩ = some (.slice A' c.length n')) ∧ (W.cell? ⟨w.heap.size + 1, 0, none⟩ = some (.int .i64 t.keep) ∧ W.cell? ⟨w.heap.size + 1, 1, none⟩ = some (.int .i64 t.free) ∧ W.cell? ⟨w.heap.size + 1, 2, none⟩ = some (.int .i64 t.step) ∧ W.cell? ⟨w.heap.size + 1, 3, none⟩ = some (.int .i64 t.rate) ∧ W.cell? ⟨w.heap.size + 1, 4, none⟩ = some (.int .i64 t.cap) ∧ W.cell? ⟨w.heap.size + 1, 5, none⟩ = some (.int .i64 t.longer) ∧ W.cell? ⟨w.heap.size + 1, 6, none⟩ = some (.int .i64 t.price) ∧ W.cell? ⟨w.heap.size + 1, 7, none⟩ = some (.int .i64 t.most))) ∧ Caught6 W b1 b2 t z ∧ Below w9.heap.size w9 W) (first | assumption) (first
    | (go_at_call 25; go_must (refine (hoursI_any w9.drew B A A' n n' o c a b ho hc (by have := zd.size; omega) (HS.out.later hB zd) (HS'.out.later hB zd)).mono ?_); rintro r wh ⟨rfl, hh⟩; have S1 : (fun W : World => ((W.cell? ⟨w.heap.size, 0, none⟩ = some (.slice A o.length n) ∧ W.cell? ⟨w.heap.size, 1, none⟩ = some (.slice A' c.length n')) ∧ (W.cell? ⟨w.heap.size + 1, 0, none⟩ = some (.int .i64 t.keep) ∧ W.cell? ⟨w.heap.size + 1, 1, none⟩ = some (.int .i64 t.free) ∧ W.cell? ⟨w.heap.size + 1, 2, none⟩ = some (.int .i64 t.step) ∧ W.cell? ⟨w.heap.size + 1, 3, none⟩ = some (.int .i64 t.rate) ∧ W.cell? ⟨w.heap.size + 1, 4, none⟩ = some (.int .i64 t.cap) ∧ W.cell? ⟨w.heap.size + 1, 5, none⟩ = some (.int .i64 t.longer) ∧ W.cell? ⟨w.heap.size + 1, 6, none⟩ = some (.int .i64 t.price) ∧ W.cell? ⟨w.heap.size + 1, 7, none⟩ = some (.int .i64 t.most))) ∧ Caught6 W b1 b2 t z ∧ Below w9.heap.size w9 W) wh := ⟨⟨⟨(bold hh _ _ (by omega)).trans S0.1.1.1, (bold hh _ _ (by omega)).trans S0.1.1.2⟩, ⟨(bold hh _ _ (by omega)).trans S0.1.2.1, (bold hh _ _ (by omega)).trans S0.1.2.2.1, (bold hh _ _ (by omega)).trans S0.1.2.2.2.1, (bold hh _ _ (by omega)).trans S0.1.2.2.2.2.1, (bold hh _ _ (by omega)).trans S0.1.2.2.2.2.2.1, (bold hh _ _ (by omega)).trans S0.1.2.2.2.2.2.2.1, (bold hh _ _ (by omega)).trans S0.1.2.2.2.2.2.2.2.1, (bold hh _ _ (by omega)).trans S0.1.2.2.2.2.2.2.2.2⟩⟩, Caught6.call (show Caught6 w9.drew b1 b2 t z from S0.2.1) hh, bthen S0.2.2 hh⟩)
    | (go_at_call 37; go_must (refine (tariff_any wh b1 b2 t z (hoursB o c a b) ⟨by omega, by omega⟩ H1.out ⟨by omega, by omega⟩ S1.2.1).mono ?_); rintro r wk ⟨rfl, hk⟩; have hzh := hh.size; have S2 : (fun W : World => ((W.cell? ⟨w.heap.size, 0, none⟩ = some (.slice A o.length n) ∧ W.cell? ⟨w.heap.size, 1, none⟩ = some (.slice A' c.length n')) ∧ (W.cell? ⟨w.heap.size + 1, 0, none⟩ = some (.int .i64 t.keep) ∧ W.cell? ⟨w.heap.size + 1, 1, none⟩ = some (.int .i64 t.free) ∧ W.cell? ⟨w.heap.size + 1, 2, none⟩ = some (.int .i64 t.step) ∧ W.cell? ⟨w.heap.size + 1, 3, none⟩ = some (.int .i64 t.rate) ∧ W.cell? ⟨w.heap.size + 1, 4, none⟩ = some (.int .i64 t.cap) ∧ W.cell? ⟨w.heap.size + 1, 5, none⟩ = some (.int .i64 t.longer) ∧ W.cell? ⟨w.heap.size + 1, 6, none⟩ = some (.int .i64 t.price) ∧ W.cell? ⟨w.heap.size + 1, 7, none⟩ = some (.int .i64 t.most))) ∧ Caught6 W b1 b2 t z ∧ Below w9.heap.size w9 W) wk := ⟨⟨⟨(bold hk _ _ (by omega)).trans S1.1.1.1, (bold hk _ _ (by omega)).trans S1.1.1.2⟩, ⟨(bold hk _ _ (by omega)).trans S1.1.2.1, (bold hk _ _ (by omega)).trans S1.1.2.2.1, (bold hk _ _ (by omega)).trans S1.1.2.2.2.1, (bold hk _ _ (by omega)).trans S1.1.2.2.2.2.1, (bold hk _ _ (by omega)).trans S1.1.2.2.2.2.2.1, (bold hk _ _ (by omega)).trans S1.1.2.2.2.2.2.2.1, (bold hk _ _ (by omega)).trans S1.1.2.2.2.2.2.2.2.1, (bold hk _ _ (by omega)).trans S1.1.2.2.2.2.2.2.2.2⟩⟩, Caught6.call S1.2.1 hk, bthen S1.2.2 hk⟩))
  go_wp2_with fail
  go_ret
  exact ⟨fint HF.out.symm, bthen zc S2.2.2⟩
set_option maxRecDepth 100000 in
set_option maxHeartbeats 4000000 in
theorem feeS_any (w : World) (B : Nat) (A A' : Option Addr) (n n' : Nat) (o c : List (Int × Int)) (t : Tm) (z a b e : Int) (ho : o.length ≤ maxLen) (hc : c.length ≤ maxLen) (hB : B ≤ w.heap.size) (hS : SL w B A o) (hS' : SL w B A' c) : Calls Try.prog 20 #[.agg #[.slice A o.length n, .slice A' c.length n'], .agg #[.int .i64 t.keep, .int .i64 t.free, .int .i64 t.step, .int .i64 t.rate, .int .i64 t.cap, .int .i64 t.longer, .int .i64 t.price, .int .i64 t.most], .int .i64 z, .int .i64 a, .int .i64 b, .int .i64 e] w fun r w' => r = .returned (.int .i64 (feeB o c t z a b e)) ∧ Below w.heap.size w w' := by
  have HS := Lib.hid hS; clear hS
  have HS' := Lib.hid hS'; clear hS'
  cases h0 : weekB o c
  · have H0 := Lib.hid h0; clear h0
    go_enter Try.func20, Try.ntmps20
    go_wp2_with fail
    generalize hX : (w.alloc (.cells #[.slice A o.length n, .slice A' c.length n'] 26)) = w1
    have hb : Below w.heap.size w w1 := by rw [← hX]; exact balloc _ _
    have hk : Has w1 w.heap.size 26 #[.slice A o.length n, .slice A' c.length n'] := by rw [← hX]; exact has_new _ _ _
    have hzw1 : w1.heap.size = w.heap.size + 1 := by rw [← hX]; simp
    clear hX
    have zb := hb; clear hb
    have wa := hk; clear hk
    generalize hX : (w1.alloc (.cells #[.int .i64 t.keep, .int .i64 t.free, .int .i64 t.step, .int .i64 t.rate, .int .i64 t.cap, .int .i64 t.longer, .int .i64 t.price, .int .i64 t.most] 35)) = w2
    have hb : Below w1.heap.size w1 w2 := by rw [← hX]; exact balloc _ _
    have hk : Has w2 w1.heap.size 35 #[.int .i64 t.keep, .int .i64 t.free, .int .i64 t.step, .int .i64 t.rate, .int .i64 t.cap, .int .i64 t.longer, .int .i64 t.price, .int .i64 t.most] := by rw [← hX]; exact has_new _ _ _
    have hzw2 : w2.heap.size = w.heap.size + 2 := by rw [← hX]; simp [hzw1]
    clear hX
    rw [hzw1] at hk
    replace wa := has_call wa hb
    replace zb := bthen zb hb; clear hb
    have ta := hk; clear hk
    clear hzw1 hzw2
    have wac0 := has_cell wa 0 rfl; have wac1 := has_cell wa 1 rfl
    have walt := has_lt wa
    have tac0 := has_cell ta 0 rfl; have tac1 := has_cell ta 1 rfl; have tac2 := has_cell ta 2 rfl; have tac3 := has_cell ta 3 rfl; have tac4 := has_cell ta 4 rfl; have tac5 := has_cell ta 5 rfl; have tac6 := has_cell ta 6 rfl; have tac7 := has_cell ta 7 rfl
    have talt := has_lt ta
    have WAH := Lib.hid wa; clear wa
    have TAH := Lib.hid ta; clear ta
    have ZB := Lib.hid zb; clear zb
    go_wp2_with fail
    clear wac0 wac1 walt tac0 tac1 tac2 tac3 tac4 tac5 tac6 tac7 talt
    have wa := WAH.out; clear WAH
    have ta := TAH.out; clear TAH
    have zb := ZB.out; clear ZB
    refine (weekS_any _ B A A' n n' o c ho hc (by have := zb.size; omega) (HS.out.later hB zb) (HS'.out.later hB zb)).mono ?_
    rintro e w3 ⟨rfl, hb⟩
    rw [H0.out]
    replace wa := has_call wa hb
    replace ta := has_call ta hb
    replace zb := bthen zb hb; clear hb
    have wac0 := has_cell wa 0 rfl; have wac1 := has_cell wa 1 rfl
    have walt := has_lt wa
    have tac0 := has_cell ta 0 rfl; have tac1 := has_cell ta 1 rfl; have tac2 := has_cell ta 2 rfl; have tac3 := has_cell ta 3 rfl; have tac4 := has_cell ta 4 rfl; have tac5 := has_cell ta 5 rfl; have tac6 := has_cell ta 6 rfl; have tac7 := has_cell ta 7 rfl
    have talt := has_lt ta
    have WAH := Lib.hid wa; clear wa
    have TAH := Lib.hid ta; clear ta
    have ZB := Lib.hid zb; clear zb
    go_wp2_with fail
    clear wac0 wac1 walt tac0 tac1 tac2 tac3 tac4 tac5 tac6 tac7 talt
    have wa := WAH.out; clear WAH
    have ta := TAH.out; clear TAH
    have zb := ZB.out; clear ZB
    go_ret
    exact ⟨fint (by rw [feeB, if_neg (fun hx => by have := H0.out; rw [hx.1] at this; cases this)]), zb⟩
  have H0 := Lib.hid h0; clear h0
  cases h1 : termsB t
  · have H1 := Lib.hid h1; clear h1
    go_enter Try.func20, Try.ntmps20
    go_wp2_with fail
    generalize hX : (w.alloc (.cells #[.slice A o.length n, .slice A' c.length n'] 26)) = w1
    have hb : Below w.heap.size w w1 := by rw [← hX]; exact balloc _ _
    have hk : Has w1 w.heap.size 26 #[.slice A o.length n, .slice A' c.length n'] := by rw [← hX]; exact has_new _ _ _
    have hzw1 : w1.heap.size = w.heap.size + 1 := by rw [← hX]; simp
    clear hX
    have zb := hb; clear hb
    have wa := hk; clear hk
    generalize hX : (w1.alloc (.cells #[.int .i64 t.keep, .int .i64 t.free, .int .i64 t.step, .int .i64 t.rate, .int .i64 t.cap, .int .i64 t.longer, .int .i64 t.price, .int .i64 t.most] 35)) = w2
    have hb : Below w1.heap.size w1 w2 := by rw [← hX]; exact balloc _ _
    have hk : Has w2 w1.heap.size 35 #[.int .i64 t.keep, .int .i64 t.free, .int .i64 t.step, .int .i64 t.rate, .int .i64 t.cap, .int .i64 t.longer, .int .i64 t.price, .int .i64 t.most] := by rw [← hX]; exact has_new _ _ _
    have hzw2 : w2.heap.size = w.heap.size + 2 := by rw [← hX]; simp [hzw1]
    clear hX
    rw [hzw1] at hk
    replace wa := has_call wa hb
    replace zb := bthen zb hb; clear hb
    have ta := hk; clear hk
    clear hzw1 hzw2
    have wac0 := has_cell wa 0 rfl; have wac1 := has_cell wa 1 rfl
    have walt := has_lt wa
    have tac0 := has_cell ta 0 rfl; have tac1 := has_cell ta 1 rfl; have tac2 := has_cell ta 2 rfl; have tac3 := has_cell ta 3 rfl; have tac4 := has_cell ta 4 rfl; have tac5 := has_cell ta 5 rfl; have tac6 := has_cell ta 6 rfl; have tac7 := has_cell ta 7 rfl
    have talt := has_lt ta
    have WAH := Lib.hid wa; clear wa
    have TAH := Lib.hid ta; clear ta
    have ZB := Lib.hid zb; clear zb
    go_wp2_with fail
    clear wac0 wac1 walt tac0 tac1 tac2 tac3 tac4 tac5 tac6 tac7 talt
    have wa := WAH.out; clear WAH
    have ta := TAH.out; clear TAH
    have zb := ZB.out; clear ZB
    refine (weekS_any _ B A A' n n' o c ho hc (by have := zb.size; omega) (HS.out.later hB zb) (HS'.out.later hB zb)).mono ?_
    rintro e w3 ⟨rfl, hb⟩
    rw [H0.out]
    replace wa := has_call wa hb
    replace ta := has_call ta hb
    replace zb := bthen zb hb; clear hb
    have wac0 := has_cell wa 0 rfl; have wac1 := has_cell wa 1 rfl
    have walt := has_lt wa
    have tac0 := has_cell ta 0 rfl; have tac1 := has_cell ta 1 rfl; have tac2 := has_cell ta 2 rfl; have tac3 := has_cell ta 3 rfl; have tac4 := has_cell ta 4 rfl; have tac5 := has_cell ta 5 rfl; have tac6 := has_cell ta 6 rfl; have tac7 := has_cell ta 7 rfl
    have talt := has_lt ta
    have WAH := Lib.hid wa; clear wa
    have TAH := Lib.hid ta; clear ta
    have ZB := Lib.hid zb; clear zb
    go_wp2_with fail
    clear wac0 wac1 walt tac0 tac1 tac2 tac3 tac4 tac5 tac6 tac7 talt
    have wa := WAH.out; clear WAH
    have ta := TAH.out; clear TAH
    have zb := ZB.out; clear ZB
    refine (termsS_any _ t).mono ?_
    rintro e w4 ⟨rfl, hb⟩
    rw [H1.out]
    replace wa := has_call wa hb
    replace ta := has_call ta hb
    replace zb := bthen zb hb; clear hb
    have wac0 := has_cell wa 0 rfl; have wac1 := has_cell wa 1 rfl
    have walt := has_lt wa
    have tac0 := has_cell ta 0 rfl; have tac1 := has_cell ta 1 rfl; have tac2 := has_cell ta 2 rfl; have tac3 := has_cell ta 3 rfl; have tac4 := has_cell ta 4 rfl; have tac5 := has_cell ta 5 rfl; have tac6 := has_cell ta 6 rfl; have tac7 := has_cell ta 7 rfl
    have talt := has_lt ta
    have WAH := Lib.hid wa; clear wa
    have TAH := Lib.hid ta; clear ta
    have ZB := Lib.hid zb; clear zb
    go_wp2_with fail
    clear wac0 wac1 walt tac0 tac1 tac2 tac3 tac4 tac5 tac6 tac7 talt
    have wa := WAH.out; clear WAH
    have ta := TAH.out; clear TAH
    have zb := ZB.out; clear ZB
    go_ret
    exact ⟨fint (by rw [feeB, if_neg (fun hx => by have := H1.out; rw [hx.2.1] at this; cases this)]), zb⟩
  have H1 := Lib.hid h1; clear h1
  cases h2 : inB z 1 24
  · have H2 := Lib.hid h2; clear h2
    go_enter Try.func20, Try.ntmps20
    go_wp2_with fail
    generalize hX : (w.alloc (.cells #[.slice A o.length n, .slice A' c.length n'] 26)) = w1
    have hb : Below w.heap.size w w1 := by rw [← hX]; exact balloc _ _
    have hk : Has w1 w.heap.size 26 #[.slice A o.length n, .slice A' c.length n'] := by rw [← hX]; exact has_new _ _ _
    have hzw1 : w1.heap.size = w.heap.size + 1 := by rw [← hX]; simp
    clear hX
    have zb := hb; clear hb
    have wa := hk; clear hk
    generalize hX : (w1.alloc (.cells #[.int .i64 t.keep, .int .i64 t.free, .int .i64 t.step, .int .i64 t.rate, .int .i64 t.cap, .int .i64 t.longer, .int .i64 t.price, .int .i64 t.most] 35)) = w2
    have hb : Below w1.heap.size w1 w2 := by rw [← hX]; exact balloc _ _
    have hk : Has w2 w1.heap.size 35 #[.int .i64 t.keep, .int .i64 t.free, .int .i64 t.step, .int .i64 t.rate, .int .i64 t.cap, .int .i64 t.longer, .int .i64 t.price, .int .i64 t.most] := by rw [← hX]; exact has_new _ _ _
    have hzw2 : w2.heap.size = w.heap.size + 2 := by rw [← hX]; simp [hzw1]
    clear hX
    rw [hzw1] at hk
    replace wa := has_call wa hb
    replace zb := bthen zb hb; clear hb
    have ta := hk; clear hk
    clear hzw1 hzw2
    have wac0 := has_cell wa 0 rfl; have wac1 := has_cell wa 1 rfl
    have walt := has_lt wa
    have tac0 := has_cell ta 0 rfl; have tac1 := has_cell ta 1 rfl; have tac2 := has_cell ta 2 rfl; have tac3 := has_cell ta 3 rfl; have tac4 := has_cell ta 4 rfl; have tac5 := has_cell ta 5 rfl; have tac6 := has_cell ta 6 rfl; have tac7 := has_cell ta 7 rfl
    have talt := has_lt ta
    have WAH := Lib.hid wa; clear wa
    have TAH := Lib.hid ta; clear ta
    have ZB := Lib.hid zb; clear zb
    go_wp2_with fail
    clear wac0 wac1 walt tac0 tac1 tac2 tac3 tac4 tac5 tac6 tac7 talt
    have wa := WAH.out; clear WAH
    have ta := TAH.out; clear TAH
    have zb := ZB.out; clear ZB
    refine (weekS_any _ B A A' n n' o c ho hc (by have := zb.size; omega) (HS.out.later hB zb) (HS'.out.later hB zb)).mono ?_
    rintro e w3 ⟨rfl, hb⟩
    rw [H0.out]
    replace wa := has_call wa hb
    replace ta := has_call ta hb
    replace zb := bthen zb hb; clear hb
    have wac0 := has_cell wa 0 rfl; have wac1 := has_cell wa 1 rfl
    have walt := has_lt wa
    have tac0 := has_cell ta 0 rfl; have tac1 := has_cell ta 1 rfl; have tac2 := has_cell ta 2 rfl; have tac3 := has_cell ta 3 rfl; have tac4 := has_cell ta 4 rfl; have tac5 := has_cell ta 5 rfl; have tac6 := has_cell ta 6 rfl; have tac7 := has_cell ta 7 rfl
    have talt := has_lt ta
    have WAH := Lib.hid wa; clear wa
    have TAH := Lib.hid ta; clear ta
    have ZB := Lib.hid zb; clear zb
    go_wp2_with fail
    clear wac0 wac1 walt tac0 tac1 tac2 tac3 tac4 tac5 tac6 tac7 talt
    have wa := WAH.out; clear WAH
    have ta := TAH.out; clear TAH
    have zb := ZB.out; clear ZB
    refine (termsS_any _ t).mono ?_
    rintro e w4 ⟨rfl, hb⟩
    rw [H1.out]
    replace wa := has_call wa hb
    replace ta := has_call ta hb
    replace zb := bthen zb hb; clear hb
    have wac0 := has_cell wa 0 rfl; have wac1 := has_cell wa 1 rfl
    have walt := has_lt wa
    have tac0 := has_cell ta 0 rfl; have tac1 := has_cell ta 1 rfl; have tac2 := has_cell ta 2 rfl; have tac3 := has_cell ta 3 rfl; have tac4 := has_cell ta 4 rfl; have tac5 := has_cell ta 5 rfl; have tac6 := has_cell ta 6 rfl; have tac7 := has_cell ta 7 rfl
    have talt := has_lt ta
    have WAH := Lib.hid wa; clear wa
    have TAH := Lib.hid ta; clear ta
    have ZB := Lib.hid zb; clear zb
    go_wp2_with fail
    clear wac0 wac1 walt tac0 tac1 tac2 tac3 tac4 tac5 tac6 tac7 talt
    have wa := WAH.out; clear WAH
    have ta := TAH.out; clear TAH
    have zb := ZB.out; clear ZB
    refine (in_any _ z 1 24).mono ?_
    rintro e w5 ⟨rfl, hw⟩
    rw [hw]; clear hw w5
    rw [H2.out]
    have wac0 := has_cell wa 0 rfl; have wac1 := has_cell wa 1 rfl
    have walt := has_lt wa
    have tac0 := has_cell ta 0 rfl; have tac1 := has_cell ta 1 rfl; have tac2 := has_cell ta 2 rfl; have tac3 := has_cell ta 3 rfl; have tac4 := has_cell ta 4 rfl; have tac5 := has_cell ta 5 rfl; have tac6 := has_cell ta 6 rfl; have tac7 := has_cell ta 7 rfl
    have talt := has_lt ta
    have WAH := Lib.hid wa; clear wa
    have TAH := Lib.hid ta; clear ta
    have ZB := Lib.hid zb; clear zb
    go_wp2_with fail
    clear wac0 wac1 walt tac0 tac1 tac2 tac3 tac4 tac5 tac6 tac7 talt
    have wa := WAH.out; clear WAH
    have ta := TAH.out; clear TAH
    have zb := ZB.out; clear ZB
    go_ret
    exact ⟨fint (by rw [feeB, if_neg (fun hx => by have := H2.out; rw [(in_iff z 1 24).2 hx.2.2.1] at this; cases this)]), zb⟩
  have H2 := Lib.hid h2; clear h2
  cases h3 : inB b 0 20000
  · have H3 := Lib.hid h3; clear h3
    go_enter Try.func20, Try.ntmps20
    go_wp2_with fail
    generalize hX : (w.alloc (.cells #[.slice A o.length n, .slice A' c.length n'] 26)) = w1
    have hb : Below w.heap.size w w1 := by rw [← hX]; exact balloc _ _
    have hk : Has w1 w.heap.size 26 #[.slice A o.length n, .slice A' c.length n'] := by rw [← hX]; exact has_new _ _ _
    have hzw1 : w1.heap.size = w.heap.size + 1 := by rw [← hX]; simp
    clear hX
    have zb := hb; clear hb
    have wa := hk; clear hk
    generalize hX : (w1.alloc (.cells #[.int .i64 t.keep, .int .i64 t.free, .int .i64 t.step, .int .i64 t.rate, .int .i64 t.cap, .int .i64 t.longer, .int .i64 t.price, .int .i64 t.most] 35)) = w2
    have hb : Below w1.heap.size w1 w2 := by rw [← hX]; exact balloc _ _
    have hk : Has w2 w1.heap.size 35 #[.int .i64 t.keep, .int .i64 t.free, .int .i64 t.step, .int .i64 t.rate, .int .i64 t.cap, .int .i64 t.longer, .int .i64 t.price, .int .i64 t.most] := by rw [← hX]; exact has_new _ _ _
    have hzw2 : w2.heap.size = w.heap.size + 2 := by rw [← hX]; simp [hzw1]
    clear hX
    rw [hzw1] at hk
    replace wa := has_call wa hb
    replace zb := bthen zb hb; clear hb
    have ta := hk; clear hk
    clear hzw1 hzw2
    have wac0 := has_cell wa 0 rfl; have wac1 := has_cell wa 1 rfl
    have walt := has_lt wa
    have tac0 := has_cell ta 0 rfl; have tac1 := has_cell ta 1 rfl; have tac2 := has_cell ta 2 rfl; have tac3 := has_cell ta 3 rfl; have tac4 := has_cell ta 4 rfl; have tac5 := has_cell ta 5 rfl; have tac6 := has_cell ta 6 rfl; have tac7 := has_cell ta 7 rfl
    have talt := has_lt ta
    have WAH := Lib.hid wa; clear wa
    have TAH := Lib.hid ta; clear ta
    have ZB := Lib.hid zb; clear zb
    go_wp2_with fail
    clear wac0 wac1 walt tac0 tac1 tac2 tac3 tac4 tac5 tac6 tac7 talt
    have wa := WAH.out; clear WAH
    have ta := TAH.out; clear TAH
    have zb := ZB.out; clear ZB
    refine (weekS_any _ B A A' n n' o c ho hc (by have := zb.size; omega) (HS.out.later hB zb) (HS'.out.later hB zb)).mono ?_
    rintro e w3 ⟨rfl, hb⟩
    rw [H0.out]
    replace wa := has_call wa hb
    replace ta := has_call ta hb
    replace zb := bthen zb hb; clear hb
    have wac0 := has_cell wa 0 rfl; have wac1 := has_cell wa 1 rfl
    have walt := has_lt wa
    have tac0 := has_cell ta 0 rfl; have tac1 := has_cell ta 1 rfl; have tac2 := has_cell ta 2 rfl; have tac3 := has_cell ta 3 rfl; have tac4 := has_cell ta 4 rfl; have tac5 := has_cell ta 5 rfl; have tac6 := has_cell ta 6 rfl; have tac7 := has_cell ta 7 rfl
    have talt := has_lt ta
    have WAH := Lib.hid wa; clear wa
    have TAH := Lib.hid ta; clear ta
    have ZB := Lib.hid zb; clear zb
    go_wp2_with fail
    clear wac0 wac1 walt tac0 tac1 tac2 tac3 tac4 tac5 tac6 tac7 talt
    have wa := WAH.out; clear WAH
    have ta := TAH.out; clear TAH
    have zb := ZB.out; clear ZB
    refine (termsS_any _ t).mono ?_
    rintro e w4 ⟨rfl, hb⟩
    rw [H1.out]
    replace wa := has_call wa hb
    replace ta := has_call ta hb
    replace zb := bthen zb hb; clear hb
    have wac0 := has_cell wa 0 rfl; have wac1 := has_cell wa 1 rfl
    have walt := has_lt wa
    have tac0 := has_cell ta 0 rfl; have tac1 := has_cell ta 1 rfl; have tac2 := has_cell ta 2 rfl; have tac3 := has_cell ta 3 rfl; have tac4 := has_cell ta 4 rfl; have tac5 := has_cell ta 5 rfl; have tac6 := has_cell ta 6 rfl; have tac7 := has_cell ta 7 rfl
    have talt := has_lt ta
    have WAH := Lib.hid wa; clear wa
    have TAH := Lib.hid ta; clear ta
    have ZB := Lib.hid zb; clear zb
    go_wp2_with fail
    clear wac0 wac1 walt tac0 tac1 tac2 tac3 tac4 tac5 tac6 tac7 talt
    have wa := WAH.out; clear WAH
    have ta := TAH.out; clear TAH
    have zb := ZB.out; clear ZB
    refine (in_any _ z 1 24).mono ?_
    rintro e w5 ⟨rfl, hw⟩
    rw [hw]; clear hw w5
    rw [H2.out]
    have wac0 := has_cell wa 0 rfl; have wac1 := has_cell wa 1 rfl
    have walt := has_lt wa
    have tac0 := has_cell ta 0 rfl; have tac1 := has_cell ta 1 rfl; have tac2 := has_cell ta 2 rfl; have tac3 := has_cell ta 3 rfl; have tac4 := has_cell ta 4 rfl; have tac5 := has_cell ta 5 rfl; have tac6 := has_cell ta 6 rfl; have tac7 := has_cell ta 7 rfl
    have talt := has_lt ta
    have WAH := Lib.hid wa; clear wa
    have TAH := Lib.hid ta; clear ta
    have ZB := Lib.hid zb; clear zb
    go_wp2_with fail
    clear wac0 wac1 walt tac0 tac1 tac2 tac3 tac4 tac5 tac6 tac7 talt
    have wa := WAH.out; clear WAH
    have ta := TAH.out; clear TAH
    have zb := ZB.out; clear ZB
    refine (in_any _ b 0 20000).mono ?_
    rintro e w6 ⟨rfl, hw⟩
    rw [hw]; clear hw w6
    rw [H3.out]
    have wac0 := has_cell wa 0 rfl; have wac1 := has_cell wa 1 rfl
    have walt := has_lt wa
    have tac0 := has_cell ta 0 rfl; have tac1 := has_cell ta 1 rfl; have tac2 := has_cell ta 2 rfl; have tac3 := has_cell ta 3 rfl; have tac4 := has_cell ta 4 rfl; have tac5 := has_cell ta 5 rfl; have tac6 := has_cell ta 6 rfl; have tac7 := has_cell ta 7 rfl
    have talt := has_lt ta
    have WAH := Lib.hid wa; clear wa
    have TAH := Lib.hid ta; clear ta
    have ZB := Lib.hid zb; clear zb
    go_wp2_with fail
    clear wac0 wac1 walt tac0 tac1 tac2 tac3 tac4 tac5 tac6 tac7 talt
    have wa := WAH.out; clear WAH
    have ta := TAH.out; clear TAH
    have zb := ZB.out; clear ZB
    go_ret
    exact ⟨fint (by rw [feeB, if_neg (fun hx => by have := H3.out; rw [(in_iff b 0 20000).2 ((time_iff b).1 hx.2.2.2.2.1)] at this; cases this)]), zb⟩
  have H3 := Lib.hid h3; clear h3
  cases h4 : inB a 0 b
  · have H4 := Lib.hid h4; clear h4
    go_enter Try.func20, Try.ntmps20
    go_wp2_with fail
    generalize hX : (w.alloc (.cells #[.slice A o.length n, .slice A' c.length n'] 26)) = w1
    have hb : Below w.heap.size w w1 := by rw [← hX]; exact balloc _ _
    have hk : Has w1 w.heap.size 26 #[.slice A o.length n, .slice A' c.length n'] := by rw [← hX]; exact has_new _ _ _
    have hzw1 : w1.heap.size = w.heap.size + 1 := by rw [← hX]; simp
    clear hX
    have zb := hb; clear hb
    have wa := hk; clear hk
    generalize hX : (w1.alloc (.cells #[.int .i64 t.keep, .int .i64 t.free, .int .i64 t.step, .int .i64 t.rate, .int .i64 t.cap, .int .i64 t.longer, .int .i64 t.price, .int .i64 t.most] 35)) = w2
    have hb : Below w1.heap.size w1 w2 := by rw [← hX]; exact balloc _ _
    have hk : Has w2 w1.heap.size 35 #[.int .i64 t.keep, .int .i64 t.free, .int .i64 t.step, .int .i64 t.rate, .int .i64 t.cap, .int .i64 t.longer, .int .i64 t.price, .int .i64 t.most] := by rw [← hX]; exact has_new _ _ _
    have hzw2 : w2.heap.size = w.heap.size + 2 := by rw [← hX]; simp [hzw1]
    clear hX
    rw [hzw1] at hk
    replace wa := has_call wa hb
    replace zb := bthen zb hb; clear hb
    have ta := hk; clear hk
    clear hzw1 hzw2
    have wac0 := has_cell wa 0 rfl; have wac1 := has_cell wa 1 rfl
    have walt := has_lt wa
    have tac0 := has_cell ta 0 rfl; have tac1 := has_cell ta 1 rfl; have tac2 := has_cell ta 2 rfl; have tac3 := has_cell ta 3 rfl; have tac4 := has_cell ta 4 rfl; have tac5 := has_cell ta 5 rfl; have tac6 := has_cell ta 6 rfl; have tac7 := has_cell ta 7 rfl
    have talt := has_lt ta
    have WAH := Lib.hid wa; clear wa
    have TAH := Lib.hid ta; clear ta
    have ZB := Lib.hid zb; clear zb
    go_wp2_with fail
    clear wac0 wac1 walt tac0 tac1 tac2 tac3 tac4 tac5 tac6 tac7 talt
    have wa := WAH.out; clear WAH
    have ta := TAH.out; clear TAH
    have zb := ZB.out; clear ZB
    refine (weekS_any _ B A A' n n' o c ho hc (by have := zb.size; omega) (HS.out.later hB zb) (HS'.out.later hB zb)).mono ?_
    rintro e w3 ⟨rfl, hb⟩
    rw [H0.out]
    replace wa := has_call wa hb
    replace ta := has_call ta hb
    replace zb := bthen zb hb; clear hb
    have wac0 := has_cell wa 0 rfl; have wac1 := has_cell wa 1 rfl
    have walt := has_lt wa
    have tac0 := has_cell ta 0 rfl; have tac1 := has_cell ta 1 rfl; have tac2 := has_cell ta 2 rfl; have tac3 := has_cell ta 3 rfl; have tac4 := has_cell ta 4 rfl; have tac5 := has_cell ta 5 rfl; have tac6 := has_cell ta 6 rfl; have tac7 := has_cell ta 7 rfl
    have talt := has_lt ta
    have WAH := Lib.hid wa; clear wa
    have TAH := Lib.hid ta; clear ta
    have ZB := Lib.hid zb; clear zb
    go_wp2_with fail
    clear wac0 wac1 walt tac0 tac1 tac2 tac3 tac4 tac5 tac6 tac7 talt
    have wa := WAH.out; clear WAH
    have ta := TAH.out; clear TAH
    have zb := ZB.out; clear ZB
    refine (termsS_any _ t).mono ?_
    rintro e w4 ⟨rfl, hb⟩
    rw [H1.out]
    replace wa := has_call wa hb
    replace ta := has_call ta hb
    replace zb := bthen zb hb; clear hb
    have wac0 := has_cell wa 0 rfl; have wac1 := has_cell wa 1 rfl
    have walt := has_lt wa
    have tac0 := has_cell ta 0 rfl; have tac1 := has_cell ta 1 rfl; have tac2 := has_cell ta 2 rfl; have tac3 := has_cell ta 3 rfl; have tac4 := has_cell ta 4 rfl; have tac5 := has_cell ta 5 rfl; have tac6 := has_cell ta 6 rfl; have tac7 := has_cell ta 7 rfl
    have talt := has_lt ta
    have WAH := Lib.hid wa; clear wa
    have TAH := Lib.hid ta; clear ta
    have ZB := Lib.hid zb; clear zb
    go_wp2_with fail
    clear wac0 wac1 walt tac0 tac1 tac2 tac3 tac4 tac5 tac6 tac7 talt
    have wa := WAH.out; clear WAH
    have ta := TAH.out; clear TAH
    have zb := ZB.out; clear ZB
    refine (in_any _ z 1 24).mono ?_
    rintro e w5 ⟨rfl, hw⟩
    rw [hw]; clear hw w5
    rw [H2.out]
    have wac0 := has_cell wa 0 rfl; have wac1 := has_cell wa 1 rfl
    have walt := has_lt wa
    have tac0 := has_cell ta 0 rfl; have tac1 := has_cell ta 1 rfl; have tac2 := has_cell ta 2 rfl; have tac3 := has_cell ta 3 rfl; have tac4 := has_cell ta 4 rfl; have tac5 := has_cell ta 5 rfl; have tac6 := has_cell ta 6 rfl; have tac7 := has_cell ta 7 rfl
    have talt := has_lt ta
    have WAH := Lib.hid wa; clear wa
    have TAH := Lib.hid ta; clear ta
    have ZB := Lib.hid zb; clear zb
    go_wp2_with fail
    clear wac0 wac1 walt tac0 tac1 tac2 tac3 tac4 tac5 tac6 tac7 talt
    have wa := WAH.out; clear WAH
    have ta := TAH.out; clear TAH
    have zb := ZB.out; clear ZB
    refine (in_any _ b 0 20000).mono ?_
    rintro e w6 ⟨rfl, hw⟩
    rw [hw]; clear hw w6
    rw [H3.out]
    have wac0 := has_cell wa 0 rfl; have wac1 := has_cell wa 1 rfl
    have walt := has_lt wa
    have tac0 := has_cell ta 0 rfl; have tac1 := has_cell ta 1 rfl; have tac2 := has_cell ta 2 rfl; have tac3 := has_cell ta 3 rfl; have tac4 := has_cell ta 4 rfl; have tac5 := has_cell ta 5 rfl; have tac6 := has_cell ta 6 rfl; have tac7 := has_cell ta 7 rfl
    have talt := has_lt ta
    have WAH := Lib.hid wa; clear wa
    have TAH := Lib.hid ta; clear ta
    have ZB := Lib.hid zb; clear zb
    go_wp2_with fail
    clear wac0 wac1 walt tac0 tac1 tac2 tac3 tac4 tac5 tac6 tac7 talt
    have wa := WAH.out; clear WAH
    have ta := TAH.out; clear TAH
    have zb := ZB.out; clear ZB
    refine (in_any _ a 0 b).mono ?_
    rintro e w7 ⟨rfl, hw⟩
    rw [hw]; clear hw w7
    rw [H4.out]
    have wac0 := has_cell wa 0 rfl; have wac1 := has_cell wa 1 rfl
    have walt := has_lt wa
    have tac0 := has_cell ta 0 rfl; have tac1 := has_cell ta 1 rfl; have tac2 := has_cell ta 2 rfl; have tac3 := has_cell ta 3 rfl; have tac4 := has_cell ta 4 rfl; have tac5 := has_cell ta 5 rfl; have tac6 := has_cell ta 6 rfl; have tac7 := has_cell ta 7 rfl
    have talt := has_lt ta
    have WAH := Lib.hid wa; clear wa
    have TAH := Lib.hid ta; clear ta
    have ZB := Lib.hid zb; clear zb
    go_wp2_with fail
    clear wac0 wac1 walt tac0 tac1 tac2 tac3 tac4 tac5 tac6 tac7 talt
    have wa := WAH.out; clear WAH
    have ta := TAH.out; clear TAH
    have zb := ZB.out; clear ZB
    go_ret
    exact ⟨fint (by rw [feeB, if_neg (fun hx => by have := H4.out; rw [(in_iff a 0 b).2 ⟨((time_iff a).1 hx.2.2.2.1).1, hx.2.2.2.2.2.1⟩] at this; cases this)]), zb⟩
  have H4 := Lib.hid h4; clear h4
  cases h5 : inB e 0 t.most
  · have H5 := Lib.hid h5; clear h5
    go_enter Try.func20, Try.ntmps20
    go_wp2_with fail
    generalize hX : (w.alloc (.cells #[.slice A o.length n, .slice A' c.length n'] 26)) = w1
    have hb : Below w.heap.size w w1 := by rw [← hX]; exact balloc _ _
    have hk : Has w1 w.heap.size 26 #[.slice A o.length n, .slice A' c.length n'] := by rw [← hX]; exact has_new _ _ _
    have hzw1 : w1.heap.size = w.heap.size + 1 := by rw [← hX]; simp
    clear hX
    have zb := hb; clear hb
    have wa := hk; clear hk
    generalize hX : (w1.alloc (.cells #[.int .i64 t.keep, .int .i64 t.free, .int .i64 t.step, .int .i64 t.rate, .int .i64 t.cap, .int .i64 t.longer, .int .i64 t.price, .int .i64 t.most] 35)) = w2
    have hb : Below w1.heap.size w1 w2 := by rw [← hX]; exact balloc _ _
    have hk : Has w2 w1.heap.size 35 #[.int .i64 t.keep, .int .i64 t.free, .int .i64 t.step, .int .i64 t.rate, .int .i64 t.cap, .int .i64 t.longer, .int .i64 t.price, .int .i64 t.most] := by rw [← hX]; exact has_new _ _ _
    have hzw2 : w2.heap.size = w.heap.size + 2 := by rw [← hX]; simp [hzw1]
    clear hX
    rw [hzw1] at hk
    replace wa := has_call wa hb
    replace zb := bthen zb hb; clear hb
    have ta := hk; clear hk
    clear hzw1 hzw2
    have wac0 := has_cell wa 0 rfl; have wac1 := has_cell wa 1 rfl
    have walt := has_lt wa
    have tac0 := has_cell ta 0 rfl; have tac1 := has_cell ta 1 rfl; have tac2 := has_cell ta 2 rfl; have tac3 := has_cell ta 3 rfl; have tac4 := has_cell ta 4 rfl; have tac5 := has_cell ta 5 rfl; have tac6 := has_cell ta 6 rfl; have tac7 := has_cell ta 7 rfl
    have talt := has_lt ta
    have WAH := Lib.hid wa; clear wa
    have TAH := Lib.hid ta; clear ta
    have ZB := Lib.hid zb; clear zb
    go_wp2_with fail
    clear wac0 wac1 walt tac0 tac1 tac2 tac3 tac4 tac5 tac6 tac7 talt
    have wa := WAH.out; clear WAH
    have ta := TAH.out; clear TAH
    have zb := ZB.out; clear ZB
    refine (weekS_any _ B A A' n n' o c ho hc (by have := zb.size; omega) (HS.out.later hB zb) (HS'.out.later hB zb)).mono ?_
    rintro e w3 ⟨rfl, hb⟩
    rw [H0.out]
    replace wa := has_call wa hb
    replace ta := has_call ta hb
    replace zb := bthen zb hb; clear hb
    have wac0 := has_cell wa 0 rfl; have wac1 := has_cell wa 1 rfl
    have walt := has_lt wa
    have tac0 := has_cell ta 0 rfl; have tac1 := has_cell ta 1 rfl; have tac2 := has_cell ta 2 rfl; have tac3 := has_cell ta 3 rfl; have tac4 := has_cell ta 4 rfl; have tac5 := has_cell ta 5 rfl; have tac6 := has_cell ta 6 rfl; have tac7 := has_cell ta 7 rfl
    have talt := has_lt ta
    have WAH := Lib.hid wa; clear wa
    have TAH := Lib.hid ta; clear ta
    have ZB := Lib.hid zb; clear zb
    go_wp2_with fail
    clear wac0 wac1 walt tac0 tac1 tac2 tac3 tac4 tac5 tac6 tac7 talt
    have wa := WAH.out; clear WAH
    have ta := TAH.out; clear TAH
    have zb := ZB.out; clear ZB
    refine (termsS_any _ t).mono ?_
    rintro e w4 ⟨rfl, hb⟩
    rw [H1.out]
    replace wa := has_call wa hb
    replace ta := has_call ta hb
    replace zb := bthen zb hb; clear hb
    have wac0 := has_cell wa 0 rfl; have wac1 := has_cell wa 1 rfl
    have walt := has_lt wa
    have tac0 := has_cell ta 0 rfl; have tac1 := has_cell ta 1 rfl; have tac2 := has_cell ta 2 rfl; have tac3 := has_cell ta 3 rfl; have tac4 := has_cell ta 4 rfl; have tac5 := has_cell ta 5 rfl; have tac6 := has_cell ta 6 rfl; have tac7 := has_cell ta 7 rfl
    have talt := has_lt ta
    have WAH := Lib.hid wa; clear wa
    have TAH := Lib.hid ta; clear ta
    have ZB := Lib.hid zb; clear zb
    go_wp2_with fail
    clear wac0 wac1 walt tac0 tac1 tac2 tac3 tac4 tac5 tac6 tac7 talt
    have wa := WAH.out; clear WAH
    have ta := TAH.out; clear TAH
    have zb := ZB.out; clear ZB
    refine (in_any _ z 1 24).mono ?_
    rintro e w5 ⟨rfl, hw⟩
    rw [hw]; clear hw w5
    rw [H2.out]
    have wac0 := has_cell wa 0 rfl; have wac1 := has_cell wa 1 rfl
    have walt := has_lt wa
    have tac0 := has_cell ta 0 rfl; have tac1 := has_cell ta 1 rfl; have tac2 := has_cell ta 2 rfl; have tac3 := has_cell ta 3 rfl; have tac4 := has_cell ta 4 rfl; have tac5 := has_cell ta 5 rfl; have tac6 := has_cell ta 6 rfl; have tac7 := has_cell ta 7 rfl
    have talt := has_lt ta
    have WAH := Lib.hid wa; clear wa
    have TAH := Lib.hid ta; clear ta
    have ZB := Lib.hid zb; clear zb
    go_wp2_with fail
    clear wac0 wac1 walt tac0 tac1 tac2 tac3 tac4 tac5 tac6 tac7 talt
    have wa := WAH.out; clear WAH
    have ta := TAH.out; clear TAH
    have zb := ZB.out; clear ZB
    refine (in_any _ b 0 20000).mono ?_
    rintro e w6 ⟨rfl, hw⟩
    rw [hw]; clear hw w6
    rw [H3.out]
    have wac0 := has_cell wa 0 rfl; have wac1 := has_cell wa 1 rfl
    have walt := has_lt wa
    have tac0 := has_cell ta 0 rfl; have tac1 := has_cell ta 1 rfl; have tac2 := has_cell ta 2 rfl; have tac3 := has_cell ta 3 rfl; have tac4 := has_cell ta 4 rfl; have tac5 := has_cell ta 5 rfl; have tac6 := has_cell ta 6 rfl; have tac7 := has_cell ta 7 rfl
    have talt := has_lt ta
    have WAH := Lib.hid wa; clear wa
    have TAH := Lib.hid ta; clear ta
    have ZB := Lib.hid zb; clear zb
    go_wp2_with fail
    clear wac0 wac1 walt tac0 tac1 tac2 tac3 tac4 tac5 tac6 tac7 talt
    have wa := WAH.out; clear WAH
    have ta := TAH.out; clear TAH
    have zb := ZB.out; clear ZB
    refine (in_any _ a 0 b).mono ?_
    rintro e w7 ⟨rfl, hw⟩
    rw [hw]; clear hw w7
    rw [H4.out]
    have wac0 := has_cell wa 0 rfl; have wac1 := has_cell wa 1 rfl
    have walt := has_lt wa
    have tac0 := has_cell ta 0 rfl; have tac1 := has_cell ta 1 rfl; have tac2 := has_cell ta 2 rfl; have tac3 := has_cell ta 3 rfl; have tac4 := has_cell ta 4 rfl; have tac5 := has_cell ta 5 rfl; have tac6 := has_cell ta 6 rfl; have tac7 := has_cell ta 7 rfl
    have talt := has_lt ta
    have WAH := Lib.hid wa; clear wa
    have TAH := Lib.hid ta; clear ta
    have ZB := Lib.hid zb; clear zb
    go_wp2_with fail
    clear wac0 wac1 walt tac0 tac1 tac2 tac3 tac4 tac5 tac6 tac7 talt
    have wa := WAH.out; clear WAH
    have ta := TAH.out; clear TAH
    have zb := ZB.out; clear ZB
    refine (in_any _ e 0 t.most).mono ?_
    rintro e w8 ⟨rfl, hw⟩
    rw [hw]; clear hw w8
    rw [H5.out]
    have wac0 := has_cell wa 0 rfl; have wac1 := has_cell wa 1 rfl
    have walt := has_lt wa
    have tac0 := has_cell ta 0 rfl; have tac1 := has_cell ta 1 rfl; have tac2 := has_cell ta 2 rfl; have tac3 := has_cell ta 3 rfl; have tac4 := has_cell ta 4 rfl; have tac5 := has_cell ta 5 rfl; have tac6 := has_cell ta 6 rfl; have tac7 := has_cell ta 7 rfl
    have talt := has_lt ta
    have WAH := Lib.hid wa; clear wa
    have TAH := Lib.hid ta; clear ta
    have ZB := Lib.hid zb; clear zb
    go_wp2_with fail
    clear wac0 wac1 walt tac0 tac1 tac2 tac3 tac4 tac5 tac6 tac7 talt
    have wa := WAH.out; clear WAH
    have ta := TAH.out; clear TAH
    have zb := ZB.out; clear ZB
    go_ret
    exact ⟨fint (by rw [feeB, if_neg (fun hx => by have := H5.out; rw [(in_iff e 0 t.most).2 hx.2.2.2.2.2.2] at this; cases this)]), zb⟩
  have H5 := Lib.hid h5; clear h5
  have hz := (in_iff z 1 24).1 H2.out; have he := (in_iff e 0 t.most).1 H5.out; have hb3 := (in_iff b 0 20000).1 H3.out; have ha3 := (in_iff a 0 b).1 H4.out
  have hok : feeOk o c t z a b e := ⟨H0.out, H1.out, hz, (time_iff a).2 (by omega), (time_iff b).2 hb3, ha3.2, he⟩
  clear hb3 ha3
  have hfb : feeB o c t z a b e = storB t z (hoursB o c a b) + t.price * e := by rw [feeB, if_pos hok]
  have HF := Lib.hid hfb; clear hfb hok
  have hr := hours_range o c a b; have sr := stor_nonneg H1.out (show 0 ≤ z by omega) (hoursB o c a b); have qb := price_bound H1.out he.1 he.2
  obtain ⟨sr0, sr1⟩ := sr; obtain ⟨qb0, qb1⟩ := qb; obtain ⟨hr0, hr1⟩ := hr; obtain ⟨hz0, hz1⟩ := hz; obtain ⟨he0, he1⟩ := he
  have hw3 : IntKind.i64.wrap (t.price * e) = t.price * e := IntWalk.i64_in _ (by omega)
  have hw4 : IntKind.i64.wrap (storB t z (hoursB o c a b) + t.price * e) = storB t z (hoursB o c a b) + t.price * e := IntWalk.i64_in _ (by omega)
  go_enter Try.func20, Try.ntmps20
  go_wp2_with fail
  generalize hX : (w.alloc (.cells #[.slice A o.length n, .slice A' c.length n'] 26)) = w1
  have hb : Below w.heap.size w w1 := by rw [← hX]; exact balloc _ _
  have hk : Has w1 w.heap.size 26 #[.slice A o.length n, .slice A' c.length n'] := by rw [← hX]; exact has_new _ _ _
  have hzw1 : w1.heap.size = w.heap.size + 1 := by rw [← hX]; simp
  clear hX
  have zb := hb; clear hb
  have wa := hk; clear hk
  generalize hX : (w1.alloc (.cells #[.int .i64 t.keep, .int .i64 t.free, .int .i64 t.step, .int .i64 t.rate, .int .i64 t.cap, .int .i64 t.longer, .int .i64 t.price, .int .i64 t.most] 35)) = w2
  have hb : Below w1.heap.size w1 w2 := by rw [← hX]; exact balloc _ _
  have hk : Has w2 w1.heap.size 35 #[.int .i64 t.keep, .int .i64 t.free, .int .i64 t.step, .int .i64 t.rate, .int .i64 t.cap, .int .i64 t.longer, .int .i64 t.price, .int .i64 t.most] := by rw [← hX]; exact has_new _ _ _
  have hzw2 : w2.heap.size = w.heap.size + 2 := by rw [← hX]; simp [hzw1]
  clear hX
  rw [hzw1] at hk
  replace wa := has_call wa hb
  replace zb := bthen zb hb; clear hb
  have ta := hk; clear hk
  clear hzw1 hzw2
  have wac0 := has_cell wa 0 rfl; have wac1 := has_cell wa 1 rfl
  have walt := has_lt wa
  have tac0 := has_cell ta 0 rfl; have tac1 := has_cell ta 1 rfl; have tac2 := has_cell ta 2 rfl; have tac3 := has_cell ta 3 rfl; have tac4 := has_cell ta 4 rfl; have tac5 := has_cell ta 5 rfl; have tac6 := has_cell ta 6 rfl; have tac7 := has_cell ta 7 rfl
  have talt := has_lt ta
  have WAH := Lib.hid wa; clear wa
  have TAH := Lib.hid ta; clear ta
  have ZB := Lib.hid zb; clear zb
  go_wp2_with fail
  clear wac0 wac1 walt tac0 tac1 tac2 tac3 tac4 tac5 tac6 tac7 talt
  have wa := WAH.out; clear WAH
  have ta := TAH.out; clear TAH
  have zb := ZB.out; clear ZB
  refine (weekS_any _ B A A' n n' o c ho hc (by have := zb.size; omega) (HS.out.later hB zb) (HS'.out.later hB zb)).mono ?_
  rintro e w3 ⟨rfl, hb⟩
  rw [H0.out]
  replace wa := has_call wa hb
  replace ta := has_call ta hb
  replace zb := bthen zb hb; clear hb
  have wac0 := has_cell wa 0 rfl; have wac1 := has_cell wa 1 rfl
  have walt := has_lt wa
  have tac0 := has_cell ta 0 rfl; have tac1 := has_cell ta 1 rfl; have tac2 := has_cell ta 2 rfl; have tac3 := has_cell ta 3 rfl; have tac4 := has_cell ta 4 rfl; have tac5 := has_cell ta 5 rfl; have tac6 := has_cell ta 6 rfl; have tac7 := has_cell ta 7 rfl
  have talt := has_lt ta
  have WAH := Lib.hid wa; clear wa
  have TAH := Lib.hid ta; clear ta
  have ZB := Lib.hid zb; clear zb
  go_wp2_with fail
  clear wac0 wac1 walt tac0 tac1 tac2 tac3 tac4 tac5 tac6 tac7 talt
  have wa := WAH.out; clear WAH
  have ta := TAH.out; clear TAH
  have zb := ZB.out; clear ZB
  refine (termsS_any _ t).mono ?_
  rintro e w4 ⟨rfl, hb⟩
  rw [H1.out]
  replace wa := has_call wa hb
  replace ta := has_call ta hb
  replace zb := bthen zb hb; clear hb
  have wac0 := has_cell wa 0 rfl; have wac1 := has_cell wa 1 rfl
  have walt := has_lt wa
  have tac0 := has_cell ta 0 rfl; have tac1 := has_cell ta 1 rfl; have tac2 := has_cell ta 2 rfl; have tac3 := has_cell ta 3 rfl; have tac4 := has_cell ta 4 rfl; have tac5 := has_cell ta 5 rfl; have tac6 := has_cell ta 6 rfl; have tac7 := has_cell ta 7 rfl
  have talt := has_lt ta
  have WAH := Lib.hid wa; clear wa
  have TAH := Lib.hid ta; clear ta
  have ZB := Lib.hid zb; clear zb
  go_wp2_with fail
  clear wac0 wac1 walt tac0 tac1 tac2 tac3 tac4 tac5 tac6 tac7 talt
  have wa := WAH.out; clear WAH
  have ta := TAH.out; clear TAH
  have zb := ZB.out; clear ZB
  refine (in_any _ z 1 24).mono ?_
  rintro e w5 ⟨rfl, hw⟩
  rw [hw]; clear hw w5
  rw [H2.out]
  have wac0 := has_cell wa 0 rfl; have wac1 := has_cell wa 1 rfl
  have walt := has_lt wa
  have tac0 := has_cell ta 0 rfl; have tac1 := has_cell ta 1 rfl; have tac2 := has_cell ta 2 rfl; have tac3 := has_cell ta 3 rfl; have tac4 := has_cell ta 4 rfl; have tac5 := has_cell ta 5 rfl; have tac6 := has_cell ta 6 rfl; have tac7 := has_cell ta 7 rfl
  have talt := has_lt ta
  have WAH := Lib.hid wa; clear wa
  have TAH := Lib.hid ta; clear ta
  have ZB := Lib.hid zb; clear zb
  go_wp2_with fail
  clear wac0 wac1 walt tac0 tac1 tac2 tac3 tac4 tac5 tac6 tac7 talt
  have wa := WAH.out; clear WAH
  have ta := TAH.out; clear TAH
  have zb := ZB.out; clear ZB
  refine (in_any _ b 0 20000).mono ?_
  rintro e w6 ⟨rfl, hw⟩
  rw [hw]; clear hw w6
  rw [H3.out]
  have wac0 := has_cell wa 0 rfl; have wac1 := has_cell wa 1 rfl
  have walt := has_lt wa
  have tac0 := has_cell ta 0 rfl; have tac1 := has_cell ta 1 rfl; have tac2 := has_cell ta 2 rfl; have tac3 := has_cell ta 3 rfl; have tac4 := has_cell ta 4 rfl; have tac5 := has_cell ta 5 rfl; have tac6 := has_cell ta 6 rfl; have tac7 := has_cell ta 7 rfl
  have talt := has_lt ta
  have WAH := Lib.hid wa; clear wa
  have TAH := Lib.hid ta; clear ta
  have ZB := Lib.hid zb; clear zb
  go_wp2_with fail
  clear wac0 wac1 walt tac0 tac1 tac2 tac3 tac4 tac5 tac6 tac7 talt
  have wa := WAH.out; clear WAH
  have ta := TAH.out; clear TAH
  have zb := ZB.out; clear ZB
  refine (in_any _ a 0 b).mono ?_
  rintro e w7 ⟨rfl, hw⟩
  rw [hw]; clear hw w7
  rw [H4.out]
  have wac0 := has_cell wa 0 rfl; have wac1 := has_cell wa 1 rfl
  have walt := has_lt wa
  have tac0 := has_cell ta 0 rfl; have tac1 := has_cell ta 1 rfl; have tac2 := has_cell ta 2 rfl; have tac3 := has_cell ta 3 rfl; have tac4 := has_cell ta 4 rfl; have tac5 := has_cell ta 5 rfl; have tac6 := has_cell ta 6 rfl; have tac7 := has_cell ta 7 rfl
  have talt := has_lt ta
  have WAH := Lib.hid wa; clear wa
  have TAH := Lib.hid ta; clear ta
  have ZB := Lib.hid zb; clear zb
  go_wp2_with fail
  clear wac0 wac1 walt tac0 tac1 tac2 tac3 tac4 tac5 tac6 tac7 talt
  have wa := WAH.out; clear WAH
  have ta := TAH.out; clear TAH
  have zb := ZB.out; clear ZB
  refine (in_any _ e 0 t.most).mono ?_
  rintro e w8 ⟨rfl, hw⟩
  rw [hw]; clear hw w8
  rw [H5.out]
  have wac0 := has_cell wa 0 rfl; have wac1 := has_cell wa 1 rfl
  have walt := has_lt wa
  have tac0 := has_cell ta 0 rfl; have tac1 := has_cell ta 1 rfl; have tac2 := has_cell ta 2 rfl; have tac3 := has_cell ta 3 rfl; have tac4 := has_cell ta 4 rfl; have tac5 := has_cell ta 5 rfl; have tac6 := has_cell ta 6 rfl; have tac7 := has_cell ta 7 rfl
  have talt := has_lt ta
  have WAH := Lib.hid wa; clear wa
  have TAH := Lib.hid ta; clear ta
  have ZB := Lib.hid zb; clear zb
  go_wp2_with fail
  clear wac0 wac1 walt tac0 tac1 tac2 tac3 tac4 tac5 tac6 tac7 talt
  have wa := WAH.out; clear WAH
  have ta := TAH.out; clear TAH
  have zb := ZB.out; clear ZB
  have wac0 := has_cell wa 0 rfl; have wac1 := has_cell wa 1 rfl
  have walt := has_lt wa
  have tac0 := has_cell ta 0 rfl; have tac1 := has_cell ta 1 rfl; have tac2 := has_cell ta 2 rfl; have tac3 := has_cell ta 3 rfl; have tac4 := has_cell ta 4 rfl; have tac5 := has_cell ta 5 rfl; have tac6 := has_cell ta 6 rfl; have tac7 := has_cell ta 7 rfl
  have talt := has_lt ta
  have WAH := Lib.hid wa; clear wa
  have TAH := Lib.hid ta; clear ta
  have ZB := Lib.hid zb; clear zb
  try go_wp2_with fail
  have zc : Below w.heap.size w w4 := ZB.out
  have hzs := zc.size
  have S0 : (fun W : World => ((W.cell? ⟨w.heap.size, 0, none⟩ = some (.slice A o.length n) ∧ W.cell? ⟨w.heap.size, 1, none⟩ = some (.slice A' c.length n')) ∧ (W.cell? ⟨w.heap.size + 1, 0, none⟩ = some (.int .i64 t.keep) ∧ W.cell? ⟨w.heap.size + 1, 1, none⟩ = some (.int .i64 t.free) ∧ W.cell? ⟨w.heap.size + 1, 2, none⟩ = some (.int .i64 t.step) ∧ W.cell? ⟨w.heap.size + 1, 3, none⟩ = some (.int .i64 t.rate) ∧ W.cell? ⟨w.heap.size + 1, 4, none⟩ = some (.int .i64 t.cap) ∧ W.cell? ⟨w.heap.size + 1, 5, none⟩ = some (.int .i64 t.longer) ∧ W.cell? ⟨w.heap.size + 1, 6, none⟩ = some (.int .i64 t.price) ∧ W.cell? ⟨w.heap.size + 1, 7, none⟩ = some (.int .i64 t.most))) ∧ Below w4.heap.size w4 W) w4.drew := ⟨⟨⟨wac0, wac1⟩, ⟨tac0, tac1, tac2, tac3, tac4, tac5, tac6, tac7⟩⟩, (Below.refl _ _).drew⟩
  clear wac0 wac1 tac0 tac1 tac2 tac3 tac4 tac5 tac6 tac7
  have zd : Below w.heap.size w w4.drew := zc.drew
  have hzd : w.heap.size + 1 < w4.drew.heap.size := talt
  go_region_held3 (fun W : World => ((W.cell? ⟨w.heap.size, 0, none⟩ = some (.slice A o.length n) ∧ W.cell? ⟨w.heap.size, 1, none⟩ = some (.slice A' c.length n')) ∧ (W.cell? ⟨w.heap.size + 1, 0, none⟩ = some (.int .i64 t.keep) ∧ W.cell? ⟨w.heap.size + 1, 1, none⟩ = some (.int .i64 t.free) ∧ W.cell? ⟨w.heap.size + 1, 2, none⟩ = some (.int .i64 t.step) ∧ W.cell? ⟨w.heap.size + 1, 3, none⟩ = some (.int .i64 t.rate) ∧ W.cell? ⟨w.heap.size + 1, 4, none⟩ = some (.int .i64 t.cap) ∧ W.cell? ⟨w.heap.size + 1, 5, none⟩ = some (.int .i64 t.longer) ∧ W.cell? ⟨w.heap.size + 1, 6, none⟩ = some (.int .i64 t.price) ∧ W.cell? ⟨w.heap.size + 1, 7, none⟩ = some (.int .i64 t.most))) ∧ Below w4.heap.size w4 W) (first | assumption) (first
    | (go_at_call 36; go_must (refine (hoursS_any w4.drew B A A' n n' o c a b ho hc (by have := zd.size; omega) (HS.out.later hB zd) (HS'.out.later hB zd)).mono ?_); rintro r wh ⟨rfl, hh⟩; have S1 : (fun W : World => ((W.cell? ⟨w.heap.size, 0, none⟩ = some (.slice A o.length n) ∧ W.cell? ⟨w.heap.size, 1, none⟩ = some (.slice A' c.length n')) ∧ (W.cell? ⟨w.heap.size + 1, 0, none⟩ = some (.int .i64 t.keep) ∧ W.cell? ⟨w.heap.size + 1, 1, none⟩ = some (.int .i64 t.free) ∧ W.cell? ⟨w.heap.size + 1, 2, none⟩ = some (.int .i64 t.step) ∧ W.cell? ⟨w.heap.size + 1, 3, none⟩ = some (.int .i64 t.rate) ∧ W.cell? ⟨w.heap.size + 1, 4, none⟩ = some (.int .i64 t.cap) ∧ W.cell? ⟨w.heap.size + 1, 5, none⟩ = some (.int .i64 t.longer) ∧ W.cell? ⟨w.heap.size + 1, 6, none⟩ = some (.int .i64 t.price) ∧ W.cell? ⟨w.heap.size + 1, 7, none⟩ = some (.int .i64 t.most))) ∧ Below w4.heap.size w4 W) wh := ⟨⟨⟨(bold hh _ _ (by omega)).trans S0.1.1.1, (bold hh _ _ (by omega)).trans S0.1.1.2⟩, ⟨(bold hh _ _ (by omega)).trans S0.1.2.1, (bold hh _ _ (by omega)).trans S0.1.2.2.1, (bold hh _ _ (by omega)).trans S0.1.2.2.2.1, (bold hh _ _ (by omega)).trans S0.1.2.2.2.2.1, (bold hh _ _ (by omega)).trans S0.1.2.2.2.2.2.1, (bold hh _ _ (by omega)).trans S0.1.2.2.2.2.2.2.1, (bold hh _ _ (by omega)).trans S0.1.2.2.2.2.2.2.2.1, (bold hh _ _ (by omega)).trans S0.1.2.2.2.2.2.2.2.2⟩⟩, bthen S0.2 hh⟩)
    | (go_at_call 35; go_must (refine (fee6_any wh t z (hoursB o c a b) e ⟨by omega, by omega⟩ H1.out ⟨by omega, by omega⟩ ⟨by omega, by omega⟩).mono ?_); rintro r wk ⟨rfl, hk⟩; have hzh := hh.size; have S2 : (fun W : World => ((W.cell? ⟨w.heap.size, 0, none⟩ = some (.slice A o.length n) ∧ W.cell? ⟨w.heap.size, 1, none⟩ = some (.slice A' c.length n')) ∧ (W.cell? ⟨w.heap.size + 1, 0, none⟩ = some (.int .i64 t.keep) ∧ W.cell? ⟨w.heap.size + 1, 1, none⟩ = some (.int .i64 t.free) ∧ W.cell? ⟨w.heap.size + 1, 2, none⟩ = some (.int .i64 t.step) ∧ W.cell? ⟨w.heap.size + 1, 3, none⟩ = some (.int .i64 t.rate) ∧ W.cell? ⟨w.heap.size + 1, 4, none⟩ = some (.int .i64 t.cap) ∧ W.cell? ⟨w.heap.size + 1, 5, none⟩ = some (.int .i64 t.longer) ∧ W.cell? ⟨w.heap.size + 1, 6, none⟩ = some (.int .i64 t.price) ∧ W.cell? ⟨w.heap.size + 1, 7, none⟩ = some (.int .i64 t.most))) ∧ Below w4.heap.size w4 W) wk := ⟨⟨⟨(bold hk _ _ (by omega)).trans S1.1.1.1, (bold hk _ _ (by omega)).trans S1.1.1.2⟩, ⟨(bold hk _ _ (by omega)).trans S1.1.2.1, (bold hk _ _ (by omega)).trans S1.1.2.2.1, (bold hk _ _ (by omega)).trans S1.1.2.2.2.1, (bold hk _ _ (by omega)).trans S1.1.2.2.2.2.1, (bold hk _ _ (by omega)).trans S1.1.2.2.2.2.2.1, (bold hk _ _ (by omega)).trans S1.1.2.2.2.2.2.2.1, (bold hk _ _ (by omega)).trans S1.1.2.2.2.2.2.2.2.1, (bold hk _ _ (by omega)).trans S1.1.2.2.2.2.2.2.2.2⟩⟩, bthen S1.2 hk⟩))
  go_wp2_with fail
  go_ret
  exact ⟨fint HF.out.symm, bthen zc S2.2⟩
end Go.Proofs.Ytfkhhefphbhppaa
