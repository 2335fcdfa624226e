
/- Chapter 6: contracts of the model's TermsOk and of the small functions (gen_feea.py). -/
import Derived.Test.YtjpkpfmpjgeeiaaGreatQ36
namespace Go.Proofs.YtjpkpfmpjgeeiaaGreat
open Go.RowKit
set_option linter.unusedVariables false
set_option maxRecDepth 100000 in
set_option maxHeartbeats 4000000 in
theorem termsS_any (w : World) (t : Tm) : Calls Tryz.prog 32 #[.agg #[.int .i64 t.keep, .int .i64 t.free, .int .i64 t.step, .int .i64 t.rate, .int .i64 t.cap, .int .i64 t.longer, .int .i64 t.price, .int .i64 t.most]] w fun e w' => e = .returned (.bool (termsB t)) ∧ Below w.heap.size w w' := by
  cases h0 : inB t.keep 1 2000
  · have H0 := Lib.hid h0; clear h0
    go_enter Tryz.func32, Tryz.ntmps32
    go_wp2_with fail
    generalize hX : (w.alloc (.cells #[.int .i64 t.keep, .int .i64 t.free, .int .i64 t.step, .int .i64 t.rate, .int .i64 t.cap, .int .i64 t.longer, .int .i64 t.price, .int .i64 t.most] 32)) = w1
    have hb : Below w.heap.size w w1 := by rw [← hX]; exact balloc _ _
    have hk : Has w1 w.heap.size 32 #[.int .i64 t.keep, .int .i64 t.free, .int .i64 t.step, .int .i64 t.rate, .int .i64 t.cap, .int .i64 t.longer, .int .i64 t.price, .int .i64 t.most] := by rw [← hX]; exact has_new _ _ _
    have hzw1 : w1.heap.size = w.heap.size + 1 := by rw [← hX]; simp
    clear hX
    have zb := hb; clear hb
    have ta := hk; clear hk
    clear hzw1
    have tac0 := has_cell ta 0 rfl; have tac1 := has_cell ta 1 rfl; have tac2 := has_cell ta 2 rfl; have tac3 := has_cell ta 3 rfl; have tac4 := has_cell ta 4 rfl; have tac5 := has_cell ta 5 rfl; have tac6 := has_cell ta 6 rfl; have tac7 := has_cell ta 7 rfl
    have talt := has_lt ta
    have TAH := Lib.hid ta; clear ta
    have ZB := Lib.hid zb; clear zb
    go_wp2_with fail
    clear tac0 tac1 tac2 tac3 tac4 tac5 tac6 tac7 talt
    have ta := TAH.out; clear TAH
    have zb := ZB.out; clear ZB
    refine (in_any _ _ _ _).mono ?_
    rintro e w2 ⟨rfl, hw⟩
    rw [hw]; clear hw w2
    rw [H0.out]
    have tac0 := has_cell ta 0 rfl; have tac1 := has_cell ta 1 rfl; have tac2 := has_cell ta 2 rfl; have tac3 := has_cell ta 3 rfl; have tac4 := has_cell ta 4 rfl; have tac5 := has_cell ta 5 rfl; have tac6 := has_cell ta 6 rfl; have tac7 := has_cell ta 7 rfl
    have talt := has_lt ta
    have TAH := Lib.hid ta; clear ta
    have ZB := Lib.hid zb; clear zb
    go_wp2_with fail
    clear tac0 tac1 tac2 tac3 tac4 tac5 tac6 tac7 talt
    have ta := TAH.out; clear TAH
    have zb := ZB.out; clear ZB
    go_ret
    exact ⟨fbool (by simp [termsB, H0.out]), zb⟩
  have H0 := Lib.hid h0; clear h0
  cases h1 : inB t.step 1 2000
  · have H1 := Lib.hid h1; clear h1
    go_enter Tryz.func32, Tryz.ntmps32
    go_wp2_with fail
    generalize hX : (w.alloc (.cells #[.int .i64 t.keep, .int .i64 t.free, .int .i64 t.step, .int .i64 t.rate, .int .i64 t.cap, .int .i64 t.longer, .int .i64 t.price, .int .i64 t.most] 32)) = w1
    have hb : Below w.heap.size w w1 := by rw [← hX]; exact balloc _ _
    have hk : Has w1 w.heap.size 32 #[.int .i64 t.keep, .int .i64 t.free, .int .i64 t.step, .int .i64 t.rate, .int .i64 t.cap, .int .i64 t.longer, .int .i64 t.price, .int .i64 t.most] := by rw [← hX]; exact has_new _ _ _
    have hzw1 : w1.heap.size = w.heap.size + 1 := by rw [← hX]; simp
    clear hX
    have zb := hb; clear hb
    have ta := hk; clear hk
    clear hzw1
    have tac0 := has_cell ta 0 rfl; have tac1 := has_cell ta 1 rfl; have tac2 := has_cell ta 2 rfl; have tac3 := has_cell ta 3 rfl; have tac4 := has_cell ta 4 rfl; have tac5 := has_cell ta 5 rfl; have tac6 := has_cell ta 6 rfl; have tac7 := has_cell ta 7 rfl
    have talt := has_lt ta
    have TAH := Lib.hid ta; clear ta
    have ZB := Lib.hid zb; clear zb
    go_wp2_with fail
    clear tac0 tac1 tac2 tac3 tac4 tac5 tac6 tac7 talt
    have ta := TAH.out; clear TAH
    have zb := ZB.out; clear ZB
    refine (in_any _ _ _ _).mono ?_
    rintro e w2 ⟨rfl, hw⟩
    rw [hw]; clear hw w2
    rw [H0.out]
    have tac0 := has_cell ta 0 rfl; have tac1 := has_cell ta 1 rfl; have tac2 := has_cell ta 2 rfl; have tac3 := has_cell ta 3 rfl; have tac4 := has_cell ta 4 rfl; have tac5 := has_cell ta 5 rfl; have tac6 := has_cell ta 6 rfl; have tac7 := has_cell ta 7 rfl
    have talt := has_lt ta
    have TAH := Lib.hid ta; clear ta
    have ZB := Lib.hid zb; clear zb
    go_wp2_with fail
    clear tac0 tac1 tac2 tac3 tac4 tac5 tac6 tac7 talt
    have ta := TAH.out; clear TAH
    have zb := ZB.out; clear ZB
    refine (in_any _ _ _ _).mono ?_
    rintro e w3 ⟨rfl, hw⟩
    rw [hw]; clear hw w3
    rw [H1.out]
    have tac0 := has_cell ta 0 rfl; have tac1 := has_cell ta 1 rfl; have tac2 := has_cell ta 2 rfl; have tac3 := has_cell ta 3 rfl; have tac4 := has_cell ta 4 rfl; have tac5 := has_cell ta 5 rfl; have tac6 := has_cell ta 6 rfl; have tac7 := has_cell ta 7 rfl
    have talt := has_lt ta
    have TAH := Lib.hid ta; clear ta
    have ZB := Lib.hid zb; clear zb
    go_wp2_with fail
    clear tac0 tac1 tac2 tac3 tac4 tac5 tac6 tac7 talt
    have ta := TAH.out; clear TAH
    have zb := ZB.out; clear ZB
    go_ret
    exact ⟨fbool (by simp [termsB, H0.out, H1.out]), zb⟩
  have H1 := Lib.hid h1; clear h1
  cases h2 : inB t.longer 1 2000
  · have H2 := Lib.hid h2; clear h2
    go_enter Tryz.func32, Tryz.ntmps32
    go_wp2_with fail
    generalize hX : (w.alloc (.cells #[.int .i64 t.keep, .int .i64 t.free, .int .i64 t.step, .int .i64 t.rate, .int .i64 t.cap, .int .i64 t.longer, .int .i64 t.price, .int .i64 t.most] 32)) = w1
    have hb : Below w.heap.size w w1 := by rw [← hX]; exact balloc _ _
    have hk : Has w1 w.heap.size 32 #[.int .i64 t.keep, .int .i64 t.free, .int .i64 t.step, .int .i64 t.rate, .int .i64 t.cap, .int .i64 t.longer, .int .i64 t.price, .int .i64 t.most] := by rw [← hX]; exact has_new _ _ _
    have hzw1 : w1.heap.size = w.heap.size + 1 := by rw [← hX]; simp
    clear hX
    have zb := hb; clear hb
    have ta := hk; clear hk
    clear hzw1
    have tac0 := has_cell ta 0 rfl; have tac1 := has_cell ta 1 rfl; have tac2 := has_cell ta 2 rfl; have tac3 := has_cell ta 3 rfl; have tac4 := has_cell ta 4 rfl; have tac5 := has_cell ta 5 rfl; have tac6 := has_cell ta 6 rfl; have tac7 := has_cell ta 7 rfl
    have talt := has_lt ta
    have TAH := Lib.hid ta; clear ta
    have ZB := Lib.hid zb; clear zb
    go_wp2_with fail
    clear tac0 tac1 tac2 tac3 tac4 tac5 tac6 tac7 talt
    have ta := TAH.out; clear TAH
    have zb := ZB.out; clear ZB
    refine (in_any _ _ _ _).mono ?_
    rintro e w2 ⟨rfl, hw⟩
    rw [hw]; clear hw w2
    rw [H0.out]
    have tac0 := has_cell ta 0 rfl; have tac1 := has_cell ta 1 rfl; have tac2 := has_cell ta 2 rfl; have tac3 := has_cell ta 3 rfl; have tac4 := has_cell ta 4 rfl; have tac5 := has_cell ta 5 rfl; have tac6 := has_cell ta 6 rfl; have tac7 := has_cell ta 7 rfl
    have talt := has_lt ta
    have TAH := Lib.hid ta; clear ta
    have ZB := Lib.hid zb; clear zb
    go_wp2_with fail
    clear tac0 tac1 tac2 tac3 tac4 tac5 tac6 tac7 talt
    have ta := TAH.out; clear TAH
    have zb := ZB.out; clear ZB
    refine (in_any _ _ _ _).mono ?_
    rintro e w3 ⟨rfl, hw⟩
    rw [hw]; clear hw w3
    rw [H1.out]
    have tac0 := has_cell ta 0 rfl; have tac1 := has_cell ta 1 rfl; have tac2 := has_cell ta 2 rfl; have tac3 := has_cell ta 3 rfl; have tac4 := has_cell ta 4 rfl; have tac5 := has_cell ta 5 rfl; have tac6 := has_cell ta 6 rfl; have tac7 := has_cell ta 7 rfl
    have talt := has_lt ta
    have TAH := Lib.hid ta; clear ta
    have ZB := Lib.hid zb; clear zb
    go_wp2_with fail
    clear tac0 tac1 tac2 tac3 tac4 tac5 tac6 tac7 talt
    have ta := TAH.out; clear TAH
    have zb := ZB.out; clear ZB
    refine (in_any _ _ _ _).mono ?_
    rintro e w4 ⟨rfl, hw⟩
    rw [hw]; clear hw w4
    rw [H2.out]
    have tac0 := has_cell ta 0 rfl; have tac1 := has_cell ta 1 rfl; have tac2 := has_cell ta 2 rfl; have tac3 := has_cell ta 3 rfl; have tac4 := has_cell ta 4 rfl; have tac5 := has_cell ta 5 rfl; have tac6 := has_cell ta 6 rfl; have tac7 := has_cell ta 7 rfl
    have talt := has_lt ta
    have TAH := Lib.hid ta; clear ta
    have ZB := Lib.hid zb; clear zb
    go_wp2_with fail
    clear tac0 tac1 tac2 tac3 tac4 tac5 tac6 tac7 talt
    have ta := TAH.out; clear TAH
    have zb := ZB.out; clear ZB
    go_ret
    exact ⟨fbool (by simp [termsB, H0.out, H1.out, H2.out]), zb⟩
  have H2 := Lib.hid h2; clear h2
  cases h3 : inB t.free 0 2000
  · have H3 := Lib.hid h3; clear h3
    go_enter Tryz.func32, Tryz.ntmps32
    go_wp2_with fail
    generalize hX : (w.alloc (.cells #[.int .i64 t.keep, .int .i64 t.free, .int .i64 t.step, .int .i64 t.rate, .int .i64 t.cap, .int .i64 t.longer, .int .i64 t.price, .int .i64 t.most] 32)) = w1
    have hb : Below w.heap.size w w1 := by rw [← hX]; exact balloc _ _
    have hk : Has w1 w.heap.size 32 #[.int .i64 t.keep, .int .i64 t.free, .int .i64 t.step, .int .i64 t.rate, .int .i64 t.cap, .int .i64 t.longer, .int .i64 t.price, .int .i64 t.most] := by rw [← hX]; exact has_new _ _ _
    have hzw1 : w1.heap.size = w.heap.size + 1 := by rw [← hX]; simp
    clear hX
    have zb := hb; clear hb
    have ta := hk; clear hk
    clear hzw1
    have tac0 := has_cell ta 0 rfl; have tac1 := has_cell ta 1 rfl; have tac2 := has_cell ta 2 rfl; have tac3 := has_cell ta 3 rfl; have tac4 := has_cell ta 4 rfl; have tac5 := has_cell ta 5 rfl; have tac6 := has_cell ta 6 rfl; have tac7 := has_cell ta 7 rfl
    have talt := has_lt ta
    have TAH := Lib.hid ta; clear ta
    have ZB := Lib.hid zb; clear zb
    go_wp2_with fail
    clear tac0 tac1 tac2 tac3 tac4 tac5 tac6 tac7 talt
    have ta := TAH.out; clear TAH
    have zb := ZB.out; clear ZB
    refine (in_any _ _ _ _).mono ?_
    rintro e w2 ⟨rfl, hw⟩
    rw [hw]; clear hw w2
    rw [H0.out]
    have tac0 := has_cell ta 0 rfl; have tac1 := has_cell ta 1 rfl; have tac2 := has_cell ta 2 rfl; have tac3 := has_cell ta 3 rfl; have tac4 := has_cell ta 4 rfl; have tac5 := has_cell ta 5 rfl; have tac6 := has_cell ta 6 rfl; have tac7 := has_cell ta 7 rfl
    have talt := has_lt ta
    have TAH := Lib.hid ta; clear ta
    have ZB := Lib.hid zb; clear zb
    go_wp2_with fail
    clear tac0 tac1 tac2 tac3 tac4 tac5 tac6 tac7 talt
    have ta := TAH.out; clear TAH
    have zb := ZB.out; clear ZB
    refine (in_any _ _ _ _).mono ?_
    rintro e w3 ⟨rfl, hw⟩
    rw [hw]; clear hw w3
    rw [H1.out]
    have tac0 := has_cell ta 0 rfl; have tac1 := has_cell ta 1 rfl; have tac2 := has_cell ta 2 rfl; have tac3 := has_cell ta 3 rfl; have tac4 := has_cell ta 4 rfl; have tac5 := has_cell ta 5 rfl; have tac6 := has_cell ta 6 rfl; have tac7 := has_cell ta 7 rfl
    have talt := has_lt ta
    have TAH := Lib.hid ta; clear ta
    have ZB := Lib.hid zb; clear zb
    go_wp2_with fail
    clear tac0 tac1 tac2 tac3 tac4 tac5 tac6 tac7 talt
    have ta := TAH.out; clear TAH
    have zb := ZB.out; clear ZB
    refine (in_any _ _ _ _).mono ?_
    rintro e w4 ⟨rfl, hw⟩
    rw [hw]; clear hw w4
    rw [H2.out]
    have tac0 := has_cell ta 0 rfl; have tac1 := has_cell ta 1 rfl; have tac2 := has_cell ta 2 rfl; have tac3 := has_cell ta 3 rfl; have tac4 := has_cell ta 4 rfl; have tac5 := has_cell ta 5 rfl; have tac6 := has_cell ta 6 rfl; have tac7 := has_cell ta 7 rfl
    have talt := has_lt ta
    have TAH := Lib.hid ta; clear ta
    have ZB := Lib.hid zb; clear zb
    go_wp2_with fail
    clear tac0 tac1 tac2 tac3 tac4 tac5 tac6 tac7 talt
    have ta := TAH.out; clear TAH
    have zb := ZB.out; clear ZB
    refine (in_any _ _ _ _).mono ?_
    rintro e w5 ⟨rfl, hw⟩
    rw [hw]; clear hw w5
    rw [H3.out]
    have tac0 := has_cell ta 0 rfl; have tac1 := has_cell ta 1 rfl; have tac2 := has_cell ta 2 rfl; have tac3 := has_cell ta 3 rfl; have tac4 := has_cell ta 4 rfl; have tac5 := has_cell ta 5 rfl; have tac6 := has_cell ta 6 rfl; have tac7 := has_cell ta 7 rfl
    have talt := has_lt ta
    have TAH := Lib.hid ta; clear ta
    have ZB := Lib.hid zb; clear zb
    go_wp2_with fail
    clear tac0 tac1 tac2 tac3 tac4 tac5 tac6 tac7 talt
    have ta := TAH.out; clear TAH
    have zb := ZB.out; clear ZB
    go_ret
    exact ⟨fbool (by simp [termsB, H0.out, H1.out, H2.out, H3.out]), zb⟩
  have H3 := Lib.hid h3; clear h3
  cases h4 : inB t.rate 0 10000
  · have H4 := Lib.hid h4; clear h4
    go_enter Tryz.func32, Tryz.ntmps32
    go_wp2_with fail
    generalize hX : (w.alloc (.cells #[.int .i64 t.keep, .int .i64 t.free, .int .i64 t.step, .int .i64 t.rate, .int .i64 t.cap, .int .i64 t.longer, .int .i64 t.price, .int .i64 t.most] 32)) = w1
    have hb : Below w.heap.size w w1 := by rw [← hX]; exact balloc _ _
    have hk : Has w1 w.heap.size 32 #[.int .i64 t.keep, .int .i64 t.free, .int .i64 t.step, .int .i64 t.rate, .int .i64 t.cap, .int .i64 t.longer, .int .i64 t.price, .int .i64 t.most] := by rw [← hX]; exact has_new _ _ _
    have hzw1 : w1.heap.size = w.heap.size + 1 := by rw [← hX]; simp
    clear hX
    have zb := hb; clear hb
    have ta := hk; clear hk
    clear hzw1
    have tac0 := has_cell ta 0 rfl; have tac1 := has_cell ta 1 rfl; have tac2 := has_cell ta 2 rfl; have tac3 := has_cell ta 3 rfl; have tac4 := has_cell ta 4 rfl; have tac5 := has_cell ta 5 rfl; have tac6 := has_cell ta 6 rfl; have tac7 := has_cell ta 7 rfl
    have talt := has_lt ta
    have TAH := Lib.hid ta; clear ta
    have ZB := Lib.hid zb; clear zb
    go_wp2_with fail
    clear tac0 tac1 tac2 tac3 tac4 tac5 tac6 tac7 talt
    have ta := TAH.out; clear TAH
    have zb := ZB.out; clear ZB
    refine (in_any _ _ _ _).mono ?_
    rintro e w2 ⟨rfl, hw⟩
    rw [hw]; clear hw w2
    rw [H0.out]
    have tac0 := has_cell ta 0 rfl; have tac1 := has_cell ta 1 rfl; have tac2 := has_cell ta 2 rfl; have tac3 := has_cell ta 3 rfl; have tac4 := has_cell ta 4 rfl; have tac5 := has_cell ta 5 rfl; have tac6 := has_cell ta 6 rfl; have tac7 := has_cell ta 7 rfl
    have talt := has_lt ta
    have TAH := Lib.hid ta; clear ta
    have ZB := Lib.hid zb; clear zb
    go_wp2_with fail
    clear tac0 tac1 tac2 tac3 tac4 tac5 tac6 tac7 talt
    have ta := TAH.out; clear TAH
    have zb := ZB.out; clear ZB
    refine (in_any _ _ _ _).mono ?_
    rintro e w3 ⟨rfl, hw⟩
    rw [hw]; clear hw w3
    rw [H1.out]
    have tac0 := has_cell ta 0 rfl; have tac1 := has_cell ta 1 rfl; have tac2 := has_cell ta 2 rfl; have tac3 := has_cell ta 3 rfl; have tac4 := has_cell ta 4 rfl; have tac5 := has_cell ta 5 rfl; have tac6 := has_cell ta 6 rfl; have tac7 := has_cell ta 7 rfl
    have talt := has_lt ta
    have TAH := Lib.hid ta; clear ta
    have ZB := Lib.hid zb; clear zb
    go_wp2_with fail
    clear tac0 tac1 tac2 tac3 tac4 tac5 tac6 tac7 talt
    have ta := TAH.out; clear TAH
    have zb := ZB.out; clear ZB
    refine (in_any _ _ _ _).mono ?_
    rintro e w4 ⟨rfl, hw⟩
    rw [hw]; clear hw w4
    rw [H2.out]
    have tac0 := has_cell ta 0 rfl; have tac1 := has_cell ta 1 rfl; have tac2 := has_cell ta 2 rfl; have tac3 := has_cell ta 3 rfl; have tac4 := has_cell ta 4 rfl; have tac5 := has_cell ta 5 rfl; have tac6 := has_cell ta 6 rfl; have tac7 := has_cell ta 7 rfl
    have talt := has_lt ta
    have TAH := Lib.hid ta; clear ta
    have ZB := Lib.hid zb; clear zb
    go_wp2_with fail
    clear tac0 tac1 tac2 tac3 tac4 tac5 tac6 tac7 talt
    have ta := TAH.out; clear TAH
    have zb := ZB.out; clear ZB
    refine (in_any _ _ _ _).mono ?_
    rintro e w5 ⟨rfl, hw⟩
    rw [hw]; clear hw w5
    rw [H3.out]
    have tac0 := has_cell ta 0 rfl; have tac1 := has_cell ta 1 rfl; have tac2 := has_cell ta 2 rfl; have tac3 := has_cell ta 3 rfl; have tac4 := has_cell ta 4 rfl; have tac5 := has_cell ta 5 rfl; have tac6 := has_cell ta 6 rfl; have tac7 := has_cell ta 7 rfl
    have talt := has_lt ta
    have TAH := Lib.hid ta; clear ta
    have ZB := Lib.hid zb; clear zb
    go_wp2_with fail
    clear tac0 tac1 tac2 tac3 tac4 tac5 tac6 tac7 talt
    have ta := TAH.out; clear TAH
    have zb := ZB.out; clear ZB
    refine (in_any _ _ _ _).mono ?_
    rintro e w6 ⟨rfl, hw⟩
    rw [hw]; clear hw w6
    rw [H4.out]
    have tac0 := has_cell ta 0 rfl; have tac1 := has_cell ta 1 rfl; have tac2 := has_cell ta 2 rfl; have tac3 := has_cell ta 3 rfl; have tac4 := has_cell ta 4 rfl; have tac5 := has_cell ta 5 rfl; have tac6 := has_cell ta 6 rfl; have tac7 := has_cell ta 7 rfl
    have talt := has_lt ta
    have TAH := Lib.hid ta; clear ta
    have ZB := Lib.hid zb; clear zb
    go_wp2_with fail
    clear tac0 tac1 tac2 tac3 tac4 tac5 tac6 tac7 talt
    have ta := TAH.out; clear TAH
    have zb := ZB.out; clear ZB
    go_ret
    exact ⟨fbool (by simp [termsB, H0.out, H1.out, H2.out, H3.out, H4.out]), zb⟩
  have H4 := Lib.hid h4; clear h4
  cases h5 : inB t.cap 0 1000000
  · have H5 := Lib.hid h5; clear h5
    go_enter Tryz.func32, Tryz.ntmps32
    go_wp2_with fail
    generalize hX : (w.alloc (.cells #[.int .i64 t.keep, .int .i64 t.free, .int .i64 t.step, .int .i64 t.rate, .int .i64 t.cap, .int .i64 t.longer, .int .i64 t.price, .int .i64 t.most] 32)) = w1
    have hb : Below w.heap.size w w1 := by rw [← hX]; exact balloc _ _
    have hk : Has w1 w.heap.size 32 #[.int .i64 t.keep, .int .i64 t.free, .int .i64 t.step, .int .i64 t.rate, .int .i64 t.cap, .int .i64 t.longer, .int .i64 t.price, .int .i64 t.most] := by rw [← hX]; exact has_new _ _ _
    have hzw1 : w1.heap.size = w.heap.size + 1 := by rw [← hX]; simp
    clear hX
    have zb := hb; clear hb
    have ta := hk; clear hk
    clear hzw1
    have tac0 := has_cell ta 0 rfl; have tac1 := has_cell ta 1 rfl; have tac2 := has_cell ta 2 rfl; have tac3 := has_cell ta 3 rfl; have tac4 := has_cell ta 4 rfl; have tac5 := has_cell ta 5 rfl; have tac6 := has_cell ta 6 rfl; have tac7 := has_cell ta 7 rfl
    have talt := has_lt ta
    have TAH := Lib.hid ta; clear ta
    have ZB := Lib.hid zb; clear zb
    go_wp2_with fail
    clear tac0 tac1 tac2 tac3 tac4 tac5 tac6 tac7 talt
    have ta := TAH.out; clear TAH
    have zb := ZB.out; clear ZB
    refine (in_any _ _ _ _).mono ?_
    rintro e w2 ⟨rfl, hw⟩
    rw [hw]; clear hw w2
    rw [H0.out]
    have tac0 := has_cell ta 0 rfl; have tac1 := has_cell ta 1 rfl; have tac2 := has_cell ta 2 rfl; have tac3 := has_cell ta 3 rfl; have tac4 := has_cell ta 4 rfl; have tac5 := has_cell ta 5 rfl; have tac6 := has_cell ta 6 rfl; have tac7 := has_cell ta 7 rfl
    have talt := has_lt ta
    have TAH := Lib.hid ta; clear ta
    have ZB := Lib.hid zb; clear zb
    go_wp2_with fail
    clear tac0 tac1 tac2 tac3 tac4 tac5 tac6 tac7 talt
    have ta := TAH.out; clear TAH
    have zb := ZB.out; clear ZB
    refine (in_any _ _ _ _).mono ?_
    rintro e w3 ⟨rfl, hw⟩
    rw [hw]; clear hw w3
    rw [H1.out]
    have tac0 := has_cell ta 0 rfl; have tac1 := has_cell ta 1 rfl; have tac2 := has_cell ta 2 rfl; have tac3 := has_cell ta 3 rfl; have tac4 := has_cell ta 4 rfl; have tac5 := has_cell ta 5 rfl; have tac6 := has_cell ta 6 rfl; have tac7 := has_cell ta 7 rfl
    have talt := has_lt ta
    have TAH := Lib.hid ta; clear ta
    have ZB := Lib.hid zb; clear zb
    go_wp2_with fail
    clear tac0 tac1 tac2 tac3 tac4 tac5 tac6 tac7 talt
    have ta := TAH.out; clear TAH
    have zb := ZB.out; clear ZB
    refine (in_any _ _ _ _).mono ?_
    rintro e w4 ⟨rfl, hw⟩
    rw [hw]; clear hw w4
    rw [H2.out]
    have tac0 := has_cell ta 0 rfl; have tac1 := has_cell ta 1 rfl; have tac2 := has_cell ta 2 rfl; have tac3 := has_cell ta 3 rfl; have tac4 := has_cell ta 4 rfl; have tac5 := has_cell ta 5 rfl; have tac6 := has_cell ta 6 rfl; have tac7 := has_cell ta 7 rfl
    have talt := has_lt ta
    have TAH := Lib.hid ta; clear ta
    have ZB := Lib.hid zb; clear zb
    go_wp2_with fail
    clear tac0 tac1 tac2 tac3 tac4 tac5 tac6 tac7 talt
    have ta := TAH.out; clear TAH
    have zb := ZB.out; clear ZB
    refine (in_any _ _ _ _).mono ?_
    rintro e w5 ⟨rfl, hw⟩
    rw [hw]; clear hw w5
    rw [H3.out]
    have tac0 := has_cell ta 0 rfl; have tac1 := has_cell ta 1 rfl; have tac2 := has_cell ta 2 rfl; have tac3 := has_cell ta 3 rfl; have tac4 := has_cell ta 4 rfl; have tac5 := has_cell ta 5 rfl; have tac6 := has_cell ta 6 rfl; have tac7 := has_cell ta 7 rfl
    have talt := has_lt ta
    have TAH := Lib.hid ta; clear ta
    have ZB := Lib.hid zb; clear zb
    go_wp2_with fail
    clear tac0 tac1 tac2 tac3 tac4 tac5 tac6 tac7 talt
    have ta := TAH.out; clear TAH
    have zb := ZB.out; clear ZB
    refine (in_any _ _ _ _).mono ?_
    rintro e w6 ⟨rfl, hw⟩
    rw [hw]; clear hw w6
    rw [H4.out]
    have tac0 := has_cell ta 0 rfl; have tac1 := has_cell ta 1 rfl; have tac2 := has_cell ta 2 rfl; have tac3 := has_cell ta 3 rfl; have tac4 := has_cell ta 4 rfl; have tac5 := has_cell ta 5 rfl; have tac6 := has_cell ta 6 rfl; have tac7 := has_cell ta 7 rfl
    have talt := has_lt ta
    have TAH := Lib.hid ta; clear ta
    have ZB := Lib.hid zb; clear zb
    go_wp2_with fail
    clear tac0 tac1 tac2 tac3 tac4 tac5 tac6 tac7 talt
    have ta := TAH.out; clear TAH
    have zb := ZB.out; clear ZB
    refine (in_any _ _ _ _).mono ?_
    rintro e w7 ⟨rfl, hw⟩
    rw [hw]; clear hw w7
    rw [H5.out]
    have tac0 := has_cell ta 0 rfl; have tac1 := has_cell ta 1 rfl; have tac2 := has_cell ta 2 rfl; have tac3 := has_cell ta 3 rfl; have tac4 := has_cell ta 4 rfl; have tac5 := has_cell ta 5 rfl; have tac6 := has_cell ta 6 rfl; have tac7 := has_cell ta 7 rfl
    have talt := has_lt ta
    have TAH := Lib.hid ta; clear ta
    have ZB := Lib.hid zb; clear zb
    go_wp2_with fail
    clear tac0 tac1 tac2 tac3 tac4 tac5 tac6 tac7 talt
    have ta := TAH.out; clear TAH
    have zb := ZB.out; clear ZB
    go_ret
    exact ⟨fbool (by simp [termsB, H0.out, H1.out, H2.out, H3.out, H4.out, H5.out]), zb⟩
  have H5 := Lib.hid h5; clear h5
  cases h6 : inB t.price 0 100000
  · have H6 := Lib.hid h6; clear h6
    go_enter Tryz.func32, Tryz.ntmps32
    go_wp2_with fail
    generalize hX : (w.alloc (.cells #[.int .i64 t.keep, .int .i64 t.free, .int .i64 t.step, .int .i64 t.rate, .int .i64 t.cap, .int .i64 t.longer, .int .i64 t.price, .int .i64 t.most] 32)) = w1
    have hb : Below w.heap.size w w1 := by rw [← hX]; exact balloc _ _
    have hk : Has w1 w.heap.size 32 #[.int .i64 t.keep, .int .i64 t.free, .int .i64 t.step, .int .i64 t.rate, .int .i64 t.cap, .int .i64 t.longer, .int .i64 t.price, .int .i64 t.most] := by rw [← hX]; exact has_new _ _ _
    have hzw1 : w1.heap.size = w.heap.size + 1 := by rw [← hX]; simp
    clear hX
    have zb := hb; clear hb
    have ta := hk; clear hk
    clear hzw1
    have tac0 := has_cell ta 0 rfl; have tac1 := has_cell ta 1 rfl; have tac2 := has_cell ta 2 rfl; have tac3 := has_cell ta 3 rfl; have tac4 := has_cell ta 4 rfl; have tac5 := has_cell ta 5 rfl; have tac6 := has_cell ta 6 rfl; have tac7 := has_cell ta 7 rfl
    have talt := has_lt ta
    have TAH := Lib.hid ta; clear ta
    have ZB := Lib.hid zb; clear zb
    go_wp2_with fail
    clear tac0 tac1 tac2 tac3 tac4 tac5 tac6 tac7 talt
    have ta := TAH.out; clear TAH
    have zb := ZB.out; clear ZB
    refine (in_any _ _ _ _).mono ?_
    rintro e w2 ⟨rfl, hw⟩
    rw [hw]; clear hw w2
    rw [H0.out]
    have tac0 := has_cell ta 0 rfl; have tac1 := has_cell ta 1 rfl; have tac2 := has_cell ta 2 rfl; have tac3 := has_cell ta 3 rfl; have tac4 := has_cell ta 4 rfl; have tac5 := has_cell ta 5 rfl; have tac6 := has_cell ta 6 rfl; have tac7 := has_cell ta 7 rfl
    have talt := has_lt ta
    have TAH := Lib.hid ta; clear ta
    have ZB := Lib.hid zb; clear zb
    go_wp2_with fail
    clear tac0 tac1 tac2 tac3 tac4 tac5 tac6 tac7 talt
    have ta := TAH.out; clear TAH
    have zb := ZB.out; clear ZB
    refine (in_any _ _ _ _).mono ?_
    rintro e w3 ⟨rfl, hw⟩
    rw [hw]; clear hw w3
    rw [H1.out]
    have tac0 := has_cell ta 0 rfl; have tac1 := has_cell ta 1 rfl; have tac2 := has_cell ta 2 rfl; have tac3 := has_cell ta 3 rfl; have tac4 := has_cell ta 4 rfl; have tac5 := has_cell ta 5 rfl; have tac6 := has_cell ta 6 rfl; have tac7 := has_cell ta 7 rfl
    have talt := has_lt ta
    have TAH := Lib.hid ta; clear ta
    have ZB := Lib.hid zb; clear zb
    go_wp2_with fail
    clear tac0 tac1 tac2 tac3 tac4 tac5 tac6 tac7 talt
    have ta := TAH.out; clear TAH
    have zb := ZB.out; clear ZB
    refine (in_any _ _ _ _).mono ?_
    rintro e w4 ⟨rfl, hw⟩
    rw [hw]; clear hw w4
    rw [H2.out]
    have tac0 := has_cell ta 0 rfl; have tac1 := has_cell ta 1 rfl; have tac2 := has_cell ta 2 rfl; have tac3 := has_cell ta 3 rfl; have tac4 := has_cell ta 4 rfl; have tac5 := has_cell ta 5 rfl; have tac6 := has_cell ta 6 rfl; have tac7 := has_cell ta 7 rfl
    have talt := has_lt ta
    have TAH := Lib.hid ta; clear ta
    have ZB := Lib.hid zb; clear zb
    go_wp2_with fail
    clear tac0 tac1 tac2 tac3 tac4 tac5 tac6 tac7 talt
    have ta := TAH.out; clear TAH
    have zb := ZB.out; clear ZB
    refine (in_any _ _ _ _).mono ?_
    rintro e w5 ⟨rfl, hw⟩
    rw [hw]; clear hw w5
    rw [H3.out]
    have tac0 := has_cell ta 0 rfl; have tac1 := has_cell ta 1 rfl; have tac2 := has_cell ta 2 rfl; have tac3 := has_cell ta 3 rfl; have tac4 := has_cell ta 4 rfl; have tac5 := has_cell ta 5 rfl; have tac6 := has_cell ta 6 rfl; have tac7 := has_cell ta 7 rfl
    have talt := has_lt ta
    have TAH := Lib.hid ta; clear ta
    have ZB := Lib.hid zb; clear zb
    go_wp2_with fail
    clear tac0 tac1 tac2 tac3 tac4 tac5 tac6 tac7 talt
    have ta := TAH.out; clear TAH
    have zb := ZB.out; clear ZB
    refine (in_any _ _ _ _).mono ?_
    rintro e w6 ⟨rfl, hw⟩
    rw [hw]; clear hw w6
    rw [H4.out]
    have tac0 := has_cell ta 0 rfl; have tac1 := has_cell ta 1 rfl; have tac2 := has_cell ta 2 rfl; have tac3 := has_cell ta 3 rfl; have tac4 := has_cell ta 4 rfl; have tac5 := has_cell ta 5 rfl; have tac6 := has_cell ta 6 rfl; have tac7 := has_cell ta 7 rfl
    have talt := has_lt ta
    have TAH := Lib.hid ta; clear ta
    have ZB := Lib.hid zb; clear zb
    go_wp2_with fail
    clear tac0 tac1 tac2 tac3 tac4 tac5 tac6 tac7 talt
    have ta := TAH.out; clear TAH
    have zb := ZB.out; clear ZB
    refine (in_any _ _ _ _).mono ?_
    rintro e w7 ⟨rfl, hw⟩
    rw [hw]; clear hw w7
    rw [H5.out]
    have tac0 := has_cell ta 0 rfl; have tac1 := has_cell ta 1 rfl; have tac2 := has_cell ta 2 rfl; have tac3 := has_cell ta 3 rfl; have tac4 := has_cell ta 4 rfl; have tac5 := has_cell ta 5 rfl; have tac6 := has_cell ta 6 rfl; have tac7 := has_cell ta 7 rfl
    have talt := has_lt ta
    have TAH := Lib.hid ta; clear ta
    have ZB := Lib.hid zb; clear zb
    go_wp2_with fail
    clear tac0 tac1 tac2 tac3 tac4 tac5 tac6 tac7 talt
    have ta := TAH.out; clear TAH
    have zb := ZB.out; clear ZB
    refine (in_any _ _ _ _).mono ?_
    rintro e w8 ⟨rfl, hw⟩
    rw [hw]; clear hw w8
    rw [H6.out]
    have tac0 := has_cell ta 0 rfl; have tac1 := has_cell ta 1 rfl; have tac2 := has_cell ta 2 rfl; have tac3 := has_cell ta 3 rfl; have tac4 := has_cell ta 4 rfl; have tac5 := has_cell ta 5 rfl; have tac6 := has_cell ta 6 rfl; have tac7 := has_cell ta 7 rfl
    have talt := has_lt ta
    have TAH := Lib.hid ta; clear ta
    have ZB := Lib.hid zb; clear zb
    go_wp2_with fail
    clear tac0 tac1 tac2 tac3 tac4 tac5 tac6 tac7 talt
    have ta := TAH.out; clear TAH
    have zb := ZB.out; clear ZB
    go_ret
    exact ⟨fbool (by simp [termsB, H0.out, H1.out, H2.out, H3.out, H4.out, H5.out, H6.out]), zb⟩
  have H6 := Lib.hid h6; clear h6
  cases h7 : inB t.most 0 20
  · have H7 := Lib.hid h7; clear h7
    go_enter Tryz.func32, Tryz.ntmps32
    go_wp2_with fail
    generalize hX : (w.alloc (.cells #[.int .i64 t.keep, .int .i64 t.free, .int .i64 t.step, .int .i64 t.rate, .int .i64 t.cap, .int .i64 t.longer, .int .i64 t.price, .int .i64 t.most] 32)) = w1
    have hb : Below w.heap.size w w1 := by rw [← hX]; exact balloc _ _
    have hk : Has w1 w.heap.size 32 #[.int .i64 t.keep, .int .i64 t.free, .int .i64 t.step, .int .i64 t.rate, .int .i64 t.cap, .int .i64 t.longer, .int .i64 t.price, .int .i64 t.most] := by rw [← hX]; exact has_new _ _ _
    have hzw1 : w1.heap.size = w.heap.size + 1 := by rw [← hX]; simp
    clear hX
    have zb := hb; clear hb
    have ta := hk; clear hk
    clear hzw1
    have tac0 := has_cell ta 0 rfl; have tac1 := has_cell ta 1 rfl; have tac2 := has_cell ta 2 rfl; have tac3 := has_cell ta 3 rfl; have tac4 := has_cell ta 4 rfl; have tac5 := has_cell ta 5 rfl; have tac6 := has_cell ta 6 rfl; have tac7 := has_cell ta 7 rfl
    have talt := has_lt ta
    have TAH := Lib.hid ta; clear ta
    have ZB := Lib.hid zb; clear zb
    go_wp2_with fail
    clear tac0 tac1 tac2 tac3 tac4 tac5 tac6 tac7 talt
    have ta := TAH.out; clear TAH
    have zb := ZB.out; clear ZB
    refine (in_any _ _ _ _).mono ?_
    rintro e w2 ⟨rfl, hw⟩
    rw [hw]; clear hw w2
    rw [H0.out]
    have tac0 := has_cell ta 0 rfl; have tac1 := has_cell ta 1 rfl; have tac2 := has_cell ta 2 rfl; have tac3 := has_cell ta 3 rfl; have tac4 := has_cell ta 4 rfl; have tac5 := has_cell ta 5 rfl; have tac6 := has_cell ta 6 rfl; have tac7 := has_cell ta 7 rfl
    have talt := has_lt ta
    have TAH := Lib.hid ta; clear ta
    have ZB := Lib.hid zb; clear zb
    go_wp2_with fail
    clear tac0 tac1 tac2 tac3 tac4 tac5 tac6 tac7 talt
    have ta := TAH.out; clear TAH
    have zb := ZB.out; clear ZB
    refine (in_any _ _ _ _).mono ?_
    rintro e w3 ⟨rfl, hw⟩
    rw [hw]; clear hw w3
    rw [H1.out]
    have tac0 := has_cell ta 0 rfl; have tac1 := has_cell ta 1 rfl; have tac2 := has_cell ta 2 rfl; have tac3 := has_cell ta 3 rfl; have tac4 := has_cell ta 4 rfl; have tac5 := has_cell ta 5 rfl; have tac6 := has_cell ta 6 rfl; have tac7 := has_cell ta 7 rfl
    have talt := has_lt ta
    have TAH := Lib.hid ta; clear ta
    have ZB := Lib.hid zb; clear zb
    go_wp2_with fail
    clear tac0 tac1 tac2 tac3 tac4 tac5 tac6 tac7 talt
    have ta := TAH.out; clear TAH
    have zb := ZB.out; clear ZB
    refine (in_any _ _ _ _).mono ?_
    rintro e w4 ⟨rfl, hw⟩
    rw [hw]; clear hw w4
    rw [H2.out]
    have tac0 := has_cell ta 0 rfl; have tac1 := has_cell ta 1 rfl; have tac2 := has_cell ta 2 rfl; have tac3 := has_cell ta 3 rfl; have tac4 := has_cell ta 4 rfl; have tac5 := has_cell ta 5 rfl; have tac6 := has_cell ta 6 rfl; have tac7 := has_cell ta 7 rfl
    have talt := has_lt ta
    have TAH := Lib.hid ta; clear ta
    have ZB := Lib.hid zb; clear zb
    go_wp2_with fail
    clear tac0 tac1 tac2 tac3 tac4 tac5 tac6 tac7 talt
    have ta := TAH.out; clear TAH
    have zb := ZB.out; clear ZB
    refine (in_any _ _ _ _).mono ?_
    rintro e w5 ⟨rfl, hw⟩
    rw [hw]; clear hw w5
    rw [H3.out]
    have tac0 := has_cell ta 0 rfl; have tac1 := has_cell ta 1 rfl; have tac2 := has_cell ta 2 rfl; have tac3 := has_cell ta 3 rfl; have tac4 := has_cell ta 4 rfl; have tac5 := has_cell ta 5 rfl; have tac6 := has_cell ta 6 rfl; have tac7 := has_cell ta 7 rfl
    have talt := has_lt ta
    have TAH := Lib.hid ta; clear ta
    have ZB := Lib.hid zb; clear zb
    go_wp2_with fail
    clear tac0 tac1 tac2 tac3 tac4 tac5 tac6 tac7 talt
    have ta := TAH.out; clear TAH
    have zb := ZB.out; clear ZB
    refine (in_any _ _ _ _).mono ?_
    rintro e w6 ⟨rfl, hw⟩
    rw [hw]; clear hw w6
    rw [H4.out]
    have tac0 := has_cell ta 0 rfl; have tac1 := has_cell ta 1 rfl; have tac2 := has_cell ta 2 rfl; have tac3 := has_cell ta 3 rfl; have tac4 := has_cell ta 4 rfl; have tac5 := has_cell ta 5 rfl; have tac6 := has_cell ta 6 rfl; have tac7 := has_cell ta 7 rfl
    have talt := has_lt ta
    have TAH := Lib.hid ta; clear ta
    have ZB := Lib.hid zb; clear zb
    go_wp2_with fail
    clear tac0 tac1 tac2 tac3 tac4 tac5 tac6 tac7 talt
    have ta := TAH.out; clear TAH
    have zb := ZB.out; clear ZB
    refine (in_any _ _ _ _).mono ?_
    rintro e w7 ⟨rfl, hw⟩
    rw [hw]; clear hw w7
    rw [H5.out]
    have tac0 := has_cell ta 0 rfl; have tac1 := has_cell ta 1 rfl; have tac2 := has_cell ta 2 rfl; have tac3 := has_cell ta 3 rfl; have tac4 := has_cell ta 4 rfl; have tac5 := has_cell ta 5 rfl; have tac6 := has_cell ta 6 rfl; have tac7 := has_cell ta 7 rfl
    have talt := has_lt ta
    have TAH := Lib.hid ta; clear ta
    have ZB := Lib.hid zb; clear zb
    go_wp2_with fail
    clear tac0 tac1 tac2 tac3 tac4 tac5 tac6 tac7 talt
    have ta := TAH.out; clear TAH
    have zb := ZB.out; clear ZB
    refine (in_any _ _ _ _).mono ?_
    rintro e w8 ⟨rfl, hw⟩
    rw [hw]; clear hw w8
    rw [H6.out]
    have tac0 := has_cell ta 0 rfl; have tac1 := has_cell ta 1 rfl; have tac2 := has_cell ta 2 rfl; have tac3 := has_cell ta 3 rfl; have tac4 := has_cell ta 4 rfl; have tac5 := has_cell ta 5 rfl; have tac6 := has_cell ta 6 rfl; have tac7 := has_cell ta 7 rfl
    have talt := has_lt ta
    have TAH := Lib.hid ta; clear ta
    have ZB := Lib.hid zb; clear zb
    go_wp2_with fail
    clear tac0 tac1 tac2 tac3 tac4 tac5 tac6 tac7 talt
    have ta := TAH.out; clear TAH
    have zb := ZB.out; clear ZB
    refine (in_any _ _ _ _).mono ?_
    rintro e w9 ⟨rfl, hw⟩
    rw [hw]; clear hw w9
    rw [H7.out]
    have tac0 := has_cell ta 0 rfl; have tac1 := has_cell ta 1 rfl; have tac2 := has_cell ta 2 rfl; have tac3 := has_cell ta 3 rfl; have tac4 := has_cell ta 4 rfl; have tac5 := has_cell ta 5 rfl; have tac6 := has_cell ta 6 rfl; have tac7 := has_cell ta 7 rfl
    have talt := has_lt ta
    have TAH := Lib.hid ta; clear ta
    have ZB := Lib.hid zb; clear zb
    go_wp2_with fail
    clear tac0 tac1 tac2 tac3 tac4 tac5 tac6 tac7 talt
    have ta := TAH.out; clear TAH
    have zb := ZB.out; clear ZB
    go_ret
    exact ⟨fbool (by simp [termsB, H0.out, H1.out, H2.out, H3.out, H4.out, H5.out, H6.out, H7.out]), zb⟩
  have H7 := Lib.hid h7; clear h7
  go_enter Tryz.func32, Tryz.ntmps32
  go_wp2_with fail
  generalize hX : (w.alloc (.cells #[.int .i64 t.keep, .int .i64 t.free, .int .i64 t.step, .int .i64 t.rate, .int .i64 t.cap, .int .i64 t.longer, .int .i64 t.price, .int .i64 t.most] 32)) = w1
  have hb : Below w.heap.size w w1 := by rw [← hX]; exact balloc _ _
  have hk : Has w1 w.heap.size 32 #[.int .i64 t.keep, .int .i64 t.free, .int .i64 t.step, .int .i64 t.rate, .int .i64 t.cap, .int .i64 t.longer, .int .i64 t.price, .int .i64 t.most] := by rw [← hX]; exact has_new _ _ _
  have hzw1 : w1.heap.size = w.heap.size + 1 := by rw [← hX]; simp
  clear hX
  have zb := hb; clear hb
  have ta := hk; clear hk
  clear hzw1
  have tac0 := has_cell ta 0 rfl; have tac1 := has_cell ta 1 rfl; have tac2 := has_cell ta 2 rfl; have tac3 := has_cell ta 3 rfl; have tac4 := has_cell ta 4 rfl; have tac5 := has_cell ta 5 rfl; have tac6 := has_cell ta 6 rfl; have tac7 := has_cell ta 7 rfl
  have talt := has_lt ta
  have TAH := Lib.hid ta; clear ta
  have ZB := Lib.hid zb; clear zb
  go_wp2_with fail
  clear tac0 tac1 tac2 tac3 tac4 tac5 tac6 tac7 talt
  have ta := TAH.out; clear TAH
  have zb := ZB.out; clear ZB
  refine (in_any _ _ _ _).mono ?_
  rintro e w2 ⟨rfl, hw⟩
  rw [hw]; clear hw w2
  rw [H0.out]
  have tac0 := has_cell ta 0 rfl; have tac1 := has_cell ta 1 rfl; have tac2 := has_cell ta 2 rfl; have tac3 := has_cell ta 3 rfl; have tac4 := has_cell ta 4 rfl; have tac5 := has_cell ta 5 rfl; have tac6 := has_cell ta 6 rfl; have tac7 := has_cell ta 7 rfl
  have talt := has_lt ta
  have TAH := Lib.hid ta; clear ta
  have ZB := Lib.hid zb; clear zb
  go_wp2_with fail
  clear tac0 tac1 tac2 tac3 tac4 tac5 tac6 tac7 talt
  have ta := TAH.out; clear TAH
  have zb := ZB.out; clear ZB
  refine (in_any _ _ _ _).mono ?_
  rintro e w3 ⟨rfl, hw⟩
  rw [hw]; clear hw w3
  rw [H1.out]
  have tac0 := has_cell ta 0 rfl; have tac1 := has_cell ta 1 rfl; have tac2 := has_cell ta 2 rfl; have tac3 := has_cell ta 3 rfl; have tac4 := has_cell ta 4 rfl; have tac5 := has_cell ta 5 rfl; have tac6 := has_cell ta 6 rfl; have tac7 := has_cell ta 7 rfl
  have talt := has_lt ta
  have TAH := Lib.hid ta; clear ta
  have ZB := Lib.hid zb; clear zb
  go_wp2_with fail
  clear tac0 tac1 tac2 tac3 tac4 tac5 tac6 tac7 talt
  have ta := TAH.out; clear TAH
  have zb := ZB.out; clear ZB
  refine (in_any _ _ _ _).mono ?_
  rintro e w4 ⟨rfl, hw⟩
  rw [hw]; clear hw w4
  rw [H2.out]
  have tac0 := has_cell ta 0 rfl; have tac1 := has_cell ta 1 rfl; have tac2 := has_cell ta 2 rfl; have tac3 := has_cell ta 3 rfl; have tac4 := has_cell ta 4 rfl; have tac5 := has_cell ta 5 rfl; have tac6 := has_cell ta 6 rfl; have tac7 := has_cell ta 7 rfl
  have talt := has_lt ta
  have TAH := Lib.hid ta; clear ta
  have ZB := Lib.hid zb; clear zb
  go_wp2_with fail
  clear tac0 tac1 tac2 tac3 tac4 tac5 tac6 tac7 talt
  have ta := TAH.out; clear TAH
  have zb := ZB.out; clear ZB
  refine (in_any _ _ _ _).mono ?_
  rintro e w5 ⟨rfl, hw⟩
  rw [hw]; clear hw w5
  rw [H3.out]
  have tac0 := has_cell ta 0 rfl; have tac1 := has_cell ta 1 rfl; have tac2 := has_cell ta 2 rfl; have tac3 := has_cell ta 3 rfl; have tac4 := has_cell ta 4 rfl; have tac5 := has_cell ta 5 rfl; have tac6 := has_cell ta 6 rfl; have tac7 := has_cell ta 7 rfl
  have talt := has_lt ta
  have TAH := Lib.hid ta; clear ta
  have ZB := Lib.hid zb; clear zb
  go_wp2_with fail
  clear tac0 tac1 tac2 tac3 tac4 tac5 tac6 tac7 talt
  have ta := TAH.out; clear TAH
  have zb := ZB.out; clear ZB
  refine (in_any _ _ _ _).mono ?_
  rintro e w6 ⟨rfl, hw⟩
  rw [hw]; clear hw w6
  rw [H4.out]
  have tac0 := has_cell ta 0 rfl; have tac1 := has_cell ta 1 rfl; have tac2 := has_cell ta 2 rfl; have tac3 := has_cell ta 3 rfl; have tac4 := has_cell ta 4 rfl; have tac5 := has_cell ta 5 rfl; have tac6 := has_cell ta 6 rfl; have tac7 := has_cell ta 7 rfl
  have talt := has_lt ta
  have TAH := Lib.hid ta; clear ta
  have ZB := Lib.hid zb; clear zb
  go_wp2_with fail
  clear tac0 tac1 tac2 tac3 tac4 tac5 tac6 tac7 talt
  have ta := TAH.out; clear TAH
  have zb := ZB.out; clear ZB
  refine (in_any _ _ _ _).mono ?_
  rintro e w7 ⟨rfl, hw⟩
  rw [hw]; clear hw w7
  rw [H5.out]
  have tac0 := has_cell ta 0 rfl; have tac1 := has_cell ta 1 rfl; have tac2 := has_cell ta 2 rfl; have tac3 := has_cell ta 3 rfl; have tac4 := has_cell ta 4 rfl; have tac5 := has_cell ta 5 rfl; have tac6 := has_cell ta 6 rfl; have tac7 := has_cell ta 7 rfl
  have talt := has_lt ta
  have TAH := Lib.hid ta; clear ta
  have ZB := Lib.hid zb; clear zb
  go_wp2_with fail
  clear tac0 tac1 tac2 tac3 tac4 tac5 tac6 tac7 talt
  have ta := TAH.out; clear TAH
  have zb := ZB.out; clear ZB
  refine (in_any _ _ _ _).mono ?_
  rintro e w8 ⟨rfl, hw⟩
  rw [hw]; clear hw w8
  rw [H6.out]
  have tac0 := has_cell ta 0 rfl; have tac1 := has_cell ta 1 rfl; have tac2 := has_cell ta 2 rfl; have tac3 := has_cell ta 3 rfl; have tac4 := has_cell ta 4 rfl; have tac5 := has_cell ta 5 rfl; have tac6 := has_cell ta 6 rfl; have tac7 := has_cell ta 7 rfl
  have talt := has_lt ta
  have TAH := Lib.hid ta; clear ta
  have ZB := Lib.hid zb; clear zb
  go_wp2_with fail
  clear tac0 tac1 tac2 tac3 tac4 tac5 tac6 tac7 talt
  have ta := TAH.out; clear TAH
  have zb := ZB.out; clear ZB
  refine (in_any _ _ _ _).mono ?_
  rintro e w9 ⟨rfl, hw⟩
  rw [hw]; clear hw w9
  rw [H7.out]
  have tac0 := has_cell ta 0 rfl; have tac1 := has_cell ta 1 rfl; have tac2 := has_cell ta 2 rfl; have tac3 := has_cell ta 3 rfl; have tac4 := has_cell ta 4 rfl; have tac5 := has_cell ta 5 rfl; have tac6 := has_cell ta 6 rfl; have tac7 := has_cell ta 7 rfl
  have talt := has_lt ta
  have TAH := Lib.hid ta; clear ta
  have ZB := Lib.hid zb; clear zb
  go_wp2_with fail
  clear tac0 tac1 tac2 tac3 tac4 tac5 tac6 tac7 talt
  have ta := TAH.out; clear TAH
  have zb := ZB.out; clear ZB
  go_ret
  exact ⟨fbool (by simp [termsB, H0.out, H1.out, H2.out, H3.out, H4.out, H5.out, H6.out, H7.out]), zb⟩
set_option maxHeartbeats 1000000 in
theorem isExt_any (w : World) (t : Tm) (e : Int) : Calls Tryz.prog 120 #[.agg #[.int .i64 t.keep, .int .i64 t.free, .int .i64 t.step, .int .i64 t.rate, .int .i64 t.cap, .int .i64 t.longer, .int .i64 t.price, .int .i64 t.most], .int .i64 e] w fun r w' => r = .returned (.bool (inB e 0 t.most)) ∧ Below w.heap.size w w' := by
  go_enter Tryz.func120, Tryz.ntmps120
  go_wp2
  all_goals (go_ret; exact ⟨fbool (by simp_all [inB] <;> omega), balloc _ _⟩)
set_option maxHeartbeats 1000000 in
theorem isSize_any (w : World) (z : Int) : Calls Tryz.prog 83 #[.int .i64 z] w fun r w' => r = .returned (.bool (inB z 1 24)) ∧ w' = w := by
  go_enter Tryz.func83, Tryz.ntmps83
  go_wp2
  all_goals (go_ret; exact ⟨fbool (by simp_all [inB] <;> omega), rfl⟩)
end Go.Proofs.YtjpkpfmpjgeeiaaGreat
