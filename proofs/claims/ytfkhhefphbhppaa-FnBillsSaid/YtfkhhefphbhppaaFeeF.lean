/- Chapter 6: contracts of BillOf, by the program and by the model (gen_feeb.py). -/
import Derived.Test.YtfkhhefphbhppaaFeeC
import Derived.Test.YtfkhhefphbhppaaFeeS
import Derived.Deep.RegionHeld3
import Derived.Deep.DeepMust
import Derived.WalkLawsBesides
namespace Go.Proofs.Ytfkhhefphbhppaa
open Go.RowKit
set_option linter.unusedVariables false
set_option maxRecDepth 100000 in
set_option maxHeartbeats 8000000 in
theorem billI_any (w : World) (B : Nat) (A A' : Option Addr) (n n' : Nat) (o c : List (Int × Int)) (t : Tm) (AF : Option Addr) (cF : Nat) (L : List St) (ho : o.length ≤ maxLen) (hc : c.length ≤ maxLen) (hB : B ≤ w.heap.size) (hS : SL w B A o) (hS' : SL w B A' c) (lL : L.length ≤ maxLen) (hL : stL w B AF L) : Calls Try.prog 8 #[.agg #[.slice A o.length n, .slice A' c.length n'], .agg #[.int .i64 t.keep, .int .i64 t.free, .int .i64 t.step, .int .i64 t.rate, .int .i64 t.cap, .int .i64 t.longer, .int .i64 t.price, .int .i64 t.most], .slice AF L.length cF] w fun r w' => r = .returned (pairV (billB o c t L)) ∧ Below w.heap.size w w' := by
  have HS := Lib.hid hS; clear hS
  have HS' := Lib.hid hS'; clear hS'
  have HL := Lib.hid hL; clear hL
  have hML : L.length ≤ maxLen := lL
  have NL := Lib.hid lL; clear lL
  unfold maxLen at hML
  cases h0 : weekB o c
  · have H0 := Lib.hid h0; clear h0
    go_enter Try.func8, Try.ntmps8
    go_wp2_with fail
    generalize hX : (w.alloc (.cells #[.slice A o.length n, .slice A' c.length n'] 26)) = w1
    have hb : Below w.heap.size w w1 := by rw [← hX]; exact balloc _ _
    have hk : Has w1 w.heap.size 26 #[.slice A o.length n, .slice A' c.length n'] := by rw [← hX]; exact has_new _ _ _
    have hzw1 : w1.heap.size = w.heap.size + 1 := by rw [← hX]; simp
    clear hX
    have zb := hb; clear hb
    have wa := hk; clear hk
    generalize hX : (w1.alloc (.cells #[.int .i64 t.keep, .int .i64 t.free, .int .i64 t.step, .int .i64 t.rate, .int .i64 t.cap, .int .i64 t.longer, .int .i64 t.price, .int .i64 t.most] 35)) = w2
    have hb : Below w1.heap.size w1 w2 := by rw [← hX]; exact balloc _ _
    have hk : Has w2 w1.heap.size 35 #[.int .i64 t.keep, .int .i64 t.free, .int .i64 t.step, .int .i64 t.rate, .int .i64 t.cap, .int .i64 t.longer, .int .i64 t.price, .int .i64 t.most] := by rw [← hX]; exact has_new _ _ _
    have hzw2 : w2.heap.size = w.heap.size + 2 := by rw [← hX]; simp [hzw1]
    clear hX
    rw [hzw1] at hk
    replace wa := has_call wa hb
    replace zb := bthen zb hb; clear hb
    have ta := hk; clear hk
    clear hzw1 hzw2
    have wac0 := has_cell wa 0 rfl; have wac1 := has_cell wa 1 rfl
    have walt := has_lt wa
    have tac0 := has_cell ta 0 rfl; have tac1 := has_cell ta 1 rfl; have tac2 := has_cell ta 2 rfl; have tac3 := has_cell ta 3 rfl; have tac4 := has_cell ta 4 rfl; have tac5 := has_cell ta 5 rfl; have tac6 := has_cell ta 6 rfl; have tac7 := has_cell ta 7 rfl
    have talt := has_lt ta
    have WAH := Lib.hid wa; clear wa
    have TAH := Lib.hid ta; clear ta
    have ZB := Lib.hid zb; clear zb
    go_wp2_with fail
    clear wac0 wac1 walt tac0 tac1 tac2 tac3 tac4 tac5 tac6 tac7 talt
    have wa := WAH.out; clear WAH
    have ta := TAH.out; clear TAH
    have zb := ZB.out; clear ZB
    refine (weekI_any _ B A A' n n' o c ho hc (by have := zb.size; omega) (HS.out.later hB zb) (HS'.out.later hB zb)).mono ?_
    rintro e w3 ⟨rfl, hb⟩
    rw [H0.out]
    replace wa := has_call wa hb
    replace ta := has_call ta hb
    replace zb := bthen zb hb; clear hb
    have wac0 := has_cell wa 0 rfl; have wac1 := has_cell wa 1 rfl
    have walt := has_lt wa
    have tac0 := has_cell ta 0 rfl; have tac1 := has_cell ta 1 rfl; have tac2 := has_cell ta 2 rfl; have tac3 := has_cell ta 3 rfl; have tac4 := has_cell ta 4 rfl; have tac5 := has_cell ta 5 rfl; have tac6 := has_cell ta 6 rfl; have tac7 := has_cell ta 7 rfl
    have talt := has_lt ta
    have WAH := Lib.hid wa; clear wa
    have TAH := Lib.hid ta; clear ta
    have ZB := Lib.hid zb; clear zb
    go_wp2_with fail
    clear wac0 wac1 walt tac0 tac1 tac2 tac3 tac4 tac5 tac6 tac7 talt
    have wa := WAH.out; clear WAH
    have ta := TAH.out; clear TAH
    have zb := ZB.out; clear ZB
    go_ret2
    exact ⟨ret_none (by rw [billB, if_neg (fun hx => by have := H0.out; rw [hx.1] at this; cases this)]), zb⟩
  have H0 := Lib.hid h0; clear h0
  cases h1 : termsB t
  · have H1 := Lib.hid h1; clear h1
    go_enter Try.func8, Try.ntmps8
    go_wp2_with fail
    generalize hX : (w.alloc (.cells #[.slice A o.length n, .slice A' c.length n'] 26)) = w1
    have hb : Below w.heap.size w w1 := by rw [← hX]; exact balloc _ _
    have hk : Has w1 w.heap.size 26 #[.slice A o.length n, .slice A' c.length n'] := by rw [← hX]; exact has_new _ _ _
    have hzw1 : w1.heap.size = w.heap.size + 1 := by rw [← hX]; simp
    clear hX
    have zb := hb; clear hb
    have wa := hk; clear hk
    generalize hX : (w1.alloc (.cells #[.int .i64 t.keep, .int .i64 t.free, .int .i64 t.step, .int .i64 t.rate, .int .i64 t.cap, .int .i64 t.longer, .int .i64 t.price, .int .i64 t.most] 35)) = w2
    have hb : Below w1.heap.size w1 w2 := by rw [← hX]; exact balloc _ _
    have hk : Has w2 w1.heap.size 35 #[.int .i64 t.keep, .int .i64 t.free, .int .i64 t.step, .int .i64 t.rate, .int .i64 t.cap, .int .i64 t.longer, .int .i64 t.price, .int .i64 t.most] := by rw [← hX]; exact has_new _ _ _
    have hzw2 : w2.heap.size = w.heap.size + 2 := by rw [← hX]; simp [hzw1]
    clear hX
    rw [hzw1] at hk
    replace wa := has_call wa hb
    replace zb := bthen zb hb; clear hb
    have ta := hk; clear hk
    clear hzw1 hzw2
    have wac0 := has_cell wa 0 rfl; have wac1 := has_cell wa 1 rfl
    have walt := has_lt wa
    have tac0 := has_cell ta 0 rfl; have tac1 := has_cell ta 1 rfl; have tac2 := has_cell ta 2 rfl; have tac3 := has_cell ta 3 rfl; have tac4 := has_cell ta 4 rfl; have tac5 := has_cell ta 5 rfl; have tac6 := has_cell ta 6 rfl; have tac7 := has_cell ta 7 rfl
    have talt := has_lt ta
    have WAH := Lib.hid wa; clear wa
    have TAH := Lib.hid ta; clear ta
    have ZB := Lib.hid zb; clear zb
    go_wp2_with fail
    clear wac0 wac1 walt tac0 tac1 tac2 tac3 tac4 tac5 tac6 tac7 talt
    have wa := WAH.out; clear WAH
    have ta := TAH.out; clear TAH
    have zb := ZB.out; clear ZB
    refine (weekI_any _ B A A' n n' o c ho hc (by have := zb.size; omega) (HS.out.later hB zb) (HS'.out.later hB zb)).mono ?_
    rintro e w3 ⟨rfl, hb⟩
    rw [H0.out]
    replace wa := has_call wa hb
    replace ta := has_call ta hb
    replace zb := bthen zb hb; clear hb
    have wac0 := has_cell wa 0 rfl; have wac1 := has_cell wa 1 rfl
    have walt := has_lt wa
    have tac0 := has_cell ta 0 rfl; have tac1 := has_cell ta 1 rfl; have tac2 := has_cell ta 2 rfl; have tac3 := has_cell ta 3 rfl; have tac4 := has_cell ta 4 rfl; have tac5 := has_cell ta 5 rfl; have tac6 := has_cell ta 6 rfl; have tac7 := has_cell ta 7 rfl
    have talt := has_lt ta
    have WAH := Lib.hid wa; clear wa
    have TAH := Lib.hid ta; clear ta
    have ZB := Lib.hid zb; clear zb
    go_wp2_with fail
    clear wac0 wac1 walt tac0 tac1 tac2 tac3 tac4 tac5 tac6 tac7 talt
    have wa := WAH.out; clear WAH
    have ta := TAH.out; clear TAH
    have zb := ZB.out; clear ZB
    refine (termsI_any _ t).mono ?_
    rintro e w4 ⟨rfl, hb⟩
    rw [H1.out]
    replace wa := has_call wa hb
    replace ta := has_call ta hb
    replace zb := bthen zb hb; clear hb
    have wac0 := has_cell wa 0 rfl; have wac1 := has_cell wa 1 rfl
    have walt := has_lt wa
    have tac0 := has_cell ta 0 rfl; have tac1 := has_cell ta 1 rfl; have tac2 := has_cell ta 2 rfl; have tac3 := has_cell ta 3 rfl; have tac4 := has_cell ta 4 rfl; have tac5 := has_cell ta 5 rfl; have tac6 := has_cell ta 6 rfl; have tac7 := has_cell ta 7 rfl
    have talt := has_lt ta
    have WAH := Lib.hid wa; clear wa
    have TAH := Lib.hid ta; clear ta
    have ZB := Lib.hid zb; clear zb
    go_wp2_with fail
    clear wac0 wac1 walt tac0 tac1 tac2 tac3 tac4 tac5 tac6 tac7 talt
    have wa := WAH.out; clear WAH
    have ta := TAH.out; clear TAH
    have zb := ZB.out; clear ZB
    go_ret2
    exact ⟨ret_none (by rw [billB, if_neg (fun hx => by have := H1.out; rw [hx.2.1] at this; cases this)]), zb⟩
  have H1 := Lib.hid h1; clear h1
  by_cases h2 : (20 : Int) < L.length
  · skip
    go_enter Try.func8, Try.ntmps8
    go_wp2_with fail
    generalize hX : (w.alloc (.cells #[.slice A o.length n, .slice A' c.length n'] 26)) = w1
    have hb : Below w.heap.size w w1 := by rw [← hX]; exact balloc _ _
    have hk : Has w1 w.heap.size 26 #[.slice A o.length n, .slice A' c.length n'] := by rw [← hX]; exact has_new _ _ _
    have hzw1 : w1.heap.size = w.heap.size + 1 := by rw [← hX]; simp
    clear hX
    have zb := hb; clear hb
    have wa := hk; clear hk
    generalize hX : (w1.alloc (.cells #[.int .i64 t.keep, .int .i64 t.free, .int .i64 t.step, .int .i64 t.rate, .int .i64 t.cap, .int .i64 t.longer, .int .i64 t.price, .int .i64 t.most] 35)) = w2
    have hb : Below w1.heap.size w1 w2 := by rw [← hX]; exact balloc _ _
    have hk : Has w2 w1.heap.size 35 #[.int .i64 t.keep, .int .i64 t.free, .int .i64 t.step, .int .i64 t.rate, .int .i64 t.cap, .int .i64 t.longer, .int .i64 t.price, .int .i64 t.most] := by rw [← hX]; exact has_new _ _ _
    have hzw2 : w2.heap.size = w.heap.size + 2 := by rw [← hX]; simp [hzw1]
    clear hX
    rw [hzw1] at hk
    replace wa := has_call wa hb
    replace zb := bthen zb hb; clear hb
    have ta := hk; clear hk
    clear hzw1 hzw2
    have wac0 := has_cell wa 0 rfl; have wac1 := has_cell wa 1 rfl
    have walt := has_lt wa
    have tac0 := has_cell ta 0 rfl; have tac1 := has_cell ta 1 rfl; have tac2 := has_cell ta 2 rfl; have tac3 := has_cell ta 3 rfl; have tac4 := has_cell ta 4 rfl; have tac5 := has_cell ta 5 rfl; have tac6 := has_cell ta 6 rfl; have tac7 := has_cell ta 7 rfl
    have talt := has_lt ta
    have WAH := Lib.hid wa; clear wa
    have TAH := Lib.hid ta; clear ta
    have ZB := Lib.hid zb; clear zb
    go_wp2_with fail
    clear wac0 wac1 walt tac0 tac1 tac2 tac3 tac4 tac5 tac6 tac7 talt
    have wa := WAH.out; clear WAH
    have ta := TAH.out; clear TAH
    have zb := ZB.out; clear ZB
    refine (weekI_any _ B A A' n n' o c ho hc (by have := zb.size; omega) (HS.out.later hB zb) (HS'.out.later hB zb)).mono ?_
    rintro e w3 ⟨rfl, hb⟩
    rw [H0.out]
    replace wa := has_call wa hb
    replace ta := has_call ta hb
    replace zb := bthen zb hb; clear hb
    have wac0 := has_cell wa 0 rfl; have wac1 := has_cell wa 1 rfl
    have walt := has_lt wa
    have tac0 := has_cell ta 0 rfl; have tac1 := has_cell ta 1 rfl; have tac2 := has_cell ta 2 rfl; have tac3 := has_cell ta 3 rfl; have tac4 := has_cell ta 4 rfl; have tac5 := has_cell ta 5 rfl; have tac6 := has_cell ta 6 rfl; have tac7 := has_cell ta 7 rfl
    have talt := has_lt ta
    have WAH := Lib.hid wa; clear wa
    have TAH := Lib.hid ta; clear ta
    have ZB := Lib.hid zb; clear zb
    go_wp2_with fail
    clear wac0 wac1 walt tac0 tac1 tac2 tac3 tac4 tac5 tac6 tac7 talt
    have wa := WAH.out; clear WAH
    have ta := TAH.out; clear TAH
    have zb := ZB.out; clear ZB
    refine (termsI_any _ t).mono ?_
    rintro e w4 ⟨rfl, hb⟩
    rw [H1.out]
    replace wa := has_call wa hb
    replace ta := has_call ta hb
    replace zb := bthen zb hb; clear hb
    have wac0 := has_cell wa 0 rfl; have wac1 := has_cell wa 1 rfl
    have walt := has_lt wa
    have tac0 := has_cell ta 0 rfl; have tac1 := has_cell ta 1 rfl; have tac2 := has_cell ta 2 rfl; have tac3 := has_cell ta 3 rfl; have tac4 := has_cell ta 4 rfl; have tac5 := has_cell ta 5 rfl; have tac6 := has_cell ta 6 rfl; have tac7 := has_cell ta 7 rfl
    have talt := has_lt ta
    have WAH := Lib.hid wa; clear wa
    have TAH := Lib.hid ta; clear ta
    have ZB := Lib.hid zb; clear zb
    go_wp2_with fail
    clear wac0 wac1 walt tac0 tac1 tac2 tac3 tac4 tac5 tac6 tac7 talt
    have wa := WAH.out; clear WAH
    have ta := TAH.out; clear TAH
    have zb := ZB.out; clear ZB
    go_ret2
    exact ⟨ret_none (by rw [billB, if_neg (fun hx => by have := hx.2.2; omega)]), zb⟩
  have hbl := Lib.hid (show billB o c t L = sumB o c t L 0 by rw [billB, if_pos ⟨H0.out, H1.out, by omega⟩])
  go_enter Try.func8, Try.ntmps8
  go_wp2_with fail
  generalize hX : (w.alloc (.cells #[.slice A o.length n, .slice A' c.length n'] 26)) = w1
  have hb : Below w.heap.size w w1 := by rw [← hX]; exact balloc _ _
  have hk : Has w1 w.heap.size 26 #[.slice A o.length n, .slice A' c.length n'] := by rw [← hX]; exact has_new _ _ _
  have hzw1 : w1.heap.size = w.heap.size + 1 := by rw [← hX]; simp
  clear hX
  have zb := hb; clear hb
  have wa := hk; clear hk
  generalize hX : (w1.alloc (.cells #[.int .i64 t.keep, .int .i64 t.free, .int .i64 t.step, .int .i64 t.rate, .int .i64 t.cap, .int .i64 t.longer, .int .i64 t.price, .int .i64 t.most] 35)) = w2
  have hb : Below w1.heap.size w1 w2 := by rw [← hX]; exact balloc _ _
  have hk : Has w2 w1.heap.size 35 #[.int .i64 t.keep, .int .i64 t.free, .int .i64 t.step, .int .i64 t.rate, .int .i64 t.cap, .int .i64 t.longer, .int .i64 t.price, .int .i64 t.most] := by rw [← hX]; exact has_new _ _ _
  have hzw2 : w2.heap.size = w.heap.size + 2 := by rw [← hX]; simp [hzw1]
  clear hX
  rw [hzw1] at hk
  replace wa := has_call wa hb
  replace zb := bthen zb hb; clear hb
  have ta := hk; clear hk
  clear hzw1 hzw2
  have wac0 := has_cell wa 0 rfl; have wac1 := has_cell wa 1 rfl
  have walt := has_lt wa
  have tac0 := has_cell ta 0 rfl; have tac1 := has_cell ta 1 rfl; have tac2 := has_cell ta 2 rfl; have tac3 := has_cell ta 3 rfl; have tac4 := has_cell ta 4 rfl; have tac5 := has_cell ta 5 rfl; have tac6 := has_cell ta 6 rfl; have tac7 := has_cell ta 7 rfl
  have talt := has_lt ta
  have WAH := Lib.hid wa; clear wa
  have TAH := Lib.hid ta; clear ta
  have ZB := Lib.hid zb; clear zb
  go_wp2_with fail
  clear wac0 wac1 walt tac0 tac1 tac2 tac3 tac4 tac5 tac6 tac7 talt
  have wa := WAH.out; clear WAH
  have ta := TAH.out; clear TAH
  have zb := ZB.out; clear ZB
  refine (weekI_any _ B A A' n n' o c ho hc (by have := zb.size; omega) (HS.out.later hB zb) (HS'.out.later hB zb)).mono ?_
  rintro e w3 ⟨rfl, hb⟩
  rw [H0.out]
  replace wa := has_call wa hb
  replace ta := has_call ta hb
  replace zb := bthen zb hb; clear hb
  have wac0 := has_cell wa 0 rfl; have wac1 := has_cell wa 1 rfl
  have walt := has_lt wa
  have tac0 := has_cell ta 0 rfl; have tac1 := has_cell ta 1 rfl; have tac2 := has_cell ta 2 rfl; have tac3 := has_cell ta 3 rfl; have tac4 := has_cell ta 4 rfl; have tac5 := has_cell ta 5 rfl; have tac6 := has_cell ta 6 rfl; have tac7 := has_cell ta 7 rfl
  have talt := has_lt ta
  have WAH := Lib.hid wa; clear wa
  have TAH := Lib.hid ta; clear ta
  have ZB := Lib.hid zb; clear zb
  go_wp2_with fail
  clear wac0 wac1 walt tac0 tac1 tac2 tac3 tac4 tac5 tac6 tac7 talt
  have wa := WAH.out; clear WAH
  have ta := TAH.out; clear TAH
  have zb := ZB.out; clear ZB
  refine (termsI_any _ t).mono ?_
  rintro e w4 ⟨rfl, hb⟩
  rw [H1.out]
  replace wa := has_call wa hb
  replace ta := has_call ta hb
  replace zb := bthen zb hb; clear hb
  have wac0 := has_cell wa 0 rfl; have wac1 := has_cell wa 1 rfl
  have walt := has_lt wa
  have tac0 := has_cell ta 0 rfl; have tac1 := has_cell ta 1 rfl; have tac2 := has_cell ta 2 rfl; have tac3 := has_cell ta 3 rfl; have tac4 := has_cell ta 4 rfl; have tac5 := has_cell ta 5 rfl; have tac6 := has_cell ta 6 rfl; have tac7 := has_cell ta 7 rfl
  have talt := has_lt ta
  have WAH := Lib.hid wa; clear wa
  have TAH := Lib.hid ta; clear ta
  have ZB := Lib.hid zb; clear zb
  go_wp2_with fail
  clear wac0 wac1 walt tac0 tac1 tac2 tac3 tac4 tac5 tac6 tac7 talt
  have wa := WAH.out; clear WAH
  have ta := TAH.out; clear TAH
  have zb := ZB.out; clear ZB
  have WA0 := Lib.hid wa; clear wa
  have TA0 := Lib.hid ta; clear ta
  have ZB0 := Lib.hid zb; clear zb
  go_loopw [8, 27] (fun u i wr => ∃ (k : Nat) (s : Int), k ≤ L.length ∧ i = .int .i64 k ∧ u = .int .i64 s ∧ 0 ≤ s ∧ s ≤ 3000000 * k ∧ sumB o c t (L.drop k) s = billB o c t L ∧ Below w4.heap.size w4 wr) (fun _ i _ => L.length - (intOf i).toNat)
  case atStart => exact ⟨0, 0, Nat.zero_le _, rfl, rfl, by omega, by omega, by rw [hbl.out]; rfl, Below.refl _ _⟩
  case round =>
    obtain ⟨k, s, hk, rfl, rfl, hs0, hs1, hr, hb⟩ := hrel
    have Hr := Lib.hid hr; clear hr
    by_cases hlt : k < L.length
    rotate_left
    · have Hv := Lib.hid (Hr.out.symm.trans (sum_end (by omega) s))
      have wa := has_call WA0.out hb
      have ta := has_call TA0.out hb
      have zb := bthen ZB0.out hb
      have hbr := hb; clear hb
      have wac0 := has_cell wa 0 rfl; have wac1 := has_cell wa 1 rfl
      have walt := has_lt wa
      have tac0 := has_cell ta 0 rfl; have tac1 := has_cell ta 1 rfl; have tac2 := has_cell ta 2 rfl; have tac3 := has_cell ta 3 rfl; have tac4 := has_cell ta 4 rfl; have tac5 := has_cell ta 5 rfl; have tac6 := has_cell ta 6 rfl; have tac7 := has_cell ta 7 rfl
      have talt := has_lt ta
      have WAH := Lib.hid wa; clear wa
      have TAH := Lib.hid ta; clear ta
      have ZB := Lib.hid zb; clear zb
      go_wp2_with fail
      clear wac0 wac1 walt tac0 tac1 tac2 tac3 tac4 tac5 tac6 tac7 talt
      have wa := WAH.out; clear WAH
      have ta := TAH.out; clear TAH
      have zb := ZB.out; clear ZB
      go_ret2
      exact ⟨ret_some Hv.out, zb⟩
    obtain ⟨bb, off, ⟨x0, x1, x2, x3⟩, rfl, hbB, hx, hc0, hc1, hc2, hc3⟩ := (HL.out.later hB (bthen ZB0.out hb)).at_ hlt
    dsimp only at hc0 hc1 hc2 hc3
    rcases fee_range o c t x0 x1 x2 x3 with ⟨hok, hf0, hf1⟩ | ⟨hok, hf⟩
    · skip
      obtain ⟨v, hv⟩ : ∃ v, feeB o c t x0 x1 x2 x3 = v := ⟨_, rfl⟩
      rw [hv] at hf0 hf1
      have Hv := Lib.hid (show sumB o c t (L.drop (k + 1)) (s + v) = billB o c t L from ((sum_yes hx s (by dsimp only; omega)).symm.trans Hr.out |> fun hh => by dsimp only at hh; rw [hv] at hh; exact hh))
      have HF := Lib.hid hv; clear hv hok hx
      have hve : (v == -1) = false := by simp; omega
      have wa := has_call WA0.out hb
      have ta := has_call TA0.out hb
      have zb := bthen ZB0.out hb
      have hbr := hb; clear hb
      have wac0 := has_cell wa 0 rfl; have wac1 := has_cell wa 1 rfl
      have walt := has_lt wa
      have tac0 := has_cell ta 0 rfl; have tac1 := has_cell ta 1 rfl; have tac2 := has_cell ta 2 rfl; have tac3 := has_cell ta 3 rfl; have tac4 := has_cell ta 4 rfl; have tac5 := has_cell ta 5 rfl; have tac6 := has_cell ta 6 rfl; have tac7 := has_cell ta 7 rfl
      have talt := has_lt ta
      have WAH := Lib.hid wa; clear wa
      have TAH := Lib.hid ta; clear ta
      have ZB := Lib.hid zb; clear zb
      go_wp2_with fail
      clear wac0 wac1 walt tac0 tac1 tac2 tac3 tac4 tac5 tac6 tac7 talt
      have wa := WAH.out; clear WAH
      have ta := TAH.out; clear TAH
      have zb := ZB.out; clear ZB
      generalize hX : (wr.alloc (.cells #[.int .i64 x0, .int .i64 x1, .int .i64 x2, .int .i64 x3] 38)) = w101
      have hb : Below wr.heap.size wr w101 := by rw [← hX]; exact balloc _ _
      have hk : Has w101 wr.heap.size 38 #[.int .i64 x0, .int .i64 x1, .int .i64 x2, .int .i64 x3] := by rw [← hX]; exact has_new _ _ _
      clear hX
      replace hbr := bthen hbr hb
      replace wa := has_call wa hb
      replace ta := has_call ta hb
      replace zb := bthen zb hb; clear hb
      have sa := hk; clear hk
      have wac0 := has_cell wa 0 rfl; have wac1 := has_cell wa 1 rfl
      have walt := has_lt wa
      have tac0 := has_cell ta 0 rfl; have tac1 := has_cell ta 1 rfl; have tac2 := has_cell ta 2 rfl; have tac3 := has_cell ta 3 rfl; have tac4 := has_cell ta 4 rfl; have tac5 := has_cell ta 5 rfl; have tac6 := has_cell ta 6 rfl; have tac7 := has_cell ta 7 rfl
      have talt := has_lt ta
      have sac0 := has_cell sa 0 rfl; have sac1 := has_cell sa 1 rfl; have sac2 := has_cell sa 2 rfl; have sac3 := has_cell sa 3 rfl
      have salt := has_lt sa
      have WAH := Lib.hid wa; clear wa
      have TAH := Lib.hid ta; clear ta
      have SAH := Lib.hid sa; clear sa
      have ZB := Lib.hid zb; clear zb
      go_wp2_with fail
      clear wac0 wac1 walt tac0 tac1 tac2 tac3 tac4 tac5 tac6 tac7 talt sac0 sac1 sac2 sac3 salt
      have wa := WAH.out; clear WAH
      have ta := TAH.out; clear TAH
      have sa := SAH.out; clear SAH
      have zb := ZB.out; clear ZB
      refine (feeI_any _ B A A' n n' o c t x0 x1 x2 x3 ho hc (by have := zb.size; omega) (HS.out.later hB zb) (HS'.out.later hB zb)).mono ?_
      rintro e w102 ⟨rfl, hb⟩
      rw [HF.out]
      replace hbr := bthen hbr hb
      replace wa := has_call wa hb
      replace ta := has_call ta hb
      replace sa := has_call sa hb
      replace zb := bthen zb hb; clear hb
      have wac0 := has_cell wa 0 rfl; have wac1 := has_cell wa 1 rfl
      have walt := has_lt wa
      have tac0 := has_cell ta 0 rfl; have tac1 := has_cell ta 1 rfl; have tac2 := has_cell ta 2 rfl; have tac3 := has_cell ta 3 rfl; have tac4 := has_cell ta 4 rfl; have tac5 := has_cell ta 5 rfl; have tac6 := has_cell ta 6 rfl; have tac7 := has_cell ta 7 rfl
      have talt := has_lt ta
      have sac0 := has_cell sa 0 rfl; have sac1 := has_cell sa 1 rfl; have sac2 := has_cell sa 2 rfl; have sac3 := has_cell sa 3 rfl
      have salt := has_lt sa
      have WAH := Lib.hid wa; clear wa
      have TAH := Lib.hid ta; clear ta
      have SAH := Lib.hid sa; clear sa
      have ZB := Lib.hid zb; clear zb
      go_wp2_with fail
      clear wac0 wac1 walt tac0 tac1 tac2 tac3 tac4 tac5 tac6 tac7 talt sac0 sac1 sac2 sac3 salt
      have wa := WAH.out; clear WAH
      have ta := TAH.out; clear TAH
      have sa := SAH.out; clear SAH
      have zb := ZB.out; clear ZB
      go_roundw
      case rel => exact ⟨k + 1, s + v, by omega, by go_num, rfl, by omega, by omega, Hv.out, hbr⟩
      case measure => simp [intOf]; omega
    · skip
      have Hv := Lib.hid (Hr.out.symm.trans (sum_no hx s hf))
      have HF := Lib.hid hf; clear hf hok hx
      have wa := has_call WA0.out hb
      have ta := has_call TA0.out hb
      have zb := bthen ZB0.out hb
      have hbr := hb; clear hb
      have wac0 := has_cell wa 0 rfl; have wac1 := has_cell wa 1 rfl
      have walt := has_lt wa
      have tac0 := has_cell ta 0 rfl; have tac1 := has_cell ta 1 rfl; have tac2 := has_cell ta 2 rfl; have tac3 := has_cell ta 3 rfl; have tac4 := has_cell ta 4 rfl; have tac5 := has_cell ta 5 rfl; have tac6 := has_cell ta 6 rfl; have tac7 := has_cell ta 7 rfl
      have talt := has_lt ta
      have WAH := Lib.hid wa; clear wa
      have TAH := Lib.hid ta; clear ta
      have ZB := Lib.hid zb; clear zb
      go_wp2_with fail
      clear wac0 wac1 walt tac0 tac1 tac2 tac3 tac4 tac5 tac6 tac7 talt
      have wa := WAH.out; clear WAH
      have ta := TAH.out; clear TAH
      have zb := ZB.out; clear ZB
      generalize hX : (wr.alloc (.cells #[.int .i64 x0, .int .i64 x1, .int .i64 x2, .int .i64 x3] 38)) = w101
      have hb : Below wr.heap.size wr w101 := by rw [← hX]; exact balloc _ _
      have hk : Has w101 wr.heap.size 38 #[.int .i64 x0, .int .i64 x1, .int .i64 x2, .int .i64 x3] := by rw [← hX]; exact has_new _ _ _
      clear hX
      replace hbr := bthen hbr hb
      replace wa := has_call wa hb
      replace ta := has_call ta hb
      replace zb := bthen zb hb; clear hb
      have sa := hk; clear hk
      have wac0 := has_cell wa 0 rfl; have wac1 := has_cell wa 1 rfl
      have walt := has_lt wa
      have tac0 := has_cell ta 0 rfl; have tac1 := has_cell ta 1 rfl; have tac2 := has_cell ta 2 rfl; have tac3 := has_cell ta 3 rfl; have tac4 := has_cell ta 4 rfl; have tac5 := has_cell ta 5 rfl; have tac6 := has_cell ta 6 rfl; have tac7 := has_cell ta 7 rfl
      have talt := has_lt ta
      have sac0 := has_cell sa 0 rfl; have sac1 := has_cell sa 1 rfl; have sac2 := has_cell sa 2 rfl; have sac3 := has_cell sa 3 rfl
      have salt := has_lt sa
      have WAH := Lib.hid wa; clear wa
      have TAH := Lib.hid ta; clear ta
      have SAH := Lib.hid sa; clear sa
      have ZB := Lib.hid zb; clear zb
      go_wp2_with fail
      clear wac0 wac1 walt tac0 tac1 tac2 tac3 tac4 tac5 tac6 tac7 talt sac0 sac1 sac2 sac3 salt
      have wa := WAH.out; clear WAH
      have ta := TAH.out; clear TAH
      have sa := SAH.out; clear SAH
      have zb := ZB.out; clear ZB
      refine (feeI_any _ B A A' n n' o c t x0 x1 x2 x3 ho hc (by have := zb.size; omega) (HS.out.later hB zb) (HS'.out.later hB zb)).mono ?_
      rintro e w102 ⟨rfl, hb⟩
      rw [HF.out]
      replace hbr := bthen hbr hb
      replace wa := has_call wa hb
      replace ta := has_call ta hb
      replace sa := has_call sa hb
      replace zb := bthen zb hb; clear hb
      have wac0 := has_cell wa 0 rfl; have wac1 := has_cell wa 1 rfl
      have walt := has_lt wa
      have tac0 := has_cell ta 0 rfl; have tac1 := has_cell ta 1 rfl; have tac2 := has_cell ta 2 rfl; have tac3 := has_cell ta 3 rfl; have tac4 := has_cell ta 4 rfl; have tac5 := has_cell ta 5 rfl; have tac6 := has_cell ta 6 rfl; have tac7 := has_cell ta 7 rfl
      have talt := has_lt ta
      have sac0 := has_cell sa 0 rfl; have sac1 := has_cell sa 1 rfl; have sac2 := has_cell sa 2 rfl; have sac3 := has_cell sa 3 rfl
      have salt := has_lt sa
      have WAH := Lib.hid wa; clear wa
      have TAH := Lib.hid ta; clear ta
      have SAH := Lib.hid sa; clear sa
      have ZB := Lib.hid zb; clear zb
      go_wp2_with fail
      clear wac0 wac1 walt tac0 tac1 tac2 tac3 tac4 tac5 tac6 tac7 talt sac0 sac1 sac2 sac3 salt
      have wa := WAH.out; clear WAH
      have ta := TAH.out; clear TAH
      have sa := SAH.out; clear SAH
      have zb := ZB.out; clear ZB
      go_ret2
      exact ⟨ret_none Hv.out, zb⟩
set_option maxRecDepth 100000 in
set_option maxHeartbeats 8000000 in
theorem billS_any (w : World) (B : Nat) (A A' : Option Addr) (n n' : Nat) (o c : List (Int × Int)) (t : Tm) (AF : Option Addr) (cF : Nat) (L : List St) (ho : o.length ≤ maxLen) (hc : c.length ≤ maxLen) (hB : B ≤ w.heap.size) (hS : SL w B A o) (hS' : SL w B A' c) (lL : L.length ≤ maxLen) (hL : stL w B AF L) : Calls Try.prog 9 #[.agg #[.slice A o.length n, .slice A' c.length n'], .agg #[.int .i64 t.keep, .int .i64 t.free, .int .i64 t.step, .int .i64 t.rate, .int .i64 t.cap, .int .i64 t.longer, .int .i64 t.price, .int .i64 t.most], .slice AF L.length cF] w fun r w' => r = .returned (pairV (billB o c t L)) ∧ Below w.heap.size w w' := by
  have HS := Lib.hid hS; clear hS
  have HS' := Lib.hid hS'; clear hS'
  have HL := Lib.hid hL; clear hL
  have hML : L.length ≤ maxLen := lL
  have NL := Lib.hid lL; clear lL
  unfold maxLen at hML
  cases h0 : weekB o c
  · have H0 := Lib.hid h0; clear h0
    go_enter Try.func9, Try.ntmps9
    go_wp2_with fail
    generalize hX : (w.alloc (.cells #[.slice A o.length n, .slice A' c.length n'] 26)) = w1
    have hb : Below w.heap.size w w1 := by rw [← hX]; exact balloc _ _
    have hk : Has w1 w.heap.size 26 #[.slice A o.length n, .slice A' c.length n'] := by rw [← hX]; exact has_new _ _ _
    have hzw1 : w1.heap.size = w.heap.size + 1 := by rw [← hX]; simp
    clear hX
    have zb := hb; clear hb
    have wa := hk; clear hk
    generalize hX : (w1.alloc (.cells #[.int .i64 t.keep, .int .i64 t.free, .int .i64 t.step, .int .i64 t.rate, .int .i64 t.cap, .int .i64 t.longer, .int .i64 t.price, .int .i64 t.most] 35)) = w2
    have hb : Below w1.heap.size w1 w2 := by rw [← hX]; exact balloc _ _
    have hk : Has w2 w1.heap.size 35 #[.int .i64 t.keep, .int .i64 t.free, .int .i64 t.step, .int .i64 t.rate, .int .i64 t.cap, .int .i64 t.longer, .int .i64 t.price, .int .i64 t.most] := by rw [← hX]; exact has_new _ _ _
    have hzw2 : w2.heap.size = w.heap.size + 2 := by rw [← hX]; simp [hzw1]
    clear hX
    rw [hzw1] at hk
    replace wa := has_call wa hb
    replace zb := bthen zb hb; clear hb
    have ta := hk; clear hk
    clear hzw1 hzw2
    have wac0 := has_cell wa 0 rfl; have wac1 := has_cell wa 1 rfl
    have walt := has_lt wa
    have tac0 := has_cell ta 0 rfl; have tac1 := has_cell ta 1 rfl; have tac2 := has_cell ta 2 rfl; have tac3 := has_cell ta 3 rfl; have tac4 := has_cell ta 4 rfl; have tac5 := has_cell ta 5 rfl; have tac6 := has_cell ta 6 rfl; have tac7 := has_cell ta 7 rfl
    have talt := has_lt ta
    have WAH := Lib.hid wa; clear wa
    have TAH := Lib.hid ta; clear ta
    have ZB := Lib.hid zb; clear zb
    go_wp2_with fail
    clear wac0 wac1 walt tac0 tac1 tac2 tac3 tac4 tac5 tac6 tac7 talt
    have wa := WAH.out; clear WAH
    have ta := TAH.out; clear TAH
    have zb := ZB.out; clear ZB
    refine (weekS_any _ B A A' n n' o c ho hc (by have := zb.size; omega) (HS.out.later hB zb) (HS'.out.later hB zb)).mono ?_
    rintro e w3 ⟨rfl, hb⟩
    rw [H0.out]
    replace wa := has_call wa hb
    replace ta := has_call ta hb
    replace zb := bthen zb hb; clear hb
    have wac0 := has_cell wa 0 rfl; have wac1 := has_cell wa 1 rfl
    have walt := has_lt wa
    have tac0 := has_cell ta 0 rfl; have tac1 := has_cell ta 1 rfl; have tac2 := has_cell ta 2 rfl; have tac3 := has_cell ta 3 rfl; have tac4 := has_cell ta 4 rfl; have tac5 := has_cell ta 5 rfl; have tac6 := has_cell ta 6 rfl; have tac7 := has_cell ta 7 rfl
    have talt := has_lt ta
    have WAH := Lib.hid wa; clear wa
    have TAH := Lib.hid ta; clear ta
    have ZB := Lib.hid zb; clear zb
    go_wp2_with fail
    clear wac0 wac1 walt tac0 tac1 tac2 tac3 tac4 tac5 tac6 tac7 talt
    have wa := WAH.out; clear WAH
    have ta := TAH.out; clear TAH
    have zb := ZB.out; clear ZB
    go_ret2
    exact ⟨ret_none (by rw [billB, if_neg (fun hx => by have := H0.out; rw [hx.1] at this; cases this)]), zb⟩
  have H0 := Lib.hid h0; clear h0
  cases h1 : termsB t
  · have H1 := Lib.hid h1; clear h1
    go_enter Try.func9, Try.ntmps9
    go_wp2_with fail
    generalize hX : (w.alloc (.cells #[.slice A o.length n, .slice A' c.length n'] 26)) = w1
    have hb : Below w.heap.size w w1 := by rw [← hX]; exact balloc _ _
    have hk : Has w1 w.heap.size 26 #[.slice A o.length n, .slice A' c.length n'] := by rw [← hX]; exact has_new _ _ _
    have hzw1 : w1.heap.size = w.heap.size + 1 := by rw [← hX]; simp
    clear hX
    have zb := hb; clear hb
    have wa := hk; clear hk
    generalize hX : (w1.alloc (.cells #[.int .i64 t.keep, .int .i64 t.free, .int .i64 t.step, .int .i64 t.rate, .int .i64 t.cap, .int .i64 t.longer, .int .i64 t.price, .int .i64 t.most] 35)) = w2
    have hb : Below w1.heap.size w1 w2 := by rw [← hX]; exact balloc _ _
    have hk : Has w2 w1.heap.size 35 #[.int .i64 t.keep, .int .i64 t.free, .int .i64 t.step, .int .i64 t.rate, .int .i64 t.cap, .int .i64 t.longer, .int .i64 t.price, .int .i64 t.most] := by rw [← hX]; exact has_new _ _ _
    have hzw2 : w2.heap.size = w.heap.size + 2 := by rw [← hX]; simp [hzw1]
    clear hX
    rw [hzw1] at hk
    replace wa := has_call wa hb
    replace zb := bthen zb hb; clear hb
    have ta := hk; clear hk
    clear hzw1 hzw2
    have wac0 := has_cell wa 0 rfl; have wac1 := has_cell wa 1 rfl
    have walt := has_lt wa
    have tac0 := has_cell ta 0 rfl; have tac1 := has_cell ta 1 rfl; have tac2 := has_cell ta 2 rfl; have tac3 := has_cell ta 3 rfl; have tac4 := has_cell ta 4 rfl; have tac5 := has_cell ta 5 rfl; have tac6 := has_cell ta 6 rfl; have tac7 := has_cell ta 7 rfl
    have talt := has_lt ta
    have WAH := Lib.hid wa; clear wa
    have TAH := Lib.hid ta; clear ta
    have ZB := Lib.hid zb; clear zb
    go_wp2_with fail
    clear wac0 wac1 walt tac0 tac1 tac2 tac3 tac4 tac5 tac6 tac7 talt
    have wa := WAH.out; clear WAH
    have ta := TAH.out; clear TAH
    have zb := ZB.out; clear ZB
    refine (weekS_any _ B A A' n n' o c ho hc (by have := zb.size; omega) (HS.out.later hB zb) (HS'.out.later hB zb)).mono ?_
    rintro e w3 ⟨rfl, hb⟩
    rw [H0.out]
    replace wa := has_call wa hb
    replace ta := has_call ta hb
    replace zb := bthen zb hb; clear hb
    have wac0 := has_cell wa 0 rfl; have wac1 := has_cell wa 1 rfl
    have walt := has_lt wa
    have tac0 := has_cell ta 0 rfl; have tac1 := has_cell ta 1 rfl; have tac2 := has_cell ta 2 rfl; have tac3 := has_cell ta 3 rfl; have tac4 := has_cell ta 4 rfl; have tac5 := has_cell ta 5 rfl; have tac6 := has_cell ta 6 rfl; have tac7 := has_cell ta 7 rfl
    have talt := has_lt ta
    have WAH := Lib.hid wa; clear wa
    have TAH := Lib.hid ta; clear ta
    have ZB := Lib.hid zb; clear zb
    go_wp2_with fail
    clear wac0 wac1 walt tac0 tac1 tac2 tac3 tac4 tac5 tac6 tac7 talt
    have wa := WAH.out; clear WAH
    have ta := TAH.out; clear TAH
    have zb := ZB.out; clear ZB
    refine (termsS_any _ t).mono ?_
    rintro e w4 ⟨rfl, hb⟩
    rw [H1.out]
    replace wa := has_call wa hb
    replace ta := has_call ta hb
    replace zb := bthen zb hb; clear hb
    have wac0 := has_cell wa 0 rfl; have wac1 := has_cell wa 1 rfl
    have walt := has_lt wa
    have tac0 := has_cell ta 0 rfl; have tac1 := has_cell ta 1 rfl; have tac2 := has_cell ta 2 rfl; have tac3 := has_cell ta 3 rfl; have tac4 := has_cell ta 4 rfl; have tac5 := has_cell ta 5 rfl; have tac6 := has_cell ta 6 rfl; have tac7 := has_cell ta 7 rfl
    have talt := has_lt ta
    have WAH := Lib.hid wa; clear wa
    have TAH := Lib.hid ta; clear ta
    have ZB := Lib.hid zb; clear zb
    go_wp2_with fail
    clear wac0 wac1 walt tac0 tac1 tac2 tac3 tac4 tac5 tac6 tac7 talt
    have wa := WAH.out; clear WAH
    have ta := TAH.out; clear TAH
    have zb := ZB.out; clear ZB
    go_ret2
    exact ⟨ret_none (by rw [billB, if_neg (fun hx => by have := H1.out; rw [hx.2.1] at this; cases this)]), zb⟩
  have H1 := Lib.hid h1; clear h1
  by_cases h2 : (20 : Int) < L.length
  · skip
    go_enter Try.func9, Try.ntmps9
    go_wp2_with fail
    generalize hX : (w.alloc (.cells #[.slice A o.length n, .slice A' c.length n'] 26)) = w1
    have hb : Below w.heap.size w w1 := by rw [← hX]; exact balloc _ _
    have hk : Has w1 w.heap.size 26 #[.slice A o.length n, .slice A' c.length n'] := by rw [← hX]; exact has_new _ _ _
    have hzw1 : w1.heap.size = w.heap.size + 1 := by rw [← hX]; simp
    clear hX
    have zb := hb; clear hb
    have wa := hk; clear hk
    generalize hX : (w1.alloc (.cells #[.int .i64 t.keep, .int .i64 t.free, .int .i64 t.step, .int .i64 t.rate, .int .i64 t.cap, .int .i64 t.longer, .int .i64 t.price, .int .i64 t.most] 35)) = w2
    have hb : Below w1.heap.size w1 w2 := by rw [← hX]; exact balloc _ _
    have hk : Has w2 w1.heap.size 35 #[.int .i64 t.keep, .int .i64 t.free, .int .i64 t.step, .int .i64 t.rate, .int .i64 t.cap, .int .i64 t.longer, .int .i64 t.price, .int .i64 t.most] := by rw [← hX]; exact has_new _ _ _
    have hzw2 : w2.heap.size = w.heap.size + 2 := by rw [← hX]; simp [hzw1]
    clear hX
    rw [hzw1] at hk
    replace wa := has_call wa hb
    replace zb := bthen zb hb; clear hb
    have ta := hk; clear hk
    clear hzw1 hzw2
    have wac0 := has_cell wa 0 rfl; have wac1 := has_cell wa 1 rfl
    have walt := has_lt wa
    have tac0 := has_cell ta 0 rfl; have tac1 := has_cell ta 1 rfl; have tac2 := has_cell ta 2 rfl; have tac3 := has_cell ta 3 rfl; have tac4 := has_cell ta 4 rfl; have tac5 := has_cell ta 5 rfl; have tac6 := has_cell ta 6 rfl; have tac7 := has_cell ta 7 rfl
    have talt := has_lt ta
    have WAH := Lib.hid wa; clear wa
    have TAH := Lib.hid ta; clear ta
    have ZB := Lib.hid zb; clear zb
    go_wp2_with fail
    clear wac0 wac1 walt tac0 tac1 tac2 tac3 tac4 tac5 tac6 tac7 talt
    have wa := WAH.out; clear WAH
    have ta := TAH.out; clear TAH
    have zb := ZB.out; clear ZB
    refine (weekS_any _ B A A' n n' o c ho hc (by have := zb.size; omega) (HS.out.later hB zb) (HS'.out.later hB zb)).mono ?_
    rintro e w3 ⟨rfl, hb⟩
    rw [H0.out]
    replace wa := has_call wa hb
    replace ta := has_call ta hb
    replace zb := bthen zb hb; clear hb
    have wac0 := has_cell wa 0 rfl; have wac1 := has_cell wa 1 rfl
    have walt := has_lt wa
    have tac0 := has_cell ta 0 rfl; have tac1 := has_cell ta 1 rfl; have tac2 := has_cell ta 2 rfl; have tac3 := has_cell ta 3 rfl; have tac4 := has_cell ta 4 rfl; have tac5 := has_cell ta 5 rfl; have tac6 := has_cell ta 6 rfl; have tac7 := has_cell ta 7 rfl
    have talt := has_lt ta
    have WAH := Lib.hid wa; clear wa
    have TAH := Lib.hid ta; clear ta
    have ZB := Lib.hid zb; clear zb
    go_wp2_with fail
    clear wac0 wac1 walt tac0 tac1 tac2 tac3 tac4 tac5 tac6 tac7 talt
    have wa := WAH.out; clear WAH
    have ta := TAH.out; clear TAH
    have zb := ZB.out; clear ZB
    refine (termsS_any _ t).mono ?_
    rintro e w4 ⟨rfl, hb⟩
    rw [H1.out]
    replace wa := has_call wa hb
    replace ta := has_call ta hb
    replace zb := bthen zb hb; clear hb
    have wac0 := has_cell wa 0 rfl; have wac1 := has_cell wa 1 rfl
    have walt := has_lt wa
    have tac0 := has_cell ta 0 rfl; have tac1 := has_cell ta 1 rfl; have tac2 := has_cell ta 2 rfl; have tac3 := has_cell ta 3 rfl; have tac4 := has_cell ta 4 rfl; have tac5 := has_cell ta 5 rfl; have tac6 := has_cell ta 6 rfl; have tac7 := has_cell ta 7 rfl
    have talt := has_lt ta
    have WAH := Lib.hid wa; clear wa
    have TAH := Lib.hid ta; clear ta
    have ZB := Lib.hid zb; clear zb
    go_wp2_with fail
    clear wac0 wac1 walt tac0 tac1 tac2 tac3 tac4 tac5 tac6 tac7 talt
    have wa := WAH.out; clear WAH
    have ta := TAH.out; clear TAH
    have zb := ZB.out; clear ZB
    go_ret2
    exact ⟨ret_none (by rw [billB, if_neg (fun hx => by have := hx.2.2; omega)]), zb⟩
  have hbl := Lib.hid (show billB o c t L = sumB o c t L 0 by rw [billB, if_pos ⟨H0.out, H1.out, by omega⟩])
  go_enter Try.func9, Try.ntmps9
  go_wp2_with fail
  generalize hX : (w.alloc (.cells #[.slice A o.length n, .slice A' c.length n'] 26)) = w1
  have hb : Below w.heap.size w w1 := by rw [← hX]; exact balloc _ _
  have hk : Has w1 w.heap.size 26 #[.slice A o.length n, .slice A' c.length n'] := by rw [← hX]; exact has_new _ _ _
  have hzw1 : w1.heap.size = w.heap.size + 1 := by rw [← hX]; simp
  clear hX
  have zb := hb; clear hb
  have wa := hk; clear hk
  generalize hX : (w1.alloc (.cells #[.int .i64 t.keep, .int .i64 t.free, .int .i64 t.step, .int .i64 t.rate, .int .i64 t.cap, .int .i64 t.longer, .int .i64 t.price, .int .i64 t.most] 35)) = w2
  have hb : Below w1.heap.size w1 w2 := by rw [← hX]; exact balloc _ _
  have hk : Has w2 w1.heap.size 35 #[.int .i64 t.keep, .int .i64 t.free, .int .i64 t.step, .int .i64 t.rate, .int .i64 t.cap, .int .i64 t.longer, .int .i64 t.price, .int .i64 t.most] := by rw [← hX]; exact has_new _ _ _
  have hzw2 : w2.heap.size = w.heap.size + 2 := by rw [← hX]; simp [hzw1]
  clear hX
  rw [hzw1] at hk
  replace wa := has_call wa hb
  replace zb := bthen zb hb; clear hb
  have ta := hk; clear hk
  clear hzw1 hzw2
  have wac0 := has_cell wa 0 rfl; have wac1 := has_cell wa 1 rfl
  have walt := has_lt wa
  have tac0 := has_cell ta 0 rfl; have tac1 := has_cell ta 1 rfl; have tac2 := has_cell ta 2 rfl; have tac3 := has_cell ta 3 rfl; have tac4 := has_cell ta 4 rfl; have tac5 := has_cell ta 5 rfl; have tac6 := has_cell ta 6 rfl; have tac7 := has_cell ta 7 rfl
  have talt := has_lt ta
  have WAH := Lib.hid wa; clear wa
  have TAH := Lib.hid ta; clear ta
  have ZB := Lib.hid zb; clear zb
  go_wp2_with fail
  clear wac0 wac1 walt tac0 tac1 tac2 tac3 tac4 tac5 tac6 tac7 talt
  have wa := WAH.out; clear WAH
  have ta := TAH.out; clear TAH
  have zb := ZB.out; clear ZB
  refine (weekS_any _ B A A' n n' o c ho hc (by have := zb.size; omega) (HS.out.later hB zb) (HS'.out.later hB zb)).mono ?_
  rintro e w3 ⟨rfl, hb⟩
  rw [H0.out]
  replace wa := has_call wa hb
  replace ta := has_call ta hb
  replace zb := bthen zb hb; clear hb
  have wac0 := has_cell wa 0 rfl; have wac1 := has_cell wa 1 rfl
  have walt := has_lt wa
  have tac0 := has_cell ta 0 rfl; have tac1 := has_cell ta 1 rfl; have tac2 := has_cell ta 2 rfl; have tac3 := has_cell ta 3 rfl; have tac4 := has_cell ta 4 rfl; have tac5 := has_cell ta 5 rfl; have tac6 := has_cell ta 6 rfl; have tac7 := has_cell ta 7 rfl
  have talt := has_lt ta
  have WAH := Lib.hid wa; clear wa
  have TAH := Lib.hid ta; clear ta
  have ZB := Lib.hid zb; clear zb
  go_wp2_with fail
  clear wac0 wac1 walt tac0 tac1 tac2 tac3 tac4 tac5 tac6 tac7 talt
  have wa := WAH.out; clear WAH
  have ta := TAH.out; clear TAH
  have zb := ZB.out; clear ZB
  refine (termsS_any _ t).mono ?_
  rintro e w4 ⟨rfl, hb⟩
  rw [H1.out]
  replace wa := has_call wa hb
  replace ta := has_call ta hb
  replace zb := bthen zb hb; clear hb
  have wac0 := has_cell wa 0 rfl; have wac1 := has_cell wa 1 rfl
  have walt := has_lt wa
  have tac0 := has_cell ta 0 rfl; have tac1 := has_cell ta 1 rfl; have tac2 := has_cell ta 2 rfl; have tac3 := has_cell ta 3 rfl; have tac4 := has_cell ta 4 rfl; have tac5 := has_cell ta 5 rfl; have tac6 := has_cell ta 6 rfl; have tac7 := has_cell ta 7 rfl
  have talt := has_lt ta
  have WAH := Lib.hid wa; clear wa
  have TAH := Lib.hid ta; clear ta
  have ZB := Lib.hid zb; clear zb
  go_wp2_with fail
  clear wac0 wac1 walt tac0 tac1 tac2 tac3 tac4 tac5 tac6 tac7 talt
  have wa := WAH.out; clear WAH
  have ta := TAH.out; clear TAH
  have zb := ZB.out; clear ZB
  have WA0 := Lib.hid wa; clear wa
  have TA0 := Lib.hid ta; clear ta
  have ZB0 := Lib.hid zb; clear zb
  go_loopw [8, 9] (fun u i wr => ∃ (k : Nat) (s : Int), k ≤ L.length ∧ i = .int .i64 k ∧ u = .int .i64 s ∧ 0 ≤ s ∧ s ≤ 3000000 * k ∧ sumB o c t (L.drop k) s = billB o c t L ∧ Below w4.heap.size w4 wr) (fun _ i _ => L.length - (intOf i).toNat)
  case atStart => exact ⟨0, 0, Nat.zero_le _, rfl, rfl, by omega, by omega, by rw [hbl.out]; rfl, Below.refl _ _⟩
  case round =>
    obtain ⟨k, s, hk, rfl, rfl, hs0, hs1, hr, hb⟩ := hrel
    have Hr := Lib.hid hr; clear hr
    by_cases hlt : k < L.length
    rotate_left
    · have Hv := Lib.hid (Hr.out.symm.trans (sum_end (by omega) s))
      have wa := has_call WA0.out hb
      have ta := has_call TA0.out hb
      have zb := bthen ZB0.out hb
      have hbr := hb; clear hb
      have wac0 := has_cell wa 0 rfl; have wac1 := has_cell wa 1 rfl
      have walt := has_lt wa
      have tac0 := has_cell ta 0 rfl; have tac1 := has_cell ta 1 rfl; have tac2 := has_cell ta 2 rfl; have tac3 := has_cell ta 3 rfl; have tac4 := has_cell ta 4 rfl; have tac5 := has_cell ta 5 rfl; have tac6 := has_cell ta 6 rfl; have tac7 := has_cell ta 7 rfl
      have talt := has_lt ta
      have WAH := Lib.hid wa; clear wa
      have TAH := Lib.hid ta; clear ta
      have ZB := Lib.hid zb; clear zb
      go_wp2_with fail
      clear wac0 wac1 walt tac0 tac1 tac2 tac3 tac4 tac5 tac6 tac7 talt
      have wa := WAH.out; clear WAH
      have ta := TAH.out; clear TAH
      have zb := ZB.out; clear ZB
      go_ret2
      exact ⟨ret_some Hv.out, zb⟩
    obtain ⟨bb, off, ⟨x0, x1, x2, x3⟩, rfl, hbB, hx, hc0, hc1, hc2, hc3⟩ := (HL.out.later hB (bthen ZB0.out hb)).at_ hlt
    dsimp only at hc0 hc1 hc2 hc3
    rcases fee_range o c t x0 x1 x2 x3 with ⟨hok, hf0, hf1⟩ | ⟨hok, hf⟩
    · skip
      obtain ⟨v, hv⟩ : ∃ v, feeB o c t x0 x1 x2 x3 = v := ⟨_, rfl⟩
      rw [hv] at hf0 hf1
      have Hv := Lib.hid (show sumB o c t (L.drop (k + 1)) (s + v) = billB o c t L from ((sum_yes hx s (by dsimp only; omega)).symm.trans Hr.out |> fun hh => by dsimp only at hh; rw [hv] at hh; exact hh))
      have HF := Lib.hid hv; clear hv hok hx
      have hve : (v == -1) = false := by simp; omega
      have wa := has_call WA0.out hb
      have ta := has_call TA0.out hb
      have zb := bthen ZB0.out hb
      have hbr := hb; clear hb
      have wac0 := has_cell wa 0 rfl; have wac1 := has_cell wa 1 rfl
      have walt := has_lt wa
      have tac0 := has_cell ta 0 rfl; have tac1 := has_cell ta 1 rfl; have tac2 := has_cell ta 2 rfl; have tac3 := has_cell ta 3 rfl; have tac4 := has_cell ta 4 rfl; have tac5 := has_cell ta 5 rfl; have tac6 := has_cell ta 6 rfl; have tac7 := has_cell ta 7 rfl
      have talt := has_lt ta
      have WAH := Lib.hid wa; clear wa
      have TAH := Lib.hid ta; clear ta
      have ZB := Lib.hid zb; clear zb
      go_wp2_with fail
      have S0 : (fun W : World => ((W.cell? ⟨w.heap.size, 0, none⟩ = some (.slice A o.length n) ∧ W.cell? ⟨w.heap.size, 1, none⟩ = some (.slice A' c.length n')) ∧ (W.cell? ⟨w.heap.size + 1, 0, none⟩ = some (.int .i64 t.keep) ∧ W.cell? ⟨w.heap.size + 1, 1, none⟩ = some (.int .i64 t.free) ∧ W.cell? ⟨w.heap.size + 1, 2, none⟩ = some (.int .i64 t.step) ∧ W.cell? ⟨w.heap.size + 1, 3, none⟩ = some (.int .i64 t.rate) ∧ W.cell? ⟨w.heap.size + 1, 4, none⟩ = some (.int .i64 t.cap) ∧ W.cell? ⟨w.heap.size + 1, 5, none⟩ = some (.int .i64 t.longer) ∧ W.cell? ⟨w.heap.size + 1, 6, none⟩ = some (.int .i64 t.price) ∧ W.cell? ⟨w.heap.size + 1, 7, none⟩ = some (.int .i64 t.most))) ∧ (W.cell? ⟨bb, off + k * 4, none⟩ = some (.int .i64 x0) ∧ W.cell? ⟨bb, off + k * 4 + 1, none⟩ = some (.int .i64 x1) ∧ W.cell? ⟨bb, off + k * 4 + 2, none⟩ = some (.int .i64 x2) ∧ W.cell? ⟨bb, off + k * 4 + 3, none⟩ = some (.int .i64 x3)) ∧ Below wr.heap.size wr W) wr.drew := ⟨⟨⟨wac0, wac1⟩, ⟨tac0, tac1, tac2, tac3, tac4, tac5, tac6, tac7⟩⟩, ⟨hc0, hc1, hc2, hc3⟩, (Below.refl _ _).drew⟩
      have zc : Below w.heap.size w wr := ZB.out
      have zd : Below w.heap.size w wr.drew := zc.drew
      have hzs := zc.size
      have hzd : w.heap.size + 1 < wr.drew.heap.size := talt
      have hzbb : bb < wr.drew.heap.size := by have := zc.size; exact Nat.lt_of_lt_of_le hbB (Nat.le_trans hB this)
      clear wac0 wac1 walt tac0 tac1 tac2 tac3 tac4 tac5 tac6 tac7 talt
      go_region_held3 (fun W : World => ((W.cell? ⟨w.heap.size, 0, none⟩ = some (.slice A o.length n) ∧ W.cell? ⟨w.heap.size, 1, none⟩ = some (.slice A' c.length n')) ∧ (W.cell? ⟨w.heap.size + 1, 0, none⟩ = some (.int .i64 t.keep) ∧ W.cell? ⟨w.heap.size + 1, 1, none⟩ = some (.int .i64 t.free) ∧ W.cell? ⟨w.heap.size + 1, 2, none⟩ = some (.int .i64 t.step) ∧ W.cell? ⟨w.heap.size + 1, 3, none⟩ = some (.int .i64 t.rate) ∧ W.cell? ⟨w.heap.size + 1, 4, none⟩ = some (.int .i64 t.cap) ∧ W.cell? ⟨w.heap.size + 1, 5, none⟩ = some (.int .i64 t.longer) ∧ W.cell? ⟨w.heap.size + 1, 6, none⟩ = some (.int .i64 t.price) ∧ W.cell? ⟨w.heap.size + 1, 7, none⟩ = some (.int .i64 t.most))) ∧ (W.cell? ⟨bb, off + k * 4, none⟩ = some (.int .i64 x0) ∧ W.cell? ⟨bb, off + k * 4 + 1, none⟩ = some (.int .i64 x1) ∧ W.cell? ⟨bb, off + k * 4 + 2, none⟩ = some (.int .i64 x2) ∧ W.cell? ⟨bb, off + k * 4 + 3, none⟩ = some (.int .i64 x3)) ∧ Below wr.heap.size wr W) (first | assumption) (first
        | (go_at_call 20; go_must (refine (feeS_any wr.drew B A A' n n' o c t x0 x1 x2 x3 ho hc (by have := zd.size; omega) (HS.out.later hB zd) (HS'.out.later hB zd)).mono ?_); rintro r wh ⟨rfl, hh⟩; rw [HF.out]; have S1 : (fun W : World => ((W.cell? ⟨w.heap.size, 0, none⟩ = some (.slice A o.length n) ∧ W.cell? ⟨w.heap.size, 1, none⟩ = some (.slice A' c.length n')) ∧ (W.cell? ⟨w.heap.size + 1, 0, none⟩ = some (.int .i64 t.keep) ∧ W.cell? ⟨w.heap.size + 1, 1, none⟩ = some (.int .i64 t.free) ∧ W.cell? ⟨w.heap.size + 1, 2, none⟩ = some (.int .i64 t.step) ∧ W.cell? ⟨w.heap.size + 1, 3, none⟩ = some (.int .i64 t.rate) ∧ W.cell? ⟨w.heap.size + 1, 4, none⟩ = some (.int .i64 t.cap) ∧ W.cell? ⟨w.heap.size + 1, 5, none⟩ = some (.int .i64 t.longer) ∧ W.cell? ⟨w.heap.size + 1, 6, none⟩ = some (.int .i64 t.price) ∧ W.cell? ⟨w.heap.size + 1, 7, none⟩ = some (.int .i64 t.most))) ∧ (W.cell? ⟨bb, off + k * 4, none⟩ = some (.int .i64 x0) ∧ W.cell? ⟨bb, off + k * 4 + 1, none⟩ = some (.int .i64 x1) ∧ W.cell? ⟨bb, off + k * 4 + 2, none⟩ = some (.int .i64 x2) ∧ W.cell? ⟨bb, off + k * 4 + 3, none⟩ = some (.int .i64 x3)) ∧ Below wr.heap.size wr W) wh := ⟨⟨⟨(bold hh _ _ (by omega)).trans S0.1.1.1, (bold hh _ _ (by omega)).trans S0.1.1.2⟩, ⟨(bold hh _ _ (by omega)).trans S0.1.2.1, (bold hh _ _ (by omega)).trans S0.1.2.2.1, (bold hh _ _ (by omega)).trans S0.1.2.2.2.1, (bold hh _ _ (by omega)).trans S0.1.2.2.2.2.1, (bold hh _ _ (by omega)).trans S0.1.2.2.2.2.2.1, (bold hh _ _ (by omega)).trans S0.1.2.2.2.2.2.2.1, (bold hh _ _ (by omega)).trans S0.1.2.2.2.2.2.2.2.1, (bold hh _ _ (by omega)).trans S0.1.2.2.2.2.2.2.2.2⟩⟩, ⟨(bold hh _ _ hzbb).trans S0.2.1.1, (bold hh _ _ hzbb).trans S0.2.1.2.1, (bold hh _ _ hzbb).trans S0.2.1.2.2.1, (bold hh _ _ hzbb).trans S0.2.1.2.2.2⟩, bthen S0.2.2 hh⟩))
      have hb : Below wr.heap.size wr wh := S1.2.2
      clear S0 S1 zc zd hzs hzd hzbb
      have wa := WAH.out; clear WAH
      have ta := TAH.out; clear TAH
      have zb := ZB.out; clear ZB
      replace hbr := bthen hbr hb
      replace wa := has_call wa hb
      replace ta := has_call ta hb
      replace zb := bthen zb hb; clear hb
      have wac0 := has_cell wa 0 rfl; have wac1 := has_cell wa 1 rfl
      have walt := has_lt wa
      have tac0 := has_cell ta 0 rfl; have tac1 := has_cell ta 1 rfl; have tac2 := has_cell ta 2 rfl; have tac3 := has_cell ta 3 rfl; have tac4 := has_cell ta 4 rfl; have tac5 := has_cell ta 5 rfl; have tac6 := has_cell ta 6 rfl; have tac7 := has_cell ta 7 rfl
      have talt := has_lt ta
      have WAH := Lib.hid wa; clear wa
      have TAH := Lib.hid ta; clear ta
      have ZB := Lib.hid zb; clear zb
      go_wp2_with fail
      clear wac0 wac1 walt tac0 tac1 tac2 tac3 tac4 tac5 tac6 tac7 talt
      have wa := WAH.out; clear WAH
      have ta := TAH.out; clear TAH
      have zb := ZB.out; clear ZB
      go_roundw
      case rel => exact ⟨k + 1, s + v, by omega, by go_num, rfl, by omega, by omega, Hv.out, hbr⟩
      case measure => simp [intOf]; omega
    · skip
      have Hv := Lib.hid (Hr.out.symm.trans (sum_no hx s hf))
      have HF := Lib.hid hf; clear hf hok hx
      have wa := has_call WA0.out hb
      have ta := has_call TA0.out hb
      have zb := bthen ZB0.out hb
      have hbr := hb; clear hb
      have wac0 := has_cell wa 0 rfl; have wac1 := has_cell wa 1 rfl
      have walt := has_lt wa
      have tac0 := has_cell ta 0 rfl; have tac1 := has_cell ta 1 rfl; have tac2 := has_cell ta 2 rfl; have tac3 := has_cell ta 3 rfl; have tac4 := has_cell ta 4 rfl; have tac5 := has_cell ta 5 rfl; have tac6 := has_cell ta 6 rfl; have tac7 := has_cell ta 7 rfl
      have talt := has_lt ta
      have WAH := Lib.hid wa; clear wa
      have TAH := Lib.hid ta; clear ta
      have ZB := Lib.hid zb; clear zb
      go_wp2_with fail
      have S0 : (fun W : World => ((W.cell? ⟨w.heap.size, 0, none⟩ = some (.slice A o.length n) ∧ W.cell? ⟨w.heap.size, 1, none⟩ = some (.slice A' c.length n')) ∧ (W.cell? ⟨w.heap.size + 1, 0, none⟩ = some (.int .i64 t.keep) ∧ W.cell? ⟨w.heap.size + 1, 1, none⟩ = some (.int .i64 t.free) ∧ W.cell? ⟨w.heap.size + 1, 2, none⟩ = some (.int .i64 t.step) ∧ W.cell? ⟨w.heap.size + 1, 3, none⟩ = some (.int .i64 t.rate) ∧ W.cell? ⟨w.heap.size + 1, 4, none⟩ = some (.int .i64 t.cap) ∧ W.cell? ⟨w.heap.size + 1, 5, none⟩ = some (.int .i64 t.longer) ∧ W.cell? ⟨w.heap.size + 1, 6, none⟩ = some (.int .i64 t.price) ∧ W.cell? ⟨w.heap.size + 1, 7, none⟩ = some (.int .i64 t.most))) ∧ (W.cell? ⟨bb, off + k * 4, none⟩ = some (.int .i64 x0) ∧ W.cell? ⟨bb, off + k * 4 + 1, none⟩ = some (.int .i64 x1) ∧ W.cell? ⟨bb, off + k * 4 + 2, none⟩ = some (.int .i64 x2) ∧ W.cell? ⟨bb, off + k * 4 + 3, none⟩ = some (.int .i64 x3)) ∧ Below wr.heap.size wr W) wr.drew := ⟨⟨⟨wac0, wac1⟩, ⟨tac0, tac1, tac2, tac3, tac4, tac5, tac6, tac7⟩⟩, ⟨hc0, hc1, hc2, hc3⟩, (Below.refl _ _).drew⟩
      have zc : Below w.heap.size w wr := ZB.out
      have zd : Below w.heap.size w wr.drew := zc.drew
      have hzs := zc.size
      have hzd : w.heap.size + 1 < wr.drew.heap.size := talt
      have hzbb : bb < wr.drew.heap.size := by have := zc.size; exact Nat.lt_of_lt_of_le hbB (Nat.le_trans hB this)
      clear wac0 wac1 walt tac0 tac1 tac2 tac3 tac4 tac5 tac6 tac7 talt
      go_region_held3 (fun W : World => ((W.cell? ⟨w.heap.size, 0, none⟩ = some (.slice A o.length n) ∧ W.cell? ⟨w.heap.size, 1, none⟩ = some (.slice A' c.length n')) ∧ (W.cell? ⟨w.heap.size + 1, 0, none⟩ = some (.int .i64 t.keep) ∧ W.cell? ⟨w.heap.size + 1, 1, none⟩ = some (.int .i64 t.free) ∧ W.cell? ⟨w.heap.size + 1, 2, none⟩ = some (.int .i64 t.step) ∧ W.cell? ⟨w.heap.size + 1, 3, none⟩ = some (.int .i64 t.rate) ∧ W.cell? ⟨w.heap.size + 1, 4, none⟩ = some (.int .i64 t.cap) ∧ W.cell? ⟨w.heap.size + 1, 5, none⟩ = some (.int .i64 t.longer) ∧ W.cell? ⟨w.heap.size + 1, 6, none⟩ = some (.int .i64 t.price) ∧ W.cell? ⟨w.heap.size + 1, 7, none⟩ = some (.int .i64 t.most))) ∧ (W.cell? ⟨bb, off + k * 4, none⟩ = some (.int .i64 x0) ∧ W.cell? ⟨bb, off + k * 4 + 1, none⟩ = some (.int .i64 x1) ∧ W.cell? ⟨bb, off + k * 4 + 2, none⟩ = some (.int .i64 x2) ∧ W.cell? ⟨bb, off + k * 4 + 3, none⟩ = some (.int .i64 x3)) ∧ Below wr.heap.size wr W) (first | assumption) (first
        | (go_at_call 20; go_must (refine (feeS_any wr.drew B A A' n n' o c t x0 x1 x2 x3 ho hc (by have := zd.size; omega) (HS.out.later hB zd) (HS'.out.later hB zd)).mono ?_); rintro r wh ⟨rfl, hh⟩; rw [HF.out]; have S1 : (fun W : World => ((W.cell? ⟨w.heap.size, 0, none⟩ = some (.slice A o.length n) ∧ W.cell? ⟨w.heap.size, 1, none⟩ = some (.slice A' c.length n')) ∧ (W.cell? ⟨w.heap.size + 1, 0, none⟩ = some (.int .i64 t.keep) ∧ W.cell? ⟨w.heap.size + 1, 1, none⟩ = some (.int .i64 t.free) ∧ W.cell? ⟨w.heap.size + 1, 2, none⟩ = some (.int .i64 t.step) ∧ W.cell? ⟨w.heap.size + 1, 3, none⟩ = some (.int .i64 t.rate) ∧ W.cell? ⟨w.heap.size + 1, 4, none⟩ = some (.int .i64 t.cap) ∧ W.cell? ⟨w.heap.size + 1, 5, none⟩ = some (.int .i64 t.longer) ∧ W.cell? ⟨w.heap.size + 1, 6, none⟩ = some (.int .i64 t.price) ∧ W.cell? ⟨w.heap.size + 1, 7, none⟩ = some (.int .i64 t.most))) ∧ (W.cell? ⟨bb, off + k * 4, none⟩ = some (.int .i64 x0) ∧ W.cell? ⟨bb, off + k * 4 + 1, none⟩ = some (.int .i64 x1) ∧ W.cell? ⟨bb, off + k * 4 + 2, none⟩ = some (.int .i64 x2) ∧ W.cell? ⟨bb, off + k * 4 + 3, none⟩ = some (.int .i64 x3)) ∧ Below wr.heap.size wr W) wh := ⟨⟨⟨(bold hh _ _ (by omega)).trans S0.1.1.1, (bold hh _ _ (by omega)).trans S0.1.1.2⟩, ⟨(bold hh _ _ (by omega)).trans S0.1.2.1, (bold hh _ _ (by omega)).trans S0.1.2.2.1, (bold hh _ _ (by omega)).trans S0.1.2.2.2.1, (bold hh _ _ (by omega)).trans S0.1.2.2.2.2.1, (bold hh _ _ (by omega)).trans S0.1.2.2.2.2.2.1, (bold hh _ _ (by omega)).trans S0.1.2.2.2.2.2.2.1, (bold hh _ _ (by omega)).trans S0.1.2.2.2.2.2.2.2.1, (bold hh _ _ (by omega)).trans S0.1.2.2.2.2.2.2.2.2⟩⟩, ⟨(bold hh _ _ hzbb).trans S0.2.1.1, (bold hh _ _ hzbb).trans S0.2.1.2.1, (bold hh _ _ hzbb).trans S0.2.1.2.2.1, (bold hh _ _ hzbb).trans S0.2.1.2.2.2⟩, bthen S0.2.2 hh⟩))
      have hb : Below wr.heap.size wr wh := S1.2.2
      clear S0 S1 zc zd hzs hzd hzbb
      have wa := WAH.out; clear WAH
      have ta := TAH.out; clear TAH
      have zb := ZB.out; clear ZB
      replace hbr := bthen hbr hb
      replace wa := has_call wa hb
      replace ta := has_call ta hb
      replace zb := bthen zb hb; clear hb
      have wac0 := has_cell wa 0 rfl; have wac1 := has_cell wa 1 rfl
      have walt := has_lt wa
      have tac0 := has_cell ta 0 rfl; have tac1 := has_cell ta 1 rfl; have tac2 := has_cell ta 2 rfl; have tac3 := has_cell ta 3 rfl; have tac4 := has_cell ta 4 rfl; have tac5 := has_cell ta 5 rfl; have tac6 := has_cell ta 6 rfl; have tac7 := has_cell ta 7 rfl
      have talt := has_lt ta
      have WAH := Lib.hid wa; clear wa
      have TAH := Lib.hid ta; clear ta
      have ZB := Lib.hid zb; clear zb
      go_wp2_with fail
      clear wac0 wac1 walt tac0 tac1 tac2 tac3 tac4 tac5 tac6 tac7 talt
      have wa := WAH.out; clear WAH
      have ta := TAH.out; clear TAH
      have zb := ZB.out; clear ZB
      go_ret2
      exact ⟨ret_none Hv.out, zb⟩
end Go.Proofs.Ytfkhhefphbhppaa
