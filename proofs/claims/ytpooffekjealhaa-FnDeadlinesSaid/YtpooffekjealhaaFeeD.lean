/- Chapter 6: contracts of CanExtend and LeastExtensions, by the program and by the model (gen_feeb.py). -/
import Derived.Test.YtpooffekjealhaaFeeV
import Derived.Test.YtpooffekjealhaaFeeB
import Derived.Deep.RegionHeld3
import Derived.Deep.DeepMust
import Derived.WalkLawsBesides
namespace Go.Proofs.Ytpooffekjealhaa
open Go.RowKit
set_option linter.unusedVariables false
theorem ext_no1 {o c : List (Int × Int)} {t : Tm} {a k e : Int} (h : deadB o c t a e = none) : extB o c t a k e = false := by simp [extB, h]
theorem ext_no2 {o c : List (Int × Int)} {t : Tm} {a k e : Int} (h : deadB o c t a (e + 1) = none) : extB o c t a k e = false := by simp [extB, h]
theorem ext_no3 {o c : List (Int × Int)} {t : Tm} {a k e : Int} (h : inB k a 20000 = false) : extB o c t a k e = false := by simp [extB, h]
theorem ext_yes {o c : List (Int × Int)} {t : Tm} {a k e x y : Int} (h : deadB o c t a e = some x) (h' : deadB o c t a (e + 1) = some y) (hk : inB k a 20000 = true) : extB o c t a k e = !overB o c t a k e := by simp [extB, h, h', hk]

set_option maxRecDepth 100000 in
set_option maxHeartbeats 4000000 in
theorem extI_any (w : World) (B : Nat) (A A' : Option Addr) (n n' : Nat) (o c : List (Int × Int)) (t : Tm) (a k e : Int) (e1 : -9223372036854775808 ≤ e) (e2 : e ≤ 9223372036854775807) (ho : o.length ≤ maxLen) (hc : c.length ≤ maxLen) (hB : B ≤ w.heap.size) (hS : SL w B A o) (hS' : SL w B A' c) : Calls Try.prog 14 #[.agg #[.slice A o.length n, .slice A' c.length n'], .agg #[.int .i64 t.keep, .int .i64 t.free, .int .i64 t.step, .int .i64 t.rate, .int .i64 t.cap, .int .i64 t.longer, .int .i64 t.price, .int .i64 t.most], .int .i64 a, .int .i64 k, .int .i64 e] w fun r w' => r = .returned (.bool (extB o c t a k e)) ∧ Below w.heap.size w w' := by
  have HS := Lib.hid hS; clear hS
  have HS' := Lib.hid hS'; clear hS'
  obtain ⟨p, hp⟩ : ∃ p, deadB o c t a e = p := ⟨_, rfl⟩
  cases p with
  | none =>
    have Hv := Lib.hid (ext_no1 (k := k) hp)
    have Hp := Lib.hid hp; clear hp
    obtain ⟨e3, he3⟩ : ∃ e3, IntKind.i64.wrap (e + 1) = e3 := ⟨_, rfl⟩
    obtain ⟨q, hq⟩ : ∃ q, deadB o c t a e3 = q := ⟨_, rfl⟩
    have Hq := Lib.hid hq; clear hq
    cases q with
    | none =>
      go_enter Try.func14, Try.ntmps14
      go_wp2_with fail
      generalize hX : (w.alloc (.cells #[.slice A o.length n, .slice A' c.length n'] 26)) = w1
      have hb : Below w.heap.size w w1 := by rw [← hX]; exact balloc _ _
      have hk : Has w1 w.heap.size 26 #[.slice A o.length n, .slice A' c.length n'] := by rw [← hX]; exact has_new _ _ _
      have hzw1 : w1.heap.size = w.heap.size + 1 := by rw [← hX]; simp
      clear hX
      have zb := hb; clear hb
      have wa := hk; clear hk
      generalize hX : (w1.alloc (.cells #[.int .i64 t.keep, .int .i64 t.free, .int .i64 t.step, .int .i64 t.rate, .int .i64 t.cap, .int .i64 t.longer, .int .i64 t.price, .int .i64 t.most] 29)) = w2
      have hb : Below w1.heap.size w1 w2 := by rw [← hX]; exact balloc _ _
      have hk : Has w2 w1.heap.size 29 #[.int .i64 t.keep, .int .i64 t.free, .int .i64 t.step, .int .i64 t.rate, .int .i64 t.cap, .int .i64 t.longer, .int .i64 t.price, .int .i64 t.most] := by rw [← hX]; exact has_new _ _ _
      have hzw2 : w2.heap.size = w.heap.size + 2 := by rw [← hX]; simp [hzw1]
      clear hX
      rw [hzw1] at hk
      replace wa := has_call wa hb
      replace zb := bthen zb hb; clear hb
      have ta := hk; clear hk
      clear hzw1 hzw2
      have wac0 := has_cell wa 0 rfl; have wac1 := has_cell wa 1 rfl
      have walt := has_lt wa
      have tac0 := has_cell ta 0 rfl; have tac1 := has_cell ta 1 rfl; have tac2 := has_cell ta 2 rfl; have tac3 := has_cell ta 3 rfl; have tac4 := has_cell ta 4 rfl; have tac5 := has_cell ta 5 rfl; have tac6 := has_cell ta 6 rfl; have tac7 := has_cell ta 7 rfl
      have talt := has_lt ta
      have WAH := Lib.hid wa; clear wa
      have TAH := Lib.hid ta; clear ta
      have ZB := Lib.hid zb; clear zb
      go_wp2_with fail
      clear wac0 wac1 walt tac0 tac1 tac2 tac3 tac4 tac5 tac6 tac7 talt
      have wa := WAH.out; clear WAH
      have ta := TAH.out; clear TAH
      have zb := ZB.out; clear ZB
      refine (deadI_any _ B A A' n n' o c t a e ho hc (by have := zb.size; omega) (HS.out.later hB zb) (HS'.out.later hB zb)).mono ?_
      rintro e w3 ⟨rfl, hb⟩
      replace wa := has_call wa hb
      replace ta := has_call ta hb
      replace zb := bthen zb hb; clear hb
      rw [Hp.out]; unfold pairV
      have wac0 := has_cell wa 0 rfl; have wac1 := has_cell wa 1 rfl
      have walt := has_lt wa
      have tac0 := has_cell ta 0 rfl; have tac1 := has_cell ta 1 rfl; have tac2 := has_cell ta 2 rfl; have tac3 := has_cell ta 3 rfl; have tac4 := has_cell ta 4 rfl; have tac5 := has_cell ta 5 rfl; have tac6 := has_cell ta 6 rfl; have tac7 := has_cell ta 7 rfl
      have talt := has_lt ta
      have WAH := Lib.hid wa; clear wa
      have TAH := Lib.hid ta; clear ta
      have ZB := Lib.hid zb; clear zb
      go_wp2_with fail
      clear wac0 wac1 walt tac0 tac1 tac2 tac3 tac4 tac5 tac6 tac7 talt
      have wa := WAH.out; clear WAH
      have ta := TAH.out; clear TAH
      have zb := ZB.out; clear ZB
      refine (deadI_any _ B A A' n n' o c t a e3 ho hc (by have := zb.size; omega) (HS.out.later hB zb) (HS'.out.later hB zb)).mono ?_
      rintro e w4 ⟨rfl, hb⟩
      replace wa := has_call wa hb
      replace ta := has_call ta hb
      replace zb := bthen zb hb; clear hb
      rw [Hq.out]; unfold pairV
      have wac0 := has_cell wa 0 rfl; have wac1 := has_cell wa 1 rfl
      have walt := has_lt wa
      have tac0 := has_cell ta 0 rfl; have tac1 := has_cell ta 1 rfl; have tac2 := has_cell ta 2 rfl; have tac3 := has_cell ta 3 rfl; have tac4 := has_cell ta 4 rfl; have tac5 := has_cell ta 5 rfl; have tac6 := has_cell ta 6 rfl; have tac7 := has_cell ta 7 rfl
      have talt := has_lt ta
      have WAH := Lib.hid wa; clear wa
      have TAH := Lib.hid ta; clear ta
      have ZB := Lib.hid zb; clear zb
      go_wp2_with fail
      clear wac0 wac1 walt tac0 tac1 tac2 tac3 tac4 tac5 tac6 tac7 talt
      have wa := WAH.out; clear WAH
      have ta := TAH.out; clear TAH
      have zb := ZB.out; clear ZB
      go_ret
      exact ⟨fbool Hv.out.symm, zb⟩
    | some y =>
      go_enter Try.func14, Try.ntmps14
      go_wp2_with fail
      generalize hX : (w.alloc (.cells #[.slice A o.length n, .slice A' c.length n'] 26)) = w1
      have hb : Below w.heap.size w w1 := by rw [← hX]; exact balloc _ _
      have hk : Has w1 w.heap.size 26 #[.slice A o.length n, .slice A' c.length n'] := by rw [← hX]; exact has_new _ _ _
      have hzw1 : w1.heap.size = w.heap.size + 1 := by rw [← hX]; simp
      clear hX
      have zb := hb; clear hb
      have wa := hk; clear hk
      generalize hX : (w1.alloc (.cells #[.int .i64 t.keep, .int .i64 t.free, .int .i64 t.step, .int .i64 t.rate, .int .i64 t.cap, .int .i64 t.longer, .int .i64 t.price, .int .i64 t.most] 29)) = w2
      have hb : Below w1.heap.size w1 w2 := by rw [← hX]; exact balloc _ _
      have hk : Has w2 w1.heap.size 29 #[.int .i64 t.keep, .int .i64 t.free, .int .i64 t.step, .int .i64 t.rate, .int .i64 t.cap, .int .i64 t.longer, .int .i64 t.price, .int .i64 t.most] := by rw [← hX]; exact has_new _ _ _
      have hzw2 : w2.heap.size = w.heap.size + 2 := by rw [← hX]; simp [hzw1]
      clear hX
      rw [hzw1] at hk
      replace wa := has_call wa hb
      replace zb := bthen zb hb; clear hb
      have ta := hk; clear hk
      clear hzw1 hzw2
      have wac0 := has_cell wa 0 rfl; have wac1 := has_cell wa 1 rfl
      have walt := has_lt wa
      have tac0 := has_cell ta 0 rfl; have tac1 := has_cell ta 1 rfl; have tac2 := has_cell ta 2 rfl; have tac3 := has_cell ta 3 rfl; have tac4 := has_cell ta 4 rfl; have tac5 := has_cell ta 5 rfl; have tac6 := has_cell ta 6 rfl; have tac7 := has_cell ta 7 rfl
      have talt := has_lt ta
      have WAH := Lib.hid wa; clear wa
      have TAH := Lib.hid ta; clear ta
      have ZB := Lib.hid zb; clear zb
      go_wp2_with fail
      clear wac0 wac1 walt tac0 tac1 tac2 tac3 tac4 tac5 tac6 tac7 talt
      have wa := WAH.out; clear WAH
      have ta := TAH.out; clear TAH
      have zb := ZB.out; clear ZB
      refine (deadI_any _ B A A' n n' o c t a e ho hc (by have := zb.size; omega) (HS.out.later hB zb) (HS'.out.later hB zb)).mono ?_
      rintro e w3 ⟨rfl, hb⟩
      replace wa := has_call wa hb
      replace ta := has_call ta hb
      replace zb := bthen zb hb; clear hb
      rw [Hp.out]; unfold pairV
      have wac0 := has_cell wa 0 rfl; have wac1 := has_cell wa 1 rfl
      have walt := has_lt wa
      have tac0 := has_cell ta 0 rfl; have tac1 := has_cell ta 1 rfl; have tac2 := has_cell ta 2 rfl; have tac3 := has_cell ta 3 rfl; have tac4 := has_cell ta 4 rfl; have tac5 := has_cell ta 5 rfl; have tac6 := has_cell ta 6 rfl; have tac7 := has_cell ta 7 rfl
      have talt := has_lt ta
      have WAH := Lib.hid wa; clear wa
      have TAH := Lib.hid ta; clear ta
      have ZB := Lib.hid zb; clear zb
      go_wp2_with fail
      clear wac0 wac1 walt tac0 tac1 tac2 tac3 tac4 tac5 tac6 tac7 talt
      have wa := WAH.out; clear WAH
      have ta := TAH.out; clear TAH
      have zb := ZB.out; clear ZB
      refine (deadI_any _ B A A' n n' o c t a e3 ho hc (by have := zb.size; omega) (HS.out.later hB zb) (HS'.out.later hB zb)).mono ?_
      rintro e w4 ⟨rfl, hb⟩
      replace wa := has_call wa hb
      replace ta := has_call ta hb
      replace zb := bthen zb hb; clear hb
      rw [Hq.out]; unfold pairV
      have wac0 := has_cell wa 0 rfl; have wac1 := has_cell wa 1 rfl
      have walt := has_lt wa
      have tac0 := has_cell ta 0 rfl; have tac1 := has_cell ta 1 rfl; have tac2 := has_cell ta 2 rfl; have tac3 := has_cell ta 3 rfl; have tac4 := has_cell ta 4 rfl; have tac5 := has_cell ta 5 rfl; have tac6 := has_cell ta 6 rfl; have tac7 := has_cell ta 7 rfl
      have talt := has_lt ta
      have WAH := Lib.hid wa; clear wa
      have TAH := Lib.hid ta; clear ta
      have ZB := Lib.hid zb; clear zb
      go_wp2_with fail
      clear wac0 wac1 walt tac0 tac1 tac2 tac3 tac4 tac5 tac6 tac7 talt
      have wa := WAH.out; clear WAH
      have ta := TAH.out; clear TAH
      have zb := ZB.out; clear ZB
      go_ret
      exact ⟨fbool Hv.out.symm, zb⟩
  | some x =>
    obtain ⟨r1, r2, r3, r4, r5, r6⟩ := dead_range hp
    have r7 := ((terms_iff t).1 r1).2.2.2.2.2.2.2.2
    have r8 : e ≤ 20 := by omega
    clear r7 r1 e1 e2
    obtain ⟨q, hq⟩ : ∃ q, deadB o c t a (e + 1) = q := ⟨_, rfl⟩
    cases q with
    | none =>
      have Hv := Lib.hid (ext_no2 (k := k) hq)
      have Hp := Lib.hid hp; have Hq := Lib.hid hq; clear hp hq
      go_enter Try.func14, Try.ntmps14
      go_wp2_with fail
      generalize hX : (w.alloc (.cells #[.slice A o.length n, .slice A' c.length n'] 26)) = w1
      have hb : Below w.heap.size w w1 := by rw [← hX]; exact balloc _ _
      have hk : Has w1 w.heap.size 26 #[.slice A o.length n, .slice A' c.length n'] := by rw [← hX]; exact has_new _ _ _
      have hzw1 : w1.heap.size = w.heap.size + 1 := by rw [← hX]; simp
      clear hX
      have zb := hb; clear hb
      have wa := hk; clear hk
      generalize hX : (w1.alloc (.cells #[.int .i64 t.keep, .int .i64 t.free, .int .i64 t.step, .int .i64 t.rate, .int .i64 t.cap, .int .i64 t.longer, .int .i64 t.price, .int .i64 t.most] 29)) = w2
      have hb : Below w1.heap.size w1 w2 := by rw [← hX]; exact balloc _ _
      have hk : Has w2 w1.heap.size 29 #[.int .i64 t.keep, .int .i64 t.free, .int .i64 t.step, .int .i64 t.rate, .int .i64 t.cap, .int .i64 t.longer, .int .i64 t.price, .int .i64 t.most] := by rw [← hX]; exact has_new _ _ _
      have hzw2 : w2.heap.size = w.heap.size + 2 := by rw [← hX]; simp [hzw1]
      clear hX
      rw [hzw1] at hk
      replace wa := has_call wa hb
      replace zb := bthen zb hb; clear hb
      have ta := hk; clear hk
      clear hzw1 hzw2
      have wac0 := has_cell wa 0 rfl; have wac1 := has_cell wa 1 rfl
      have walt := has_lt wa
      have tac0 := has_cell ta 0 rfl; have tac1 := has_cell ta 1 rfl; have tac2 := has_cell ta 2 rfl; have tac3 := has_cell ta 3 rfl; have tac4 := has_cell ta 4 rfl; have tac5 := has_cell ta 5 rfl; have tac6 := has_cell ta 6 rfl; have tac7 := has_cell ta 7 rfl
      have talt := has_lt ta
      have WAH := Lib.hid wa; clear wa
      have TAH := Lib.hid ta; clear ta
      have ZB := Lib.hid zb; clear zb
      go_wp2_with fail
      clear wac0 wac1 walt tac0 tac1 tac2 tac3 tac4 tac5 tac6 tac7 talt
      have wa := WAH.out; clear WAH
      have ta := TAH.out; clear TAH
      have zb := ZB.out; clear ZB
      refine (deadI_any _ B A A' n n' o c t a e ho hc (by have := zb.size; omega) (HS.out.later hB zb) (HS'.out.later hB zb)).mono ?_
      rintro e w3 ⟨rfl, hb⟩
      replace wa := has_call wa hb
      replace ta := has_call ta hb
      replace zb := bthen zb hb; clear hb
      rw [Hp.out]; unfold pairV
      have wac0 := has_cell wa 0 rfl; have wac1 := has_cell wa 1 rfl
      have walt := has_lt wa
      have tac0 := has_cell ta 0 rfl; have tac1 := has_cell ta 1 rfl; have tac2 := has_cell ta 2 rfl; have tac3 := has_cell ta 3 rfl; have tac4 := has_cell ta 4 rfl; have tac5 := has_cell ta 5 rfl; have tac6 := has_cell ta 6 rfl; have tac7 := has_cell ta 7 rfl
      have talt := has_lt ta
      have WAH := Lib.hid wa; clear wa
      have TAH := Lib.hid ta; clear ta
      have ZB := Lib.hid zb; clear zb
      go_wp2_with fail
      clear wac0 wac1 walt tac0 tac1 tac2 tac3 tac4 tac5 tac6 tac7 talt
      have wa := WAH.out; clear WAH
      have ta := TAH.out; clear TAH
      have zb := ZB.out; clear ZB
      refine (deadI_any _ B A A' n n' o c t a (e + 1) ho hc (by have := zb.size; omega) (HS.out.later hB zb) (HS'.out.later hB zb)).mono ?_
      rintro e w4 ⟨rfl, hb⟩
      replace wa := has_call wa hb
      replace ta := has_call ta hb
      replace zb := bthen zb hb; clear hb
      rw [Hq.out]; unfold pairV
      have wac0 := has_cell wa 0 rfl; have wac1 := has_cell wa 1 rfl
      have walt := has_lt wa
      have tac0 := has_cell ta 0 rfl; have tac1 := has_cell ta 1 rfl; have tac2 := has_cell ta 2 rfl; have tac3 := has_cell ta 3 rfl; have tac4 := has_cell ta 4 rfl; have tac5 := has_cell ta 5 rfl; have tac6 := has_cell ta 6 rfl; have tac7 := has_cell ta 7 rfl
      have talt := has_lt ta
      have WAH := Lib.hid wa; clear wa
      have TAH := Lib.hid ta; clear ta
      have ZB := Lib.hid zb; clear zb
      go_wp2_with fail
      clear wac0 wac1 walt tac0 tac1 tac2 tac3 tac4 tac5 tac6 tac7 talt
      have wa := WAH.out; clear WAH
      have ta := TAH.out; clear TAH
      have zb := ZB.out; clear ZB
      go_ret
      exact ⟨fbool Hv.out.symm, zb⟩
    | some y =>
      cases ht : timeB k
      · have Hv := Lib.hid (ext_no3 (o := o) (c := c) (t := t) (e := e) (show inB k a 20000 = false by simp [timeB, inB] at ht ⊢; omega))
        have Ht := Lib.hid ht; clear ht
        have Hp := Lib.hid hp; have Hq := Lib.hid hq; clear hp hq
        go_enter Try.func14, Try.ntmps14
        go_wp2_with fail
        generalize hX : (w.alloc (.cells #[.slice A o.length n, .slice A' c.length n'] 26)) = w1
        have hb : Below w.heap.size w w1 := by rw [← hX]; exact balloc _ _
        have hk : Has w1 w.heap.size 26 #[.slice A o.length n, .slice A' c.length n'] := by rw [← hX]; exact has_new _ _ _
        have hzw1 : w1.heap.size = w.heap.size + 1 := by rw [← hX]; simp
        clear hX
        have zb := hb; clear hb
        have wa := hk; clear hk
        generalize hX : (w1.alloc (.cells #[.int .i64 t.keep, .int .i64 t.free, .int .i64 t.step, .int .i64 t.rate, .int .i64 t.cap, .int .i64 t.longer, .int .i64 t.price, .int .i64 t.most] 29)) = w2
        have hb : Below w1.heap.size w1 w2 := by rw [← hX]; exact balloc _ _
        have hk : Has w2 w1.heap.size 29 #[.int .i64 t.keep, .int .i64 t.free, .int .i64 t.step, .int .i64 t.rate, .int .i64 t.cap, .int .i64 t.longer, .int .i64 t.price, .int .i64 t.most] := by rw [← hX]; exact has_new _ _ _
        have hzw2 : w2.heap.size = w.heap.size + 2 := by rw [← hX]; simp [hzw1]
        clear hX
        rw [hzw1] at hk
        replace wa := has_call wa hb
        replace zb := bthen zb hb; clear hb
        have ta := hk; clear hk
        clear hzw1 hzw2
        have wac0 := has_cell wa 0 rfl; have wac1 := has_cell wa 1 rfl
        have walt := has_lt wa
        have tac0 := has_cell ta 0 rfl; have tac1 := has_cell ta 1 rfl; have tac2 := has_cell ta 2 rfl; have tac3 := has_cell ta 3 rfl; have tac4 := has_cell ta 4 rfl; have tac5 := has_cell ta 5 rfl; have tac6 := has_cell ta 6 rfl; have tac7 := has_cell ta 7 rfl
        have talt := has_lt ta
        have WAH := Lib.hid wa; clear wa
        have TAH := Lib.hid ta; clear ta
        have ZB := Lib.hid zb; clear zb
        go_wp2_with fail
        clear wac0 wac1 walt tac0 tac1 tac2 tac3 tac4 tac5 tac6 tac7 talt
        have wa := WAH.out; clear WAH
        have ta := TAH.out; clear TAH
        have zb := ZB.out; clear ZB
        refine (deadI_any _ B A A' n n' o c t a e ho hc (by have := zb.size; omega) (HS.out.later hB zb) (HS'.out.later hB zb)).mono ?_
        rintro e w3 ⟨rfl, hb⟩
        replace wa := has_call wa hb
        replace ta := has_call ta hb
        replace zb := bthen zb hb; clear hb
        rw [Hp.out]; unfold pairV
        have wac0 := has_cell wa 0 rfl; have wac1 := has_cell wa 1 rfl
        have walt := has_lt wa
        have tac0 := has_cell ta 0 rfl; have tac1 := has_cell ta 1 rfl; have tac2 := has_cell ta 2 rfl; have tac3 := has_cell ta 3 rfl; have tac4 := has_cell ta 4 rfl; have tac5 := has_cell ta 5 rfl; have tac6 := has_cell ta 6 rfl; have tac7 := has_cell ta 7 rfl
        have talt := has_lt ta
        have WAH := Lib.hid wa; clear wa
        have TAH := Lib.hid ta; clear ta
        have ZB := Lib.hid zb; clear zb
        go_wp2_with fail
        clear wac0 wac1 walt tac0 tac1 tac2 tac3 tac4 tac5 tac6 tac7 talt
        have wa := WAH.out; clear WAH
        have ta := TAH.out; clear TAH
        have zb := ZB.out; clear ZB
        refine (deadI_any _ B A A' n n' o c t a (e + 1) ho hc (by have := zb.size; omega) (HS.out.later hB zb) (HS'.out.later hB zb)).mono ?_
        rintro e w4 ⟨rfl, hb⟩
        replace wa := has_call wa hb
        replace ta := has_call ta hb
        replace zb := bthen zb hb; clear hb
        rw [Hq.out]; unfold pairV
        have wac0 := has_cell wa 0 rfl; have wac1 := has_cell wa 1 rfl
        have walt := has_lt wa
        have tac0 := has_cell ta 0 rfl; have tac1 := has_cell ta 1 rfl; have tac2 := has_cell ta 2 rfl; have tac3 := has_cell ta 3 rfl; have tac4 := has_cell ta 4 rfl; have tac5 := has_cell ta 5 rfl; have tac6 := has_cell ta 6 rfl; have tac7 := has_cell ta 7 rfl
        have talt := has_lt ta
        have WAH := Lib.hid wa; clear wa
        have TAH := Lib.hid ta; clear ta
        have ZB := Lib.hid zb; clear zb
        go_wp2_with fail
        clear wac0 wac1 walt tac0 tac1 tac2 tac3 tac4 tac5 tac6 tac7 talt
        have wa := WAH.out; clear WAH
        have ta := TAH.out; clear TAH
        have zb := ZB.out; clear ZB
        refine (isTime_any _ k).mono ?_
        rintro e w5 ⟨rfl, hw⟩
        rw [hw]; clear hw w5
        rw [Ht.out]
        have wac0 := has_cell wa 0 rfl; have wac1 := has_cell wa 1 rfl
        have walt := has_lt wa
        have tac0 := has_cell ta 0 rfl; have tac1 := has_cell ta 1 rfl; have tac2 := has_cell ta 2 rfl; have tac3 := has_cell ta 3 rfl; have tac4 := has_cell ta 4 rfl; have tac5 := has_cell ta 5 rfl; have tac6 := has_cell ta 6 rfl; have tac7 := has_cell ta 7 rfl
        have talt := has_lt ta
        have WAH := Lib.hid wa; clear wa
        have TAH := Lib.hid ta; clear ta
        have ZB := Lib.hid zb; clear zb
        go_wp2_with fail
        clear wac0 wac1 walt tac0 tac1 tac2 tac3 tac4 tac5 tac6 tac7 talt
        have wa := WAH.out; clear WAH
        have ta := TAH.out; clear TAH
        have zb := ZB.out; clear ZB
        go_ret
        exact ⟨fbool Hv.out.symm, zb⟩
      have tk := (time_iff k).1 ht
      have Ht := Lib.hid ht; clear ht
      by_cases hka : a ≤ k
      · have Hv := Lib.hid (ext_yes hp hq ((in_iff k a 20000).2 ⟨hka, tk.2⟩))
        have Hp := Lib.hid hp; have Hq := Lib.hid hq; clear hp hq
        go_enter Try.func14, Try.ntmps14
        go_wp2_with fail
        generalize hX : (w.alloc (.cells #[.slice A o.length n, .slice A' c.length n'] 26)) = w1
        have hb : Below w.heap.size w w1 := by rw [← hX]; exact balloc _ _
        have hk : Has w1 w.heap.size 26 #[.slice A o.length n, .slice A' c.length n'] := by rw [← hX]; exact has_new _ _ _
        have hzw1 : w1.heap.size = w.heap.size + 1 := by rw [← hX]; simp
        clear hX
        have zb := hb; clear hb
        have wa := hk; clear hk
        generalize hX : (w1.alloc (.cells #[.int .i64 t.keep, .int .i64 t.free, .int .i64 t.step, .int .i64 t.rate, .int .i64 t.cap, .int .i64 t.longer, .int .i64 t.price, .int .i64 t.most] 29)) = w2
        have hb : Below w1.heap.size w1 w2 := by rw [← hX]; exact balloc _ _
        have hk : Has w2 w1.heap.size 29 #[.int .i64 t.keep, .int .i64 t.free, .int .i64 t.step, .int .i64 t.rate, .int .i64 t.cap, .int .i64 t.longer, .int .i64 t.price, .int .i64 t.most] := by rw [← hX]; exact has_new _ _ _
        have hzw2 : w2.heap.size = w.heap.size + 2 := by rw [← hX]; simp [hzw1]
        clear hX
        rw [hzw1] at hk
        replace wa := has_call wa hb
        replace zb := bthen zb hb; clear hb
        have ta := hk; clear hk
        clear hzw1 hzw2
        have wac0 := has_cell wa 0 rfl; have wac1 := has_cell wa 1 rfl
        have walt := has_lt wa
        have tac0 := has_cell ta 0 rfl; have tac1 := has_cell ta 1 rfl; have tac2 := has_cell ta 2 rfl; have tac3 := has_cell ta 3 rfl; have tac4 := has_cell ta 4 rfl; have tac5 := has_cell ta 5 rfl; have tac6 := has_cell ta 6 rfl; have tac7 := has_cell ta 7 rfl
        have talt := has_lt ta
        have WAH := Lib.hid wa; clear wa
        have TAH := Lib.hid ta; clear ta
        have ZB := Lib.hid zb; clear zb
        go_wp2_with fail
        clear wac0 wac1 walt tac0 tac1 tac2 tac3 tac4 tac5 tac6 tac7 talt
        have wa := WAH.out; clear WAH
        have ta := TAH.out; clear TAH
        have zb := ZB.out; clear ZB
        refine (deadI_any _ B A A' n n' o c t a e ho hc (by have := zb.size; omega) (HS.out.later hB zb) (HS'.out.later hB zb)).mono ?_
        rintro e w3 ⟨rfl, hb⟩
        replace wa := has_call wa hb
        replace ta := has_call ta hb
        replace zb := bthen zb hb; clear hb
        rw [Hp.out]; unfold pairV
        have wac0 := has_cell wa 0 rfl; have wac1 := has_cell wa 1 rfl
        have walt := has_lt wa
        have tac0 := has_cell ta 0 rfl; have tac1 := has_cell ta 1 rfl; have tac2 := has_cell ta 2 rfl; have tac3 := has_cell ta 3 rfl; have tac4 := has_cell ta 4 rfl; have tac5 := has_cell ta 5 rfl; have tac6 := has_cell ta 6 rfl; have tac7 := has_cell ta 7 rfl
        have talt := has_lt ta
        have WAH := Lib.hid wa; clear wa
        have TAH := Lib.hid ta; clear ta
        have ZB := Lib.hid zb; clear zb
        go_wp2_with fail
        clear wac0 wac1 walt tac0 tac1 tac2 tac3 tac4 tac5 tac6 tac7 talt
        have wa := WAH.out; clear WAH
        have ta := TAH.out; clear TAH
        have zb := ZB.out; clear ZB
        refine (deadI_any _ B A A' n n' o c t a (e + 1) ho hc (by have := zb.size; omega) (HS.out.later hB zb) (HS'.out.later hB zb)).mono ?_
        rintro e w4 ⟨rfl, hb⟩
        replace wa := has_call wa hb
        replace ta := has_call ta hb
        replace zb := bthen zb hb; clear hb
        rw [Hq.out]; unfold pairV
        have wac0 := has_cell wa 0 rfl; have wac1 := has_cell wa 1 rfl
        have walt := has_lt wa
        have tac0 := has_cell ta 0 rfl; have tac1 := has_cell ta 1 rfl; have tac2 := has_cell ta 2 rfl; have tac3 := has_cell ta 3 rfl; have tac4 := has_cell ta 4 rfl; have tac5 := has_cell ta 5 rfl; have tac6 := has_cell ta 6 rfl; have tac7 := has_cell ta 7 rfl
        have talt := has_lt ta
        have WAH := Lib.hid wa; clear wa
        have TAH := Lib.hid ta; clear ta
        have ZB := Lib.hid zb; clear zb
        go_wp2_with fail
        clear wac0 wac1 walt tac0 tac1 tac2 tac3 tac4 tac5 tac6 tac7 talt
        have wa := WAH.out; clear WAH
        have ta := TAH.out; clear TAH
        have zb := ZB.out; clear ZB
        refine (isTime_any _ k).mono ?_
        rintro e w5 ⟨rfl, hw⟩
        rw [hw]; clear hw w5
        rw [Ht.out]
        have wac0 := has_cell wa 0 rfl; have wac1 := has_cell wa 1 rfl
        have walt := has_lt wa
        have tac0 := has_cell ta 0 rfl; have tac1 := has_cell ta 1 rfl; have tac2 := has_cell ta 2 rfl; have tac3 := has_cell ta 3 rfl; have tac4 := has_cell ta 4 rfl; have tac5 := has_cell ta 5 rfl; have tac6 := has_cell ta 6 rfl; have tac7 := has_cell ta 7 rfl
        have talt := has_lt ta
        have WAH := Lib.hid wa; clear wa
        have TAH := Lib.hid ta; clear ta
        have ZB := Lib.hid zb; clear zb
        go_wp2_with fail
        clear wac0 wac1 walt tac0 tac1 tac2 tac3 tac4 tac5 tac6 tac7 talt
        have wa := WAH.out; clear WAH
        have ta := TAH.out; clear TAH
        have zb := ZB.out; clear ZB
        refine (overI_any _ B A A' n n' o c t a k e ho hc (by have := zb.size; omega) (HS.out.later hB zb) (HS'.out.later hB zb)).mono ?_
        rintro e w6 ⟨rfl, hb⟩
        replace wa := has_call wa hb
        replace ta := has_call ta hb
        replace zb := bthen zb hb; clear hb
        have wac0 := has_cell wa 0 rfl; have wac1 := has_cell wa 1 rfl
        have walt := has_lt wa
        have tac0 := has_cell ta 0 rfl; have tac1 := has_cell ta 1 rfl; have tac2 := has_cell ta 2 rfl; have tac3 := has_cell ta 3 rfl; have tac4 := has_cell ta 4 rfl; have tac5 := has_cell ta 5 rfl; have tac6 := has_cell ta 6 rfl; have tac7 := has_cell ta 7 rfl
        have talt := has_lt ta
        have WAH := Lib.hid wa; clear wa
        have TAH := Lib.hid ta; clear ta
        have ZB := Lib.hid zb; clear zb
        go_wp2_with fail
        clear wac0 wac1 walt tac0 tac1 tac2 tac3 tac4 tac5 tac6 tac7 talt
        have wa := WAH.out; clear WAH
        have ta := TAH.out; clear TAH
        have zb := ZB.out; clear ZB
        go_ret
        exact ⟨fbool Hv.out.symm, zb⟩
      · have Hv := Lib.hid (ext_no3 (o := o) (c := c) (t := t) (e := e) (show inB k a 20000 = false by simp [inB]; omega))
        have Hp := Lib.hid hp; have Hq := Lib.hid hq; clear hp hq
        go_enter Try.func14, Try.ntmps14
        go_wp2_with fail
        generalize hX : (w.alloc (.cells #[.slice A o.length n, .slice A' c.length n'] 26)) = w1
        have hb : Below w.heap.size w w1 := by rw [← hX]; exact balloc _ _
        have hk : Has w1 w.heap.size 26 #[.slice A o.length n, .slice A' c.length n'] := by rw [← hX]; exact has_new _ _ _
        have hzw1 : w1.heap.size = w.heap.size + 1 := by rw [← hX]; simp
        clear hX
        have zb := hb; clear hb
        have wa := hk; clear hk
        generalize hX : (w1.alloc (.cells #[.int .i64 t.keep, .int .i64 t.free, .int .i64 t.step, .int .i64 t.rate, .int .i64 t.cap, .int .i64 t.longer, .int .i64 t.price, .int .i64 t.most] 29)) = w2
        have hb : Below w1.heap.size w1 w2 := by rw [← hX]; exact balloc _ _
        have hk : Has w2 w1.heap.size 29 #[.int .i64 t.keep, .int .i64 t.free, .int .i64 t.step, .int .i64 t.rate, .int .i64 t.cap, .int .i64 t.longer, .int .i64 t.price, .int .i64 t.most] := by rw [← hX]; exact has_new _ _ _
        have hzw2 : w2.heap.size = w.heap.size + 2 := by rw [← hX]; simp [hzw1]
        clear hX
        rw [hzw1] at hk
        replace wa := has_call wa hb
        replace zb := bthen zb hb; clear hb
        have ta := hk; clear hk
        clear hzw1 hzw2
        have wac0 := has_cell wa 0 rfl; have wac1 := has_cell wa 1 rfl
        have walt := has_lt wa
        have tac0 := has_cell ta 0 rfl; have tac1 := has_cell ta 1 rfl; have tac2 := has_cell ta 2 rfl; have tac3 := has_cell ta 3 rfl; have tac4 := has_cell ta 4 rfl; have tac5 := has_cell ta 5 rfl; have tac6 := has_cell ta 6 rfl; have tac7 := has_cell ta 7 rfl
        have talt := has_lt ta
        have WAH := Lib.hid wa; clear wa
        have TAH := Lib.hid ta; clear ta
        have ZB := Lib.hid zb; clear zb
        go_wp2_with fail
        clear wac0 wac1 walt tac0 tac1 tac2 tac3 tac4 tac5 tac6 tac7 talt
        have wa := WAH.out; clear WAH
        have ta := TAH.out; clear TAH
        have zb := ZB.out; clear ZB
        refine (deadI_any _ B A A' n n' o c t a e ho hc (by have := zb.size; omega) (HS.out.later hB zb) (HS'.out.later hB zb)).mono ?_
        rintro e w3 ⟨rfl, hb⟩
        replace wa := has_call wa hb
        replace ta := has_call ta hb
        replace zb := bthen zb hb; clear hb
        rw [Hp.out]; unfold pairV
        have wac0 := has_cell wa 0 rfl; have wac1 := has_cell wa 1 rfl
        have walt := has_lt wa
        have tac0 := has_cell ta 0 rfl; have tac1 := has_cell ta 1 rfl; have tac2 := has_cell ta 2 rfl; have tac3 := has_cell ta 3 rfl; have tac4 := has_cell ta 4 rfl; have tac5 := has_cell ta 5 rfl; have tac6 := has_cell ta 6 rfl; have tac7 := has_cell ta 7 rfl
        have talt := has_lt ta
        have WAH := Lib.hid wa; clear wa
        have TAH := Lib.hid ta; clear ta
        have ZB := Lib.hid zb; clear zb
        go_wp2_with fail
        clear wac0 wac1 walt tac0 tac1 tac2 tac3 tac4 tac5 tac6 tac7 talt
        have wa := WAH.out; clear WAH
        have ta := TAH.out; clear TAH
        have zb := ZB.out; clear ZB
        refine (deadI_any _ B A A' n n' o c t a (e + 1) ho hc (by have := zb.size; omega) (HS.out.later hB zb) (HS'.out.later hB zb)).mono ?_
        rintro e w4 ⟨rfl, hb⟩
        replace wa := has_call wa hb
        replace ta := has_call ta hb
        replace zb := bthen zb hb; clear hb
        rw [Hq.out]; unfold pairV
        have wac0 := has_cell wa 0 rfl; have wac1 := has_cell wa 1 rfl
        have walt := has_lt wa
        have tac0 := has_cell ta 0 rfl; have tac1 := has_cell ta 1 rfl; have tac2 := has_cell ta 2 rfl; have tac3 := has_cell ta 3 rfl; have tac4 := has_cell ta 4 rfl; have tac5 := has_cell ta 5 rfl; have tac6 := has_cell ta 6 rfl; have tac7 := has_cell ta 7 rfl
        have talt := has_lt ta
        have WAH := Lib.hid wa; clear wa
        have TAH := Lib.hid ta; clear ta
        have ZB := Lib.hid zb; clear zb
        go_wp2_with fail
        clear wac0 wac1 walt tac0 tac1 tac2 tac3 tac4 tac5 tac6 tac7 talt
        have wa := WAH.out; clear WAH
        have ta := TAH.out; clear TAH
        have zb := ZB.out; clear ZB
        refine (isTime_any _ k).mono ?_
        rintro e w5 ⟨rfl, hw⟩
        rw [hw]; clear hw w5
        rw [Ht.out]
        have wac0 := has_cell wa 0 rfl; have wac1 := has_cell wa 1 rfl
        have walt := has_lt wa
        have tac0 := has_cell ta 0 rfl; have tac1 := has_cell ta 1 rfl; have tac2 := has_cell ta 2 rfl; have tac3 := has_cell ta 3 rfl; have tac4 := has_cell ta 4 rfl; have tac5 := has_cell ta 5 rfl; have tac6 := has_cell ta 6 rfl; have tac7 := has_cell ta 7 rfl
        have talt := has_lt ta
        have WAH := Lib.hid wa; clear wa
        have TAH := Lib.hid ta; clear ta
        have ZB := Lib.hid zb; clear zb
        go_wp2_with fail
        clear wac0 wac1 walt tac0 tac1 tac2 tac3 tac4 tac5 tac6 tac7 talt
        have wa := WAH.out; clear WAH
        have ta := TAH.out; clear TAH
        have zb := ZB.out; clear ZB
        go_ret
        exact ⟨fbool Hv.out.symm, zb⟩
/-- what is left of the search at e -/
def lstV (o c : List (Int × Int)) (t : Tm) (a u e : Int) : Option Int := if termsB t = true then leastB o c t a u (t.most + 1 - e).toNat e else none
theorem lstV_zero (o c : List (Int × Int)) (t : Tm) (a u : Int) : lstV o c t a u 0 = lstB o c t a u := by unfold lstV lstB; rw [show t.most + 1 - 0 = t.most + 1 by omega]
theorem lstV_none {o c : List (Int × Int)} {t : Tm} {a u e : Int} (h0 : 0 ≤ e) (h : deadB o c t a e = none) : lstV o c t a u e = none := by
  unfold lstV; split
  · exact least_none _ h0 h
  · rfl
theorem lstV_hit {o c : List (Int × Int)} {t : Tm} {a u e x : Int} (h : deadB o c t a e = some x) (hu : u ≤ x) : lstV o c t a u e = some e := by
  obtain ⟨r1, r2, r3, _⟩ := dead_range h
  rw [lstV, if_pos r1, show (t.most + 1 - e).toNat = (t.most - e).toNat + 1 by omega, least_hit _ h hu]
theorem lstV_low {o c : List (Int × Int)} {t : Tm} {a u e x : Int} (h : deadB o c t a e = some x) (hu : ¬ u ≤ x) : lstV o c t a u e = lstV o c t a u (e + 1) := by
  obtain ⟨r1, r2, r3, _⟩ := dead_range h
  rw [lstV, lstV, if_pos r1, if_pos r1, show (t.most + 1 - e).toNat = (t.most - e).toNat + 1 by omega, least_low _ h hu]
  congr 1; omega
theorem lstV_no {o c : List (Int × Int)} {t : Tm} {a u e : Int} (ht : termsB t = true) (h0 : 0 ≤ e) (he : e ≤ t.most) (h : deadB o c t a e = none) : lstV o c t a u e = lstV o c t a u (e + 1) := by
  rw [lstV, lstV, if_pos ht, if_pos ht, show (t.most + 1 - e).toNat = (t.most - e).toNat + 1 by omega, least_no _ h]
  congr 1; omega
theorem lstV_end {o c : List (Int × Int)} {t : Tm} {a u e : Int} (he : t.most < e) : lstV o c t a u e = none := by
  unfold lstV; split
  · rw [show (t.most + 1 - e).toNat = 0 by omega]; rfl
  · rfl

set_option maxRecDepth 100000 in
set_option maxHeartbeats 4000000 in
theorem leastI_any (w : World) (B : Nat) (A A' : Option Addr) (n n' : Nat) (o c : List (Int × Int)) (t : Tm) (a u : Int) (ho : o.length ≤ maxLen) (hc : c.length ≤ maxLen) (hB : B ≤ w.heap.size) (hS : SL w B A o) (hS' : SL w B A' c) : Calls Try.prog 15 #[.agg #[.slice A o.length n, .slice A' c.length n'], .agg #[.int .i64 t.keep, .int .i64 t.free, .int .i64 t.step, .int .i64 t.rate, .int .i64 t.cap, .int .i64 t.longer, .int .i64 t.price, .int .i64 t.most], .int .i64 a, .int .i64 u] w fun r w' => r = .returned (pairV (lstB o c t a u)) ∧ Below w.heap.size w w' := by
  have HS := Lib.hid hS; clear hS
  have HS' := Lib.hid hS'; clear hS'
  go_enter Try.func15, Try.ntmps15
  go_wp2_with fail
  generalize hX : (w.alloc (.cells #[.slice A o.length n, .slice A' c.length n'] 26)) = w1
  have hb : Below w.heap.size w w1 := by rw [← hX]; exact balloc _ _
  have hk : Has w1 w.heap.size 26 #[.slice A o.length n, .slice A' c.length n'] := by rw [← hX]; exact has_new _ _ _
  have hzw1 : w1.heap.size = w.heap.size + 1 := by rw [← hX]; simp
  clear hX
  have zb := hb; clear hb
  have wa := hk; clear hk
  generalize hX : (w1.alloc (.cells #[.int .i64 t.keep, .int .i64 t.free, .int .i64 t.step, .int .i64 t.rate, .int .i64 t.cap, .int .i64 t.longer, .int .i64 t.price, .int .i64 t.most] 29)) = w2
  have hb : Below w1.heap.size w1 w2 := by rw [← hX]; exact balloc _ _
  have hk : Has w2 w1.heap.size 29 #[.int .i64 t.keep, .int .i64 t.free, .int .i64 t.step, .int .i64 t.rate, .int .i64 t.cap, .int .i64 t.longer, .int .i64 t.price, .int .i64 t.most] := by rw [← hX]; exact has_new _ _ _
  have hzw2 : w2.heap.size = w.heap.size + 2 := by rw [← hX]; simp [hzw1]
  clear hX
  rw [hzw1] at hk
  replace wa := has_call wa hb
  replace zb := bthen zb hb; clear hb
  have ta := hk; clear hk
  clear hzw1 hzw2
  have wac0 := has_cell wa 0 rfl; have wac1 := has_cell wa 1 rfl
  have walt := has_lt wa
  have tac0 := has_cell ta 0 rfl; have tac1 := has_cell ta 1 rfl; have tac2 := has_cell ta 2 rfl; have tac3 := has_cell ta 3 rfl; have tac4 := has_cell ta 4 rfl; have tac5 := has_cell ta 5 rfl; have tac6 := has_cell ta 6 rfl; have tac7 := has_cell ta 7 rfl
  have talt := has_lt ta
  have WAH := Lib.hid wa; clear wa
  have TAH := Lib.hid ta; clear ta
  have ZB := Lib.hid zb; clear zb
  go_wp2_with fail
  clear wac0 wac1 walt tac0 tac1 tac2 tac3 tac4 tac5 tac6 tac7 talt
  have wa := WAH.out; clear WAH
  have ta := TAH.out; clear TAH
  have zb := ZB.out; clear ZB
  have WA0 := Lib.hid wa; clear wa
  have TA0 := Lib.hid ta; clear ta
  have ZB0 := Lib.hid zb; clear zb
  go_loopw [10] (fun i wr => ∃ e : Int, 0 ≤ e ∧ e ≤ 21 ∧ i = .int .i64 e ∧ lstV o c t a u e = lstB o c t a u ∧ Below w2.heap.size w2 wr) (fun i _ => (30 - intOf i).toNat)
  case atStart => exact ⟨0, by omega, by omega, rfl, lstV_zero o c t a u, Below.refl _ _⟩
  case round =>
    obtain ⟨e, he0, he1, rfl, hr, hb⟩ := hrel
    have Hr := Lib.hid hr; clear hr
    obtain ⟨q, hq⟩ : ∃ q, deadB o c t a e = q := ⟨_, rfl⟩
    cases q with
    | none =>
      have Hv := Lib.hid (Hr.out.symm.trans (lstV_none he0 hq)); have Hq := Lib.hid hq; clear hq
      have wa := has_call WA0.out hb
      have ta := has_call TA0.out hb
      have zb := bthen ZB0.out hb
      have hbr := hb; clear hb
      have wac0 := has_cell wa 0 rfl; have wac1 := has_cell wa 1 rfl
      have walt := has_lt wa
      have tac0 := has_cell ta 0 rfl; have tac1 := has_cell ta 1 rfl; have tac2 := has_cell ta 2 rfl; have tac3 := has_cell ta 3 rfl; have tac4 := has_cell ta 4 rfl; have tac5 := has_cell ta 5 rfl; have tac6 := has_cell ta 6 rfl; have tac7 := has_cell ta 7 rfl
      have talt := has_lt ta
      have WAH := Lib.hid wa; clear wa
      have TAH := Lib.hid ta; clear ta
      have ZB := Lib.hid zb; clear zb
      go_wp2_with fail
      clear wac0 wac1 walt tac0 tac1 tac2 tac3 tac4 tac5 tac6 tac7 talt
      have wa := WAH.out; clear WAH
      have ta := TAH.out; clear TAH
      have zb := ZB.out; clear ZB
      refine (deadI_any _ B A A' n n' o c t a e ho hc (by have := zb.size; omega) (HS.out.later hB zb) (HS'.out.later hB zb)).mono ?_
      rintro e w101 ⟨rfl, hb⟩
      replace hbr := bthen hbr hb
      replace wa := has_call wa hb
      replace ta := has_call ta hb
      replace zb := bthen zb hb; clear hb
      rw [Hq.out]; unfold pairV
      have wac0 := has_cell wa 0 rfl; have wac1 := has_cell wa 1 rfl
      have walt := has_lt wa
      have tac0 := has_cell ta 0 rfl; have tac1 := has_cell ta 1 rfl; have tac2 := has_cell ta 2 rfl; have tac3 := has_cell ta 3 rfl; have tac4 := has_cell ta 4 rfl; have tac5 := has_cell ta 5 rfl; have tac6 := has_cell ta 6 rfl; have tac7 := has_cell ta 7 rfl
      have talt := has_lt ta
      have WAH := Lib.hid wa; clear wa
      have TAH := Lib.hid ta; clear ta
      have ZB := Lib.hid zb; clear zb
      go_wp2_with fail
      clear wac0 wac1 walt tac0 tac1 tac2 tac3 tac4 tac5 tac6 tac7 talt
      have wa := WAH.out; clear WAH
      have ta := TAH.out; clear TAH
      have zb := ZB.out; clear ZB
      go_ret2
      exact ⟨ret_none Hv.out, zb⟩
    | some x =>
      have hdr := dead_range hq
      have hmm := ((terms_iff t).1 hdr.1).2.2.2.2.2.2.2
      have he2 : e ≤ 20 := by omega
      clear hdr hmm
      by_cases hu : u ≤ x
      · have Hv := Lib.hid (Hr.out.symm.trans (lstV_hit hq hu))
        have Hq := Lib.hid hq; clear hq
        have wa := has_call WA0.out hb
        have ta := has_call TA0.out hb
        have zb := bthen ZB0.out hb
        have hbr := hb; clear hb
        have wac0 := has_cell wa 0 rfl; have wac1 := has_cell wa 1 rfl
        have walt := has_lt wa
        have tac0 := has_cell ta 0 rfl; have tac1 := has_cell ta 1 rfl; have tac2 := has_cell ta 2 rfl; have tac3 := has_cell ta 3 rfl; have tac4 := has_cell ta 4 rfl; have tac5 := has_cell ta 5 rfl; have tac6 := has_cell ta 6 rfl; have tac7 := has_cell ta 7 rfl
        have talt := has_lt ta
        have WAH := Lib.hid wa; clear wa
        have TAH := Lib.hid ta; clear ta
        have ZB := Lib.hid zb; clear zb
        go_wp2_with fail
        clear wac0 wac1 walt tac0 tac1 tac2 tac3 tac4 tac5 tac6 tac7 talt
        have wa := WAH.out; clear WAH
        have ta := TAH.out; clear TAH
        have zb := ZB.out; clear ZB
        refine (deadI_any _ B A A' n n' o c t a e ho hc (by have := zb.size; omega) (HS.out.later hB zb) (HS'.out.later hB zb)).mono ?_
        rintro e w101 ⟨rfl, hb⟩
        replace hbr := bthen hbr hb
        replace wa := has_call wa hb
        replace ta := has_call ta hb
        replace zb := bthen zb hb; clear hb
        rw [Hq.out]; unfold pairV
        have wac0 := has_cell wa 0 rfl; have wac1 := has_cell wa 1 rfl
        have walt := has_lt wa
        have tac0 := has_cell ta 0 rfl; have tac1 := has_cell ta 1 rfl; have tac2 := has_cell ta 2 rfl; have tac3 := has_cell ta 3 rfl; have tac4 := has_cell ta 4 rfl; have tac5 := has_cell ta 5 rfl; have tac6 := has_cell ta 6 rfl; have tac7 := has_cell ta 7 rfl
        have talt := has_lt ta
        have WAH := Lib.hid wa; clear wa
        have TAH := Lib.hid ta; clear ta
        have ZB := Lib.hid zb; clear zb
        go_wp2_with fail
        clear wac0 wac1 walt tac0 tac1 tac2 tac3 tac4 tac5 tac6 tac7 talt
        have wa := WAH.out; clear WAH
        have ta := TAH.out; clear TAH
        have zb := ZB.out; clear ZB
        go_ret2
        exact ⟨ret_some Hv.out, zb⟩
      · have Hv := Lib.hid ((lstV_low hq hu).symm.trans Hr.out)
        have Hq := Lib.hid hq; clear hq
        have wa := has_call WA0.out hb
        have ta := has_call TA0.out hb
        have zb := bthen ZB0.out hb
        have hbr := hb; clear hb
        have wac0 := has_cell wa 0 rfl; have wac1 := has_cell wa 1 rfl
        have walt := has_lt wa
        have tac0 := has_cell ta 0 rfl; have tac1 := has_cell ta 1 rfl; have tac2 := has_cell ta 2 rfl; have tac3 := has_cell ta 3 rfl; have tac4 := has_cell ta 4 rfl; have tac5 := has_cell ta 5 rfl; have tac6 := has_cell ta 6 rfl; have tac7 := has_cell ta 7 rfl
        have talt := has_lt ta
        have WAH := Lib.hid wa; clear wa
        have TAH := Lib.hid ta; clear ta
        have ZB := Lib.hid zb; clear zb
        go_wp2_with fail
        clear wac0 wac1 walt tac0 tac1 tac2 tac3 tac4 tac5 tac6 tac7 talt
        have wa := WAH.out; clear WAH
        have ta := TAH.out; clear TAH
        have zb := ZB.out; clear ZB
        refine (deadI_any _ B A A' n n' o c t a e ho hc (by have := zb.size; omega) (HS.out.later hB zb) (HS'.out.later hB zb)).mono ?_
        rintro e w101 ⟨rfl, hb⟩
        replace hbr := bthen hbr hb
        replace wa := has_call wa hb
        replace ta := has_call ta hb
        replace zb := bthen zb hb; clear hb
        rw [Hq.out]; unfold pairV
        have wac0 := has_cell wa 0 rfl; have wac1 := has_cell wa 1 rfl
        have walt := has_lt wa
        have tac0 := has_cell ta 0 rfl; have tac1 := has_cell ta 1 rfl; have tac2 := has_cell ta 2 rfl; have tac3 := has_cell ta 3 rfl; have tac4 := has_cell ta 4 rfl; have tac5 := has_cell ta 5 rfl; have tac6 := has_cell ta 6 rfl; have tac7 := has_cell ta 7 rfl
        have talt := has_lt ta
        have WAH := Lib.hid wa; clear wa
        have TAH := Lib.hid ta; clear ta
        have ZB := Lib.hid zb; clear zb
        go_wp2_with fail
        clear wac0 wac1 walt tac0 tac1 tac2 tac3 tac4 tac5 tac6 tac7 talt
        have wa := WAH.out; clear WAH
        have ta := TAH.out; clear TAH
        have zb := ZB.out; clear ZB
        go_roundw
        case rel => exact ⟨e + 1, by omega, by omega, rfl, Hv.out, hbr⟩
        case measure => simp [intOf]; omega
end Go.Proofs.Ytpooffekjealhaa
