/- Chapter 4: contracts of SignsOf, Recover and Inspect, both sides. -/
import Derived.Test.YtaeonangkbhmgaaDorC
import Derived.Test.YtaeonangkbhmgaaDorD
import Derived.Test.YtaeonangkbhmgaaDorE
import Derived.StillTailTactics
namespace Go.Proofs.Ytaeonangkbhmgaa
open Go.RowKit
set_option linter.unusedVariables false
set_option maxHeartbeats 1000000 in
theorem signI_any (w : World) (t : Bool) (x : Int) : Calls Try.prog 49 #[.bool t, .int .i64 x] w fun e w' => e = .returned (.bool (signB t x)) ∧ w' = w := by
  go_enter Try.func49, Try.ntmps49
  go_wp2
  all_goals (go_ret; exact ⟨rbool (by simp_all [signB]), rfl⟩)
set_option maxHeartbeats 1000000 in
theorem signS_any (w : World) (t : Bool) (x : Int) (hx : inR x 0 2 = true) : Calls Try.prog 53 #[.bool t, .int .i64 x] w fun e w' => e = .returned (.bool (signB t x)) ∧ w' = w := by
  have hc : x = 0 ∨ x = 1 ∨ x = 2 := by have := inR_iff.1 hx; omega
  clear hx
  rcases hc with rfl | rfl | rfl
  all_goals
    go_enter Try.func53, Try.ntmps53
    go_wp2
    all_goals (go_ret; exact ⟨rbool (by simp_all [signB]), rfl⟩)
theorem faultsB_iff {a b c d : Int} : faultsB a b c d = true ↔ inR a 0 2 = true ∧ inR b 0 2 = true ∧ inR c 0 2 = true ∧ inR d 0 2 = true := by simp [faultsB, and_assoc]
def sgT (x : (Bool × Bool × Bool × Bool) × Bool) : Value := .tuple #[.agg (sgA x.1), .bool x.2]
theorem signsD_yes {d : Dr} {a b c e : Int} (h : d.ok = true) (h' : faultsB a b c e = true) : signsD d a b c e = ((signB (!d.o) a, signB (!d.o) b, signB d.f c, signB d.f e), true) := by unfold signsD; rw [h, h']; rfl
theorem signsD_no1 {d : Dr} {a b c e : Int} (h : d.ok = false) : signsD d a b c e = ((false, false, false, false), false) := by unfold signsD; rw [h]; rfl
theorem signsD_no2 {d : Dr} {a b c e : Int} (h' : faultsB a b c e = false) : signsD d a b c e = ((false, false, false, false), false) := by unfold signsD; rw [h', Bool.and_false]; rfl
set_option maxRecDepth 100000 in
set_option maxHeartbeats 4000000 in
theorem signsI_any (w : World) (k s : Int) (l o f : Bool) (a b c d : Int) : Calls Try.prog 25 #[.agg #[.int .i64 k, .int .i64 s, .bool l, .bool o, .bool f], .agg #[.int .i64 a, .int .i64 b, .int .i64 c, .int .i64 d]] w fun e w' => e = .returned (sgT (signsD ⟨k, s, l, o, f⟩ a b c d)) ∧ Below w.heap.size w w' := by
  cases hok : doorB k s l o f
  · have HV := Lib.hid (signsD_no1 (d := ⟨k, s, l, o, f⟩) (a := a) (b := b) (c := c) (e := d) hok)
    have HK := Lib.hid hok; clear hok
    go_enter Try.func25, Try.ntmps25
    go_wp2_with fail
    generalize hX : (w.alloc (.cells #[.int .i64 k, .int .i64 s, .bool l, .bool o, .bool f] 27)) = w1
    have hb : Below w.heap.size w w1 := by rw [← hX]; exact balloc _ _
    have hk : Has w1 w.heap.size 27 #[.int .i64 k, .int .i64 s, .bool l, .bool o, .bool f] := by rw [← hX]; exact has_new _ _ _
    have hzw1 : w1.heap.size = w.heap.size + 1 := by rw [← hX]; simp
    clear hX
    have zb := hb; clear hb
    have za := hk; clear hk
    generalize hX : (w1.alloc (.cells #[.int .i64 a, .int .i64 b, .int .i64 c, .int .i64 d] 42)) = w2
    have hb : Below w1.heap.size w1 w2 := by rw [← hX]; exact balloc _ _
    have hk : Has w2 w1.heap.size 42 #[.int .i64 a, .int .i64 b, .int .i64 c, .int .i64 d] := by rw [← hX]; exact has_new _ _ _
    have hzw2 : w2.heap.size = w.heap.size + 2 := by rw [← hX]; simp [hzw1]
    clear hX
    rw [hzw1] at hk
    replace za := has_call za hb
    replace zb := bthen zb hb; clear hb
    have zf := hk; clear hk
    generalize hX : (w2.alloc (.cells #[.bool false, .bool false, .bool false, .bool false] 45)) = w3
    have hb : Below w2.heap.size w2 w3 := by rw [← hX]; exact balloc _ _
    have hk : Has w3 w2.heap.size 45 #[.bool false, .bool false, .bool false, .bool false] := by rw [← hX]; exact has_new _ _ _
    have hzw3 : w3.heap.size = w.heap.size + 3 := by rw [← hX]; simp [hzw2]
    clear hX
    rw [hzw2] at hk
    replace za := has_call za hb
    replace zf := has_call zf hb
    replace zb := bthen zb hb; clear hb
    have zr := hk; clear hk
    clear hzw1 hzw2 hzw3
    refine (doorI_any _ k s l o f).mono ?_
    rintro e w4 ⟨rfl, hb⟩
    rw [HK.out]
    replace za := has_call za hb
    replace zf := has_call zf hb
    replace zr := has_call zr hb
    replace zb := bthen zb hb; clear hb
    have zac0 := has_cell za 0 rfl; have zac1 := has_cell za 1 rfl; have zac2 := has_cell za 2 rfl; have zac3 := has_cell za 3 rfl; have zac4 := has_cell za 4 rfl
    have zalt := has_lt za
    have zfc0 := has_cell zf 0 rfl; have zfc1 := has_cell zf 1 rfl; have zfc2 := has_cell zf 2 rfl; have zfc3 := has_cell zf 3 rfl
    have zflt := has_lt zf
    have zrc0 := has_cell zr 0 rfl; have zrc1 := has_cell zr 1 rfl; have zrc2 := has_cell zr 2 rfl; have zrc3 := has_cell zr 3 rfl
    have zrf0 := has_free zr 0; have zrf1 := has_free zr 1; have zrf2 := has_free zr 2; have zrf3 := has_free zr 3
    have zrlt := has_lt zr
    have ZAH := Lib.hid za; clear za
    have ZFH := Lib.hid zf; clear zf
    have ZRH := Lib.hid zr; clear zr
    have ZB := Lib.hid zb; clear zb
    go_wp2_with fail
    refine bodyPost_ret (v := .tuple #[.agg #[.bool false, .bool false, .bool false, .bool false], .bool false]) (by simp [results, Try.results25, go_sem, zac0, zac1, zac2, zac3, zac4, zalt, zfc0, zfc1, zfc2, zfc3, zflt, zrc0, zrc1, zrc2, zrc3, zrf0, zrf1, zrf2, zrf3, zrlt]) rfl ⟨retv (by rw [HV.out]; rfl), ?_⟩
    repeat (first | (with_reducible exact ZB.out) | (with_reducible refine Below.drew ?_) | (with_reducible refine Below.setCell ?_ (by first | exact Nat.le_refl _ | exact Nat.le_add_right _ _ | (simp <;> omega)) _))
  cases hf : faultsB a b c d
  · have HV := Lib.hid (signsD_no2 (d := ⟨k, s, l, o, f⟩) (a := a) (b := b) (c := c) (e := d) hf)
    have HK := Lib.hid hok; clear hok
    have HF := Lib.hid hf; clear hf
    go_enter Try.func25, Try.ntmps25
    go_wp2_with fail
    generalize hX : (w.alloc (.cells #[.int .i64 k, .int .i64 s, .bool l, .bool o, .bool f] 27)) = w1
    have hb : Below w.heap.size w w1 := by rw [← hX]; exact balloc _ _
    have hk : Has w1 w.heap.size 27 #[.int .i64 k, .int .i64 s, .bool l, .bool o, .bool f] := by rw [← hX]; exact has_new _ _ _
    have hzw1 : w1.heap.size = w.heap.size + 1 := by rw [← hX]; simp
    clear hX
    have zb := hb; clear hb
    have za := hk; clear hk
    generalize hX : (w1.alloc (.cells #[.int .i64 a, .int .i64 b, .int .i64 c, .int .i64 d] 42)) = w2
    have hb : Below w1.heap.size w1 w2 := by rw [← hX]; exact balloc _ _
    have hk : Has w2 w1.heap.size 42 #[.int .i64 a, .int .i64 b, .int .i64 c, .int .i64 d] := by rw [← hX]; exact has_new _ _ _
    have hzw2 : w2.heap.size = w.heap.size + 2 := by rw [← hX]; simp [hzw1]
    clear hX
    rw [hzw1] at hk
    replace za := has_call za hb
    replace zb := bthen zb hb; clear hb
    have zf := hk; clear hk
    generalize hX : (w2.alloc (.cells #[.bool false, .bool false, .bool false, .bool false] 45)) = w3
    have hb : Below w2.heap.size w2 w3 := by rw [← hX]; exact balloc _ _
    have hk : Has w3 w2.heap.size 45 #[.bool false, .bool false, .bool false, .bool false] := by rw [← hX]; exact has_new _ _ _
    have hzw3 : w3.heap.size = w.heap.size + 3 := by rw [← hX]; simp [hzw2]
    clear hX
    rw [hzw2] at hk
    replace za := has_call za hb
    replace zf := has_call zf hb
    replace zb := bthen zb hb; clear hb
    have zr := hk; clear hk
    clear hzw1 hzw2 hzw3
    refine (doorI_any _ k s l o f).mono ?_
    rintro e w4 ⟨rfl, hb⟩
    rw [HK.out]
    replace za := has_call za hb
    replace zf := has_call zf hb
    replace zr := has_call zr hb
    replace zb := bthen zb hb; clear hb
    have zac0 := has_cell za 0 rfl; have zac1 := has_cell za 1 rfl; have zac2 := has_cell za 2 rfl; have zac3 := has_cell za 3 rfl; have zac4 := has_cell za 4 rfl
    have zalt := has_lt za
    have zfc0 := has_cell zf 0 rfl; have zfc1 := has_cell zf 1 rfl; have zfc2 := has_cell zf 2 rfl; have zfc3 := has_cell zf 3 rfl
    have zflt := has_lt zf
    have zrc0 := has_cell zr 0 rfl; have zrc1 := has_cell zr 1 rfl; have zrc2 := has_cell zr 2 rfl; have zrc3 := has_cell zr 3 rfl
    have zrf0 := has_free zr 0; have zrf1 := has_free zr 1; have zrf2 := has_free zr 2; have zrf3 := has_free zr 3
    have zrlt := has_lt zr
    have ZAH := Lib.hid za; clear za
    have ZFH := Lib.hid zf; clear zf
    have ZRH := Lib.hid zr; clear zr
    have ZB := Lib.hid zb; clear zb
    go_wp2_with fail
    clear zac0 zac1 zac2 zac3 zac4 zalt zfc0 zfc1 zfc2 zfc3 zflt zrc0 zrc1 zrc2 zrc3 zrf0 zrf1 zrf2 zrf3 zrlt
    have za := ZAH.out; clear ZAH
    have zf := ZFH.out; clear ZFH
    have zr := ZRH.out; clear ZRH
    have zb := ZB.out; clear ZB
    refine (faultsI_any _ a b c d).mono ?_
    rintro e w5 ⟨rfl, hb⟩
    rw [HF.out]
    replace za := has_call za hb
    replace zf := has_call zf hb
    replace zr := has_call zr hb
    replace zb := bthen zb hb; clear hb
    have zac0 := has_cell za 0 rfl; have zac1 := has_cell za 1 rfl; have zac2 := has_cell za 2 rfl; have zac3 := has_cell za 3 rfl; have zac4 := has_cell za 4 rfl
    have zalt := has_lt za
    have zfc0 := has_cell zf 0 rfl; have zfc1 := has_cell zf 1 rfl; have zfc2 := has_cell zf 2 rfl; have zfc3 := has_cell zf 3 rfl
    have zflt := has_lt zf
    have zrc0 := has_cell zr 0 rfl; have zrc1 := has_cell zr 1 rfl; have zrc2 := has_cell zr 2 rfl; have zrc3 := has_cell zr 3 rfl
    have zrf0 := has_free zr 0; have zrf1 := has_free zr 1; have zrf2 := has_free zr 2; have zrf3 := has_free zr 3
    have zrlt := has_lt zr
    have ZAH := Lib.hid za; clear za
    have ZFH := Lib.hid zf; clear zf
    have ZRH := Lib.hid zr; clear zr
    have ZB := Lib.hid zb; clear zb
    go_wp2_with fail
    refine bodyPost_ret (v := .tuple #[.agg #[.bool false, .bool false, .bool false, .bool false], .bool false]) (by simp [results, Try.results25, go_sem, zac0, zac1, zac2, zac3, zac4, zalt, zfc0, zfc1, zfc2, zfc3, zflt, zrc0, zrc1, zrc2, zrc3, zrf0, zrf1, zrf2, zrf3, zrlt]) rfl ⟨retv (by rw [HV.out]; rfl), ?_⟩
    repeat (first | (with_reducible exact ZB.out) | (with_reducible refine Below.drew ?_) | (with_reducible refine Below.setCell ?_ (by first | exact Nat.le_refl _ | exact Nat.le_add_right _ _ | (simp <;> omega)) _))
  have HV := Lib.hid (signsD_yes (d := ⟨k, s, l, o, f⟩) (a := a) (b := b) (c := c) (e := d) hok hf)
  have HK := Lib.hid hok; clear hok
  have HF := Lib.hid hf; clear hf
  go_enter Try.func25, Try.ntmps25
  go_wp2_with fail
  generalize hX : (w.alloc (.cells #[.int .i64 k, .int .i64 s, .bool l, .bool o, .bool f] 27)) = w1
  have hb : Below w.heap.size w w1 := by rw [← hX]; exact balloc _ _
  have hk : Has w1 w.heap.size 27 #[.int .i64 k, .int .i64 s, .bool l, .bool o, .bool f] := by rw [← hX]; exact has_new _ _ _
  have hzw1 : w1.heap.size = w.heap.size + 1 := by rw [← hX]; simp
  clear hX
  have zb := hb; clear hb
  have za := hk; clear hk
  generalize hX : (w1.alloc (.cells #[.int .i64 a, .int .i64 b, .int .i64 c, .int .i64 d] 42)) = w2
  have hb : Below w1.heap.size w1 w2 := by rw [← hX]; exact balloc _ _
  have hk : Has w2 w1.heap.size 42 #[.int .i64 a, .int .i64 b, .int .i64 c, .int .i64 d] := by rw [← hX]; exact has_new _ _ _
  have hzw2 : w2.heap.size = w.heap.size + 2 := by rw [← hX]; simp [hzw1]
  clear hX
  rw [hzw1] at hk
  replace za := has_call za hb
  replace zb := bthen zb hb; clear hb
  have zf := hk; clear hk
  generalize hX : (w2.alloc (.cells #[.bool false, .bool false, .bool false, .bool false] 45)) = w3
  have hb : Below w2.heap.size w2 w3 := by rw [← hX]; exact balloc _ _
  have hk : Has w3 w2.heap.size 45 #[.bool false, .bool false, .bool false, .bool false] := by rw [← hX]; exact has_new _ _ _
  have hzw3 : w3.heap.size = w.heap.size + 3 := by rw [← hX]; simp [hzw2]
  clear hX
  rw [hzw2] at hk
  replace za := has_call za hb
  replace zf := has_call zf hb
  replace zb := bthen zb hb; clear hb
  have zr := hk; clear hk
  clear hzw1 hzw2 hzw3
  refine (doorI_any _ k s l o f).mono ?_
  rintro e w4 ⟨rfl, hb⟩
  rw [HK.out]
  replace za := has_call za hb
  replace zf := has_call zf hb
  replace zr := has_call zr hb
  replace zb := bthen zb hb; clear hb
  have zac0 := has_cell za 0 rfl; have zac1 := has_cell za 1 rfl; have zac2 := has_cell za 2 rfl; have zac3 := has_cell za 3 rfl; have zac4 := has_cell za 4 rfl
  have zalt := has_lt za
  have zfc0 := has_cell zf 0 rfl; have zfc1 := has_cell zf 1 rfl; have zfc2 := has_cell zf 2 rfl; have zfc3 := has_cell zf 3 rfl
  have zflt := has_lt zf
  have zrc0 := has_cell zr 0 rfl; have zrc1 := has_cell zr 1 rfl; have zrc2 := has_cell zr 2 rfl; have zrc3 := has_cell zr 3 rfl
  have zrf0 := has_free zr 0; have zrf1 := has_free zr 1; have zrf2 := has_free zr 2; have zrf3 := has_free zr 3
  have zrlt := has_lt zr
  have ZAH := Lib.hid za; clear za
  have ZFH := Lib.hid zf; clear zf
  have ZRH := Lib.hid zr; clear zr
  have ZB := Lib.hid zb; clear zb
  go_wp2_with fail
  clear zac0 zac1 zac2 zac3 zac4 zalt zfc0 zfc1 zfc2 zfc3 zflt zrc0 zrc1 zrc2 zrc3 zrf0 zrf1 zrf2 zrf3 zrlt
  have za := ZAH.out; clear ZAH
  have zf := ZFH.out; clear ZFH
  have zr := ZRH.out; clear ZRH
  have zb := ZB.out; clear ZB
  refine (faultsI_any _ a b c d).mono ?_
  rintro e w5 ⟨rfl, hb⟩
  rw [HF.out]
  replace za := has_call za hb
  replace zf := has_call zf hb
  replace zr := has_call zr hb
  replace zb := bthen zb hb; clear hb
  have zac0 := has_cell za 0 rfl; have zac1 := has_cell za 1 rfl; have zac2 := has_cell za 2 rfl; have zac3 := has_cell za 3 rfl; have zac4 := has_cell za 4 rfl
  have zalt := has_lt za
  have zfc0 := has_cell zf 0 rfl; have zfc1 := has_cell zf 1 rfl; have zfc2 := has_cell zf 2 rfl; have zfc3 := has_cell zf 3 rfl
  have zflt := has_lt zf
  have zrc0 := has_cell zr 0 rfl; have zrc1 := has_cell zr 1 rfl; have zrc2 := has_cell zr 2 rfl; have zrc3 := has_cell zr 3 rfl
  have zrf0 := has_free zr 0; have zrf1 := has_free zr 1; have zrf2 := has_free zr 2; have zrf3 := has_free zr 3
  have zrlt := has_lt zr
  have ZAH := Lib.hid za; clear za
  have ZFH := Lib.hid zf; clear zf
  have ZRH := Lib.hid zr; clear zr
  have ZB := Lib.hid zb; clear zb
  go_wp2_with fail
  refine wp_region_still_tail 23 (by kernel_rfl) (by kernel_rfl) ?_
  simp only [List.take_succ_cons, List.take_zero, List.drop_succ_cons, List.drop_zero]
  repeat (first | still_step | still_call (signI_any _ _ _))
  refine wpStill_nil ?_
  change wpList _ _ _ _ _ w5.drew
  go_wp2_with fail
  refine bodyPost_ret (v := .tuple #[.agg #[.bool (signB (!o) a), .bool (signB (!o) b), .bool (signB f c), .bool (signB f d)], .bool true]) (by simp [results, Try.results25, go_sem, zac0, zac1, zac2, zac3, zac4, zalt, zfc0, zfc1, zfc2, zfc3, zflt, zrc0, zrc1, zrc2, zrc3, zrf0, zrf1, zrf2, zrf3, zrlt]) rfl ⟨retv (by rw [HV.out]; rfl), ?_⟩
  repeat (first | (with_reducible exact ZB.out) | (with_reducible refine Below.drew ?_) | (with_reducible refine Below.setCell ?_ (by first | exact Nat.le_refl _ | exact Nat.le_add_right _ _ | (simp <;> omega)) _))
set_option maxRecDepth 100000 in
set_option maxHeartbeats 4000000 in
theorem signsS_any (w : World) (k s : Int) (l o f : Bool) (a b c d : Int) : Calls Try.prog 30 #[.agg #[.int .i64 k, .int .i64 s, .bool l, .bool o, .bool f], .agg #[.int .i64 a, .int .i64 b, .int .i64 c, .int .i64 d]] w fun e w' => e = .returned (sgT (signsD ⟨k, s, l, o, f⟩ a b c d)) ∧ Below w.heap.size w w' := by
  cases hok : doorB k s l o f
  · have HV := Lib.hid (signsD_no1 (d := ⟨k, s, l, o, f⟩) (a := a) (b := b) (c := c) (e := d) hok)
    have HK := Lib.hid hok; clear hok
    go_enter Try.func30, Try.ntmps30
    go_wp2_with fail
    generalize hX : (w.alloc (.cells #[.int .i64 k, .int .i64 s, .bool l, .bool o, .bool f] 27)) = w1
    have hb : Below w.heap.size w w1 := by rw [← hX]; exact balloc _ _
    have hk : Has w1 w.heap.size 27 #[.int .i64 k, .int .i64 s, .bool l, .bool o, .bool f] := by rw [← hX]; exact has_new _ _ _
    have hzw1 : w1.heap.size = w.heap.size + 1 := by rw [← hX]; simp
    clear hX
    have zb := hb; clear hb
    have za := hk; clear hk
    generalize hX : (w1.alloc (.cells #[.int .i64 a, .int .i64 b, .int .i64 c, .int .i64 d] 42)) = w2
    have hb : Below w1.heap.size w1 w2 := by rw [← hX]; exact balloc _ _
    have hk : Has w2 w1.heap.size 42 #[.int .i64 a, .int .i64 b, .int .i64 c, .int .i64 d] := by rw [← hX]; exact has_new _ _ _
    have hzw2 : w2.heap.size = w.heap.size + 2 := by rw [← hX]; simp [hzw1]
    clear hX
    rw [hzw1] at hk
    replace za := has_call za hb
    replace zb := bthen zb hb; clear hb
    have zf := hk; clear hk
    generalize hX : (w2.alloc (.cells #[.bool false, .bool false, .bool false, .bool false] 45)) = w3
    have hb : Below w2.heap.size w2 w3 := by rw [← hX]; exact balloc _ _
    have hk : Has w3 w2.heap.size 45 #[.bool false, .bool false, .bool false, .bool false] := by rw [← hX]; exact has_new _ _ _
    have hzw3 : w3.heap.size = w.heap.size + 3 := by rw [← hX]; simp [hzw2]
    clear hX
    rw [hzw2] at hk
    replace za := has_call za hb
    replace zf := has_call zf hb
    replace zb := bthen zb hb; clear hb
    have zr := hk; clear hk
    clear hzw1 hzw2 hzw3
    refine (doorS_any _ k s l o f).mono ?_
    rintro e w4 ⟨rfl, hb⟩
    rw [HK.out]
    replace za := has_call za hb
    replace zf := has_call zf hb
    replace zr := has_call zr hb
    replace zb := bthen zb hb; clear hb
    have zac0 := has_cell za 0 rfl; have zac1 := has_cell za 1 rfl; have zac2 := has_cell za 2 rfl; have zac3 := has_cell za 3 rfl; have zac4 := has_cell za 4 rfl
    have zalt := has_lt za
    have zfc0 := has_cell zf 0 rfl; have zfc1 := has_cell zf 1 rfl; have zfc2 := has_cell zf 2 rfl; have zfc3 := has_cell zf 3 rfl
    have zflt := has_lt zf
    have zrc0 := has_cell zr 0 rfl; have zrc1 := has_cell zr 1 rfl; have zrc2 := has_cell zr 2 rfl; have zrc3 := has_cell zr 3 rfl
    have zrf0 := has_free zr 0; have zrf1 := has_free zr 1; have zrf2 := has_free zr 2; have zrf3 := has_free zr 3
    have zrlt := has_lt zr
    have ZAH := Lib.hid za; clear za
    have ZFH := Lib.hid zf; clear zf
    have ZRH := Lib.hid zr; clear zr
    have ZB := Lib.hid zb; clear zb
    go_wp2_with fail
    refine bodyPost_ret (v := .tuple #[.agg #[.bool false, .bool false, .bool false, .bool false], .bool false]) (by simp [results, Try.results30, go_sem, zac0, zac1, zac2, zac3, zac4, zalt, zfc0, zfc1, zfc2, zfc3, zflt, zrc0, zrc1, zrc2, zrc3, zrf0, zrf1, zrf2, zrf3, zrlt]) rfl ⟨retv (by rw [HV.out]; rfl), ?_⟩
    repeat (first | (with_reducible exact ZB.out) | (with_reducible refine Below.drew ?_) | (with_reducible refine Below.setCell ?_ (by first | exact Nat.le_refl _ | exact Nat.le_add_right _ _ | (simp <;> omega)) _))
  cases hf : faultsB a b c d
  · have HV := Lib.hid (signsD_no2 (d := ⟨k, s, l, o, f⟩) (a := a) (b := b) (c := c) (e := d) hf)
    have HK := Lib.hid hok; clear hok
    have HF := Lib.hid hf; clear hf
    go_enter Try.func30, Try.ntmps30
    go_wp2_with fail
    generalize hX : (w.alloc (.cells #[.int .i64 k, .int .i64 s, .bool l, .bool o, .bool f] 27)) = w1
    have hb : Below w.heap.size w w1 := by rw [← hX]; exact balloc _ _
    have hk : Has w1 w.heap.size 27 #[.int .i64 k, .int .i64 s, .bool l, .bool o, .bool f] := by rw [← hX]; exact has_new _ _ _
    have hzw1 : w1.heap.size = w.heap.size + 1 := by rw [← hX]; simp
    clear hX
    have zb := hb; clear hb
    have za := hk; clear hk
    generalize hX : (w1.alloc (.cells #[.int .i64 a, .int .i64 b, .int .i64 c, .int .i64 d] 42)) = w2
    have hb : Below w1.heap.size w1 w2 := by rw [← hX]; exact balloc _ _
    have hk : Has w2 w1.heap.size 42 #[.int .i64 a, .int .i64 b, .int .i64 c, .int .i64 d] := by rw [← hX]; exact has_new _ _ _
    have hzw2 : w2.heap.size = w.heap.size + 2 := by rw [← hX]; simp [hzw1]
    clear hX
    rw [hzw1] at hk
    replace za := has_call za hb
    replace zb := bthen zb hb; clear hb
    have zf := hk; clear hk
    generalize hX : (w2.alloc (.cells #[.bool false, .bool false, .bool false, .bool false] 45)) = w3
    have hb : Below w2.heap.size w2 w3 := by rw [← hX]; exact balloc _ _
    have hk : Has w3 w2.heap.size 45 #[.bool false, .bool false, .bool false, .bool false] := by rw [← hX]; exact has_new _ _ _
    have hzw3 : w3.heap.size = w.heap.size + 3 := by rw [← hX]; simp [hzw2]
    clear hX
    rw [hzw2] at hk
    replace za := has_call za hb
    replace zf := has_call zf hb
    replace zb := bthen zb hb; clear hb
    have zr := hk; clear hk
    clear hzw1 hzw2 hzw3
    refine (doorS_any _ k s l o f).mono ?_
    rintro e w4 ⟨rfl, hb⟩
    rw [HK.out]
    replace za := has_call za hb
    replace zf := has_call zf hb
    replace zr := has_call zr hb
    replace zb := bthen zb hb; clear hb
    have zac0 := has_cell za 0 rfl; have zac1 := has_cell za 1 rfl; have zac2 := has_cell za 2 rfl; have zac3 := has_cell za 3 rfl; have zac4 := has_cell za 4 rfl
    have zalt := has_lt za
    have zfc0 := has_cell zf 0 rfl; have zfc1 := has_cell zf 1 rfl; have zfc2 := has_cell zf 2 rfl; have zfc3 := has_cell zf 3 rfl
    have zflt := has_lt zf
    have zrc0 := has_cell zr 0 rfl; have zrc1 := has_cell zr 1 rfl; have zrc2 := has_cell zr 2 rfl; have zrc3 := has_cell zr 3 rfl
    have zrf0 := has_free zr 0; have zrf1 := has_free zr 1; have zrf2 := has_free zr 2; have zrf3 := has_free zr 3
    have zrlt := has_lt zr
    have ZAH := Lib.hid za; clear za
    have ZFH := Lib.hid zf; clear zf
    have ZRH := Lib.hid zr; clear zr
    have ZB := Lib.hid zb; clear zb
    go_wp2_with fail
    clear zac0 zac1 zac2 zac3 zac4 zalt zfc0 zfc1 zfc2 zfc3 zflt zrc0 zrc1 zrc2 zrc3 zrf0 zrf1 zrf2 zrf3 zrlt
    have za := ZAH.out; clear ZAH
    have zf := ZFH.out; clear ZFH
    have zr := ZRH.out; clear ZRH
    have zb := ZB.out; clear ZB
    refine (faultsS_any _ a b c d).mono ?_
    rintro e w5 ⟨rfl, hb⟩
    rw [HF.out]
    replace za := has_call za hb
    replace zf := has_call zf hb
    replace zr := has_call zr hb
    replace zb := bthen zb hb; clear hb
    have zac0 := has_cell za 0 rfl; have zac1 := has_cell za 1 rfl; have zac2 := has_cell za 2 rfl; have zac3 := has_cell za 3 rfl; have zac4 := has_cell za 4 rfl
    have zalt := has_lt za
    have zfc0 := has_cell zf 0 rfl; have zfc1 := has_cell zf 1 rfl; have zfc2 := has_cell zf 2 rfl; have zfc3 := has_cell zf 3 rfl
    have zflt := has_lt zf
    have zrc0 := has_cell zr 0 rfl; have zrc1 := has_cell zr 1 rfl; have zrc2 := has_cell zr 2 rfl; have zrc3 := has_cell zr 3 rfl
    have zrf0 := has_free zr 0; have zrf1 := has_free zr 1; have zrf2 := has_free zr 2; have zrf3 := has_free zr 3
    have zrlt := has_lt zr
    have ZAH := Lib.hid za; clear za
    have ZFH := Lib.hid zf; clear zf
    have ZRH := Lib.hid zr; clear zr
    have ZB := Lib.hid zb; clear zb
    go_wp2_with fail
    refine bodyPost_ret (v := .tuple #[.agg #[.bool false, .bool false, .bool false, .bool false], .bool false]) (by simp [results, Try.results30, go_sem, zac0, zac1, zac2, zac3, zac4, zalt, zfc0, zfc1, zfc2, zfc3, zflt, zrc0, zrc1, zrc2, zrc3, zrf0, zrf1, zrf2, zrf3, zrlt]) rfl ⟨retv (by rw [HV.out]; rfl), ?_⟩
    repeat (first | (with_reducible exact ZB.out) | (with_reducible refine Below.drew ?_) | (with_reducible refine Below.setCell ?_ (by first | exact Nat.le_refl _ | exact Nat.le_add_right _ _ | (simp <;> omega)) _))
  have HV := Lib.hid (signsD_yes (d := ⟨k, s, l, o, f⟩) (a := a) (b := b) (c := c) (e := d) hok hf)
  have hfs := faultsB_iff.1 hf
  obtain ⟨fa, fb, fc, fd⟩ := hfs
  have HSa := Lib.hid fa; clear fa
  have HSb := Lib.hid fb; clear fb
  have HSc := Lib.hid fc; clear fc
  have HSd := Lib.hid fd; clear fd
  have HK := Lib.hid hok; clear hok
  have HF := Lib.hid hf; clear hf
  go_enter Try.func30, Try.ntmps30
  go_wp2_with fail
  generalize hX : (w.alloc (.cells #[.int .i64 k, .int .i64 s, .bool l, .bool o, .bool f] 27)) = w1
  have hb : Below w.heap.size w w1 := by rw [← hX]; exact balloc _ _
  have hk : Has w1 w.heap.size 27 #[.int .i64 k, .int .i64 s, .bool l, .bool o, .bool f] := by rw [← hX]; exact has_new _ _ _
  have hzw1 : w1.heap.size = w.heap.size + 1 := by rw [← hX]; simp
  clear hX
  have zb := hb; clear hb
  have za := hk; clear hk
  generalize hX : (w1.alloc (.cells #[.int .i64 a, .int .i64 b, .int .i64 c, .int .i64 d] 42)) = w2
  have hb : Below w1.heap.size w1 w2 := by rw [← hX]; exact balloc _ _
  have hk : Has w2 w1.heap.size 42 #[.int .i64 a, .int .i64 b, .int .i64 c, .int .i64 d] := by rw [← hX]; exact has_new _ _ _
  have hzw2 : w2.heap.size = w.heap.size + 2 := by rw [← hX]; simp [hzw1]
  clear hX
  rw [hzw1] at hk
  replace za := has_call za hb
  replace zb := bthen zb hb; clear hb
  have zf := hk; clear hk
  generalize hX : (w2.alloc (.cells #[.bool false, .bool false, .bool false, .bool false] 45)) = w3
  have hb : Below w2.heap.size w2 w3 := by rw [← hX]; exact balloc _ _
  have hk : Has w3 w2.heap.size 45 #[.bool false, .bool false, .bool false, .bool false] := by rw [← hX]; exact has_new _ _ _
  have hzw3 : w3.heap.size = w.heap.size + 3 := by rw [← hX]; simp [hzw2]
  clear hX
  rw [hzw2] at hk
  replace za := has_call za hb
  replace zf := has_call zf hb
  replace zb := bthen zb hb; clear hb
  have zr := hk; clear hk
  clear hzw1 hzw2 hzw3
  refine (doorS_any _ k s l o f).mono ?_
  rintro e w4 ⟨rfl, hb⟩
  rw [HK.out]
  replace za := has_call za hb
  replace zf := has_call zf hb
  replace zr := has_call zr hb
  replace zb := bthen zb hb; clear hb
  have zac0 := has_cell za 0 rfl; have zac1 := has_cell za 1 rfl; have zac2 := has_cell za 2 rfl; have zac3 := has_cell za 3 rfl; have zac4 := has_cell za 4 rfl
  have zalt := has_lt za
  have zfc0 := has_cell zf 0 rfl; have zfc1 := has_cell zf 1 rfl; have zfc2 := has_cell zf 2 rfl; have zfc3 := has_cell zf 3 rfl
  have zflt := has_lt zf
  have zrc0 := has_cell zr 0 rfl; have zrc1 := has_cell zr 1 rfl; have zrc2 := has_cell zr 2 rfl; have zrc3 := has_cell zr 3 rfl
  have zrf0 := has_free zr 0; have zrf1 := has_free zr 1; have zrf2 := has_free zr 2; have zrf3 := has_free zr 3
  have zrlt := has_lt zr
  have ZAH := Lib.hid za; clear za
  have ZFH := Lib.hid zf; clear zf
  have ZRH := Lib.hid zr; clear zr
  have ZB := Lib.hid zb; clear zb
  go_wp2_with fail
  clear zac0 zac1 zac2 zac3 zac4 zalt zfc0 zfc1 zfc2 zfc3 zflt zrc0 zrc1 zrc2 zrc3 zrf0 zrf1 zrf2 zrf3 zrlt
  have za := ZAH.out; clear ZAH
  have zf := ZFH.out; clear ZFH
  have zr := ZRH.out; clear ZRH
  have zb := ZB.out; clear ZB
  refine (faultsS_any _ a b c d).mono ?_
  rintro e w5 ⟨rfl, hb⟩
  rw [HF.out]
  replace za := has_call za hb
  replace zf := has_call zf hb
  replace zr := has_call zr hb
  replace zb := bthen zb hb; clear hb
  have zac0 := has_cell za 0 rfl; have zac1 := has_cell za 1 rfl; have zac2 := has_cell za 2 rfl; have zac3 := has_cell za 3 rfl; have zac4 := has_cell za 4 rfl
  have zalt := has_lt za
  have zfc0 := has_cell zf 0 rfl; have zfc1 := has_cell zf 1 rfl; have zfc2 := has_cell zf 2 rfl; have zfc3 := has_cell zf 3 rfl
  have zflt := has_lt zf
  have zrc0 := has_cell zr 0 rfl; have zrc1 := has_cell zr 1 rfl; have zrc2 := has_cell zr 2 rfl; have zrc3 := has_cell zr 3 rfl
  have zrf0 := has_free zr 0; have zrf1 := has_free zr 1; have zrf2 := has_free zr 2; have zrf3 := has_free zr 3
  have zrlt := has_lt zr
  have ZAH := Lib.hid za; clear za
  have ZFH := Lib.hid zf; clear zf
  have ZRH := Lib.hid zr; clear zr
  have ZB := Lib.hid zb; clear zb
  go_wp2_with fail
  refine wp_region_still_tail 23 (by kernel_rfl) (by kernel_rfl) ?_
  simp only [List.take_succ_cons, List.take_zero, List.drop_succ_cons, List.drop_zero]
  repeat (first | still_step | still_call (signS_any _ _ _ HSa.out) | still_call (signS_any _ _ _ HSb.out) | still_call (signS_any _ _ _ HSc.out) | still_call (signS_any _ _ _ HSd.out))
  refine wpStill_nil ?_
  change wpList _ _ _ _ _ w5.drew
  go_wp2_with fail
  refine bodyPost_ret (v := .tuple #[.agg #[.bool (signB (!o) a), .bool (signB (!o) b), .bool (signB f c), .bool (signB f d)], .bool true]) (by simp [results, Try.results30, go_sem, zac0, zac1, zac2, zac3, zac4, zalt, zfc0, zfc1, zfc2, zfc3, zflt, zrc0, zrc1, zrc2, zrc3, zrf0, zrf1, zrf2, zrf3, zrlt]) rfl ⟨retv (by rw [HV.out]; rfl), ?_⟩
  repeat (first | (with_reducible exact ZB.out) | (with_reducible refine Below.drew ?_) | (with_reducible refine Below.setCell ?_ (by first | exact Nat.le_refl _ | exact Nat.le_add_right _ _ | (simp <;> omega)) _))
theorem inspD_no {d : Dr} (h : isCutD d = false) : inspD d = (d, 0, false) := by unfold inspD; rw [h]; rfl
theorem inspD_yes {d : Dr} (h : isCutD d = true) : inspD d = (⟨0, 0, false, false, d.f⟩, outB d.k d.f, true) := by unfold inspD; rw [h]; rfl
theorem cut_facts {k s : Int} {l o f : Bool} (h : isCutD ⟨k, s, l, o, f⟩ = true) : s = 0 ∧ kindB k = true := by
  simp only [isCutD, Dr.ok, Bool.and_eq_true, bne_iff_ne, beq_iff_eq] at h
  exact ⟨h.2, ok_kind h.1.1 (by simpa using h.1.2)⟩
theorem recD_alt (d : Dr) (a b c e : Int) : recD d a b c e = if (signsD d a b c e).2 = false then (d, 0, false) else if isCutD d = false then (d, 0, false) else if 1 < cntF a b c e then (d, 0, false) else
    if verdD d.k (signsD d a b c e).1 = 3 ∨ verdD d.k (signsD d a b c e).1 = 4 then ({ d with k := 0, l := false }, verdD d.k (signsD d a b c e).1, true) else (d, verdD d.k (signsD d a b c e).1, true) := by
  by_cases h : d.ok = true ∧ faultsB a b c e = true
  · have hs := signsD_yes h.1 h.2
    by_cases hc : isCutD d = true
    · by_cases hn : 1 < cntF a b c e
      · simp [recD, hs, h.1, h.2, hc, hn, show ¬ cntF a b c e ≤ 1 by omega]
      · simp [recD, hs, h.1, h.2, hc, hn, show cntF a b c e ≤ 1 by omega]
    · simp only [Bool.not_eq_true] at hc
      simp [recD, hs, h.1, h.2, hc]
  · have hs : (d.ok && faultsB a b c e) = false := by
      rw [← Bool.not_eq_true, Bool.and_eq_true]; exact h
    simp [recD, signsD, hs]

set_option maxRecDepth 100000 in
set_option maxHeartbeats 4000000 in
theorem inspI_any (w : World) (k s : Int) (l o f : Bool) : Calls Try.prog 28 #[.agg #[.int .i64 k, .int .i64 s, .bool l, .bool o, .bool f]] w fun e w' => e = .returned (drI (inspD ⟨k, s, l, o, f⟩)) ∧ Below w.heap.size w w' := by
  cases hc : isCutD ⟨k, s, l, o, f⟩
  · have HV := Lib.hid (inspD_no hc)
    have HC := Lib.hid hc; clear hc
    go_enter Try.func28, Try.ntmps28
    go_wp2_with fail
    generalize hX : (w.alloc (.cells #[.int .i64 k, .int .i64 s, .bool l, .bool o, .bool f] 27)) = w1
    have hb : Below w.heap.size w w1 := by rw [← hX]; exact balloc _ _
    have hk : Has w1 w.heap.size 27 #[.int .i64 k, .int .i64 s, .bool l, .bool o, .bool f] := by rw [← hX]; exact has_new _ _ _
    have hzw1 : w1.heap.size = w.heap.size + 1 := by rw [← hX]; simp
    clear hX
    have zb := hb; clear hb
    have za := hk; clear hk
    generalize hX : (w1.alloc (.cells #[.int .i64 0, .int .i64 0, .bool false, .bool false, .bool false] 27)) = w2
    have hb : Below w1.heap.size w1 w2 := by rw [← hX]; exact balloc _ _
    have hk : Has w2 w1.heap.size 27 #[.int .i64 0, .int .i64 0, .bool false, .bool false, .bool false] := by rw [← hX]; exact has_new _ _ _
    have hzw2 : w2.heap.size = w.heap.size + 2 := by rw [← hX]; simp [hzw1]
    clear hX
    rw [hzw1] at hk
    replace za := has_call za hb
    replace zb := bthen zb hb; clear hb
    have zr := hk; clear hk
    clear hzw1 hzw2
    refine (isCutI_any _ k s l o f).mono ?_
    rintro e w3 ⟨rfl, hb⟩
    rw [HC.out]
    replace za := has_call za hb
    replace zr := has_call zr hb
    replace zb := bthen zb hb; clear hb
    have zac0 := has_cell za 0 rfl; have zac1 := has_cell za 1 rfl; have zac2 := has_cell za 2 rfl; have zac3 := has_cell za 3 rfl; have zac4 := has_cell za 4 rfl
    have zaf0 := has_free za 0; have zaf1 := has_free za 1; have zaf2 := has_free za 2; have zaf3 := has_free za 3; have zaf4 := has_free za 4
    have zalt := has_lt za
    have zrc0 := has_cell zr 0 rfl; have zrc1 := has_cell zr 1 rfl; have zrc2 := has_cell zr 2 rfl; have zrc3 := has_cell zr 3 rfl; have zrc4 := has_cell zr 4 rfl
    have zrf0 := has_free zr 0; have zrf1 := has_free zr 1; have zrf2 := has_free zr 2; have zrf3 := has_free zr 3; have zrf4 := has_free zr 4
    have zrlt := has_lt zr
    have ZAH := Lib.hid za; clear za
    have ZRH := Lib.hid zr; clear zr
    have ZB := Lib.hid zb; clear zb
    go_wp2_with fail
    all_goals
      refine bodyPost_ret (v := drI (inspD ⟨k, s, l, o, f⟩)) ?_ rfl ⟨rfl, ?_⟩
      · rw [HV.out]; clear HV HC ZB ZAH ZRH; simp_all [results, Try.results28, go_sem, drI, Dr.A]
      · repeat (first | (with_reducible exact ZB.out) | (with_reducible refine Below.alloc ?_ (by have h9 := ZB.out.size; simp <;> omega) _) | (with_reducible refine Below.drew ?_) | (with_reducible refine Below.setCell ?_ (by first | exact Nat.le_refl _ | exact Nat.le_add_right _ _ | (simp <;> omega)) _))
  have HV := Lib.hid (inspD_yes hc)
  have hcf := cut_facts hc
  obtain ⟨rfl, hkd⟩ := hcf
  clear hkd
  have HC := Lib.hid hc; clear hc
  go_enter Try.func28, Try.ntmps28
  go_wp2_with fail
  generalize hX : (w.alloc (.cells #[.int .i64 k, .int .i64 0, .bool l, .bool o, .bool f] 27)) = w1
  have hb : Below w.heap.size w w1 := by rw [← hX]; exact balloc _ _
  have hk : Has w1 w.heap.size 27 #[.int .i64 k, .int .i64 0, .bool l, .bool o, .bool f] := by rw [← hX]; exact has_new _ _ _
  have hzw1 : w1.heap.size = w.heap.size + 1 := by rw [← hX]; simp
  clear hX
  have zb := hb; clear hb
  have za := hk; clear hk
  generalize hX : (w1.alloc (.cells #[.int .i64 0, .int .i64 0, .bool false, .bool false, .bool false] 27)) = w2
  have hb : Below w1.heap.size w1 w2 := by rw [← hX]; exact balloc _ _
  have hk : Has w2 w1.heap.size 27 #[.int .i64 0, .int .i64 0, .bool false, .bool false, .bool false] := by rw [← hX]; exact has_new _ _ _
  have hzw2 : w2.heap.size = w.heap.size + 2 := by rw [← hX]; simp [hzw1]
  clear hX
  rw [hzw1] at hk
  replace za := has_call za hb
  replace zb := bthen zb hb; clear hb
  have zr := hk; clear hk
  clear hzw1 hzw2
  refine (isCutI_any _ k 0 l o f).mono ?_
  rintro e w3 ⟨rfl, hb⟩
  rw [HC.out]
  replace za := has_call za hb
  replace zr := has_call zr hb
  replace zb := bthen zb hb; clear hb
  have zac0 := has_cell za 0 rfl; have zac1 := has_cell za 1 rfl; have zac2 := has_cell za 2 rfl; have zac3 := has_cell za 3 rfl; have zac4 := has_cell za 4 rfl
  have zaf0 := has_free za 0; have zaf1 := has_free za 1; have zaf2 := has_free za 2; have zaf3 := has_free za 3; have zaf4 := has_free za 4
  have zalt := has_lt za
  have zrc0 := has_cell zr 0 rfl; have zrc1 := has_cell zr 1 rfl; have zrc2 := has_cell zr 2 rfl; have zrc3 := has_cell zr 3 rfl; have zrc4 := has_cell zr 4 rfl
  have zrf0 := has_free zr 0; have zrf1 := has_free zr 1; have zrf2 := has_free zr 2; have zrf3 := has_free zr 3; have zrf4 := has_free zr 4
  have zrlt := has_lt zr
  have ZAH := Lib.hid za; clear za
  have ZRH := Lib.hid zr; clear zr
  have ZB := Lib.hid zb; clear zb
  go_wp2_with (first
    | (go_at_call 48; refine (outI_any _ _ _).mono ?_; rintro e w9 ⟨rfl, hw⟩; rw [hw]; clear hw))
  all_goals
    refine bodyPost_ret (v := drI (inspD ⟨k, 0, l, o, f⟩)) ?_ rfl ⟨rfl, ?_⟩
    · rw [HV.out]; clear HV HC ZB ZAH ZRH; simp_all [results, Try.results28, go_sem, drI, Dr.A]
    · repeat (first | (with_reducible exact ZB.out) | (with_reducible refine Below.alloc ?_ (by have h9 := ZB.out.size; simp <;> omega) _) | (with_reducible refine Below.drew ?_) | (with_reducible refine Below.setCell ?_ (by first | exact Nat.le_refl _ | exact Nat.le_add_right _ _ | (simp <;> omega)) _))
set_option maxRecDepth 100000 in
set_option maxRecDepth 100000 in
set_option maxHeartbeats 8000000 in
theorem recI_any (w : World) (k s : Int) (l o f : Bool) (a b c d : Int) : Calls Try.prog 21 #[.agg #[.int .i64 k, .int .i64 s, .bool l, .bool o, .bool f], .agg #[.int .i64 a, .int .i64 b, .int .i64 c, .int .i64 d]] w fun e w' => e = .returned (drI (recD ⟨k, s, l, o, f⟩ a b c d)) ∧ Below w.heap.size w w' := by
  obtain ⟨x1, x2, x3, x4, q, hS⟩ : ∃ x1 x2 x3 x4 q, signsD ⟨k, s, l, o, f⟩ a b c d = ((x1, x2, x3, x4), q) := ⟨_, _, _, _, _, rfl⟩
  have HT := Lib.hid (show sgT (signsD ⟨k, s, l, o, f⟩ a b c d) = .tuple #[.agg #[.bool x1, .bool x2, .bool x3, .bool x4], .bool q] by rw [hS]; rfl)
  have hA := recD_alt ⟨k, s, l, o, f⟩ a b c d
  rw [hS] at hA; clear hS
  have hq9 : verdD k (x1, x2, x3, x4) = verdB k x1 x2 x3 x4 := rfl
  simp only [hq9] at hA; clear hq9
  generalize hv : verdB k x1 x2 x3 x4 = v at hA
  have HVD := Lib.hid hv; clear hv
  generalize hn : cntF a b c d = n at hA
  have HN := Lib.hid hn; clear hn
  cases q
  · have HV := Lib.hid (hA.trans (if_pos rfl)); clear hA
    go_enter Try.func21, Try.ntmps21
    go_wp2_with fail
    generalize hX : (w.alloc (.cells #[.int .i64 k, .int .i64 s, .bool l, .bool o, .bool f] 27)) = w1
    have hb : Below w.heap.size w w1 := by rw [← hX]; exact balloc _ _
    have hk : Has w1 w.heap.size 27 #[.int .i64 k, .int .i64 s, .bool l, .bool o, .bool f] := by rw [← hX]; exact has_new _ _ _
    have hzw1 : w1.heap.size = w.heap.size + 1 := by rw [← hX]; simp
    clear hX
    have zb := hb; clear hb
    have za := hk; clear hk
    generalize hX : (w1.alloc (.cells #[.int .i64 a, .int .i64 b, .int .i64 c, .int .i64 d] 42)) = w2
    have hb : Below w1.heap.size w1 w2 := by rw [← hX]; exact balloc _ _
    have hk : Has w2 w1.heap.size 42 #[.int .i64 a, .int .i64 b, .int .i64 c, .int .i64 d] := by rw [← hX]; exact has_new _ _ _
    have hzw2 : w2.heap.size = w.heap.size + 2 := by rw [← hX]; simp [hzw1]
    clear hX
    rw [hzw1] at hk
    replace za := has_call za hb
    replace zb := bthen zb hb; clear hb
    have zf := hk; clear hk
    generalize hX : (w2.alloc (.cells #[.int .i64 0, .int .i64 0, .bool false, .bool false, .bool false] 27)) = w3
    have hb : Below w2.heap.size w2 w3 := by rw [← hX]; exact balloc _ _
    have hk : Has w3 w2.heap.size 27 #[.int .i64 0, .int .i64 0, .bool false, .bool false, .bool false] := by rw [← hX]; exact has_new _ _ _
    have hzw3 : w3.heap.size = w.heap.size + 3 := by rw [← hX]; simp [hzw2]
    clear hX
    rw [hzw2] at hk
    replace za := has_call za hb
    replace zf := has_call zf hb
    replace zb := bthen zb hb; clear hb
    have zr := hk; clear hk
    clear hzw1 hzw2 hzw3
    refine (signsI_any _ k s l o f a b c d).mono ?_
    rintro e w4 ⟨rfl, hb⟩
    rw [HT.out]
    replace za := has_call za hb
    replace zf := has_call zf hb
    replace zr := has_call zr hb
    replace zb := bthen zb hb; clear hb
    have zac0 := has_cell za 0 rfl; have zac1 := has_cell za 1 rfl; have zac2 := has_cell za 2 rfl; have zac3 := has_cell za 3 rfl; have zac4 := has_cell za 4 rfl
    have zaf0 := has_free za 0; have zaf1 := has_free za 1; have zaf2 := has_free za 2; have zaf3 := has_free za 3; have zaf4 := has_free za 4
    have zalt := has_lt za
    have zfc0 := has_cell zf 0 rfl; have zfc1 := has_cell zf 1 rfl; have zfc2 := has_cell zf 2 rfl; have zfc3 := has_cell zf 3 rfl
    have zflt := has_lt zf
    have zrc0 := has_cell zr 0 rfl; have zrc1 := has_cell zr 1 rfl; have zrc2 := has_cell zr 2 rfl; have zrc3 := has_cell zr 3 rfl; have zrc4 := has_cell zr 4 rfl
    have zrf0 := has_free zr 0; have zrf1 := has_free zr 1; have zrf2 := has_free zr 2; have zrf3 := has_free zr 3; have zrf4 := has_free zr 4
    have zrlt := has_lt zr
    have ZAH := Lib.hid za; clear za
    have ZFH := Lib.hid zf; clear zf
    have ZRH := Lib.hid zr; clear zr
    have ZB := Lib.hid zb; clear zb
    go_wp2_with fail
    all_goals
      refine bodyPost_ret (v := drI (recD ⟨k, s, l, o, f⟩ a b c d)) ?_ rfl ⟨rfl, ?_⟩
      · rw [HV.out]; clear HV HT HVD HN ZB ZAH ZFH ZRH; simp_all [results, Try.results21, go_sem, drI, Dr.A]
      · repeat (first | (with_reducible exact ZB.out) | (with_reducible refine Below.alloc ?_ (by have h9 := ZB.out.size; simp <;> omega) _) | (with_reducible refine Below.drew ?_) | (with_reducible refine Below.setCell ?_ (by first | exact Nat.le_refl _ | exact Nat.le_add_right _ _ | (simp <;> omega)) _))
  replace hA := hA.trans (if_neg (by simp))
  cases hc : isCutD ⟨k, s, l, o, f⟩
  · have HV := Lib.hid (hA.trans (if_pos hc)); clear hA
    have HC := Lib.hid hc; clear hc
    go_enter Try.func21, Try.ntmps21
    go_wp2_with fail
    generalize hX : (w.alloc (.cells #[.int .i64 k, .int .i64 s, .bool l, .bool o, .bool f] 27)) = w1
    have hb : Below w.heap.size w w1 := by rw [← hX]; exact balloc _ _
    have hk : Has w1 w.heap.size 27 #[.int .i64 k, .int .i64 s, .bool l, .bool o, .bool f] := by rw [← hX]; exact has_new _ _ _
    have hzw1 : w1.heap.size = w.heap.size + 1 := by rw [← hX]; simp
    clear hX
    have zb := hb; clear hb
    have za := hk; clear hk
    generalize hX : (w1.alloc (.cells #[.int .i64 a, .int .i64 b, .int .i64 c, .int .i64 d] 42)) = w2
    have hb : Below w1.heap.size w1 w2 := by rw [← hX]; exact balloc _ _
    have hk : Has w2 w1.heap.size 42 #[.int .i64 a, .int .i64 b, .int .i64 c, .int .i64 d] := by rw [← hX]; exact has_new _ _ _
    have hzw2 : w2.heap.size = w.heap.size + 2 := by rw [← hX]; simp [hzw1]
    clear hX
    rw [hzw1] at hk
    replace za := has_call za hb
    replace zb := bthen zb hb; clear hb
    have zf := hk; clear hk
    generalize hX : (w2.alloc (.cells #[.int .i64 0, .int .i64 0, .bool false, .bool false, .bool false] 27)) = w3
    have hb : Below w2.heap.size w2 w3 := by rw [← hX]; exact balloc _ _
    have hk : Has w3 w2.heap.size 27 #[.int .i64 0, .int .i64 0, .bool false, .bool false, .bool false] := by rw [← hX]; exact has_new _ _ _
    have hzw3 : w3.heap.size = w.heap.size + 3 := by rw [← hX]; simp [hzw2]
    clear hX
    rw [hzw2] at hk
    replace za := has_call za hb
    replace zf := has_call zf hb
    replace zb := bthen zb hb; clear hb
    have zr := hk; clear hk
    clear hzw1 hzw2 hzw3
    refine (signsI_any _ k s l o f a b c d).mono ?_
    rintro e w4 ⟨rfl, hb⟩
    rw [HT.out]
    replace za := has_call za hb
    replace zf := has_call zf hb
    replace zr := has_call zr hb
    replace zb := bthen zb hb; clear hb
    have zac0 := has_cell za 0 rfl; have zac1 := has_cell za 1 rfl; have zac2 := has_cell za 2 rfl; have zac3 := has_cell za 3 rfl; have zac4 := has_cell za 4 rfl
    have zaf0 := has_free za 0; have zaf1 := has_free za 1; have zaf2 := has_free za 2; have zaf3 := has_free za 3; have zaf4 := has_free za 4
    have zalt := has_lt za
    have zfc0 := has_cell zf 0 rfl; have zfc1 := has_cell zf 1 rfl; have zfc2 := has_cell zf 2 rfl; have zfc3 := has_cell zf 3 rfl
    have zflt := has_lt zf
    have zrc0 := has_cell zr 0 rfl; have zrc1 := has_cell zr 1 rfl; have zrc2 := has_cell zr 2 rfl; have zrc3 := has_cell zr 3 rfl; have zrc4 := has_cell zr 4 rfl
    have zrf0 := has_free zr 0; have zrf1 := has_free zr 1; have zrf2 := has_free zr 2; have zrf3 := has_free zr 3; have zrf4 := has_free zr 4
    have zrlt := has_lt zr
    have ZAH := Lib.hid za; clear za
    have ZFH := Lib.hid zf; clear zf
    have ZRH := Lib.hid zr; clear zr
    have ZB := Lib.hid zb; clear zb
    go_wp2_with fail
    clear zac0 zac1 zac2 zac3 zac4 zaf0 zaf1 zaf2 zaf3 zaf4 zalt zfc0 zfc1 zfc2 zfc3 zflt zrc0 zrc1 zrc2 zrc3 zrc4 zrf0 zrf1 zrf2 zrf3 zrf4 zrlt
    have za := ZAH.out; clear ZAH
    have zf := ZFH.out; clear ZFH
    have zr := ZRH.out; clear ZRH
    have zb := ZB.out; clear ZB
    generalize hX : (w4.alloc (.cells #[.bool x1, .bool x2, .bool x3, .bool x4] 45)) = w5
    have hb : Below w4.heap.size w4 w5 := by rw [← hX]; exact balloc _ _
    have hk : Has w5 w4.heap.size 45 #[.bool x1, .bool x2, .bool x3, .bool x4] := by rw [← hX]; exact has_new _ _ _
    clear hX
    replace za := has_call za hb
    replace zf := has_call zf hb
    replace zr := has_call zr hb
    replace zb := bthen zb hb; clear hb
    have zs := hk; clear hk
    refine (isCutI_any _ k s l o f).mono ?_
    rintro e w6 ⟨rfl, hb⟩
    rw [HC.out]
    replace za := has_call za hb
    replace zf := has_call zf hb
    replace zr := has_call zr hb
    replace zs := has_call zs hb
    replace zb := bthen zb hb; clear hb
    have zac0 := has_cell za 0 rfl; have zac1 := has_cell za 1 rfl; have zac2 := has_cell za 2 rfl; have zac3 := has_cell za 3 rfl; have zac4 := has_cell za 4 rfl
    have zaf0 := has_free za 0; have zaf1 := has_free za 1; have zaf2 := has_free za 2; have zaf3 := has_free za 3; have zaf4 := has_free za 4
    have zalt := has_lt za
    have zfc0 := has_cell zf 0 rfl; have zfc1 := has_cell zf 1 rfl; have zfc2 := has_cell zf 2 rfl; have zfc3 := has_cell zf 3 rfl
    have zflt := has_lt zf
    have zrc0 := has_cell zr 0 rfl; have zrc1 := has_cell zr 1 rfl; have zrc2 := has_cell zr 2 rfl; have zrc3 := has_cell zr 3 rfl; have zrc4 := has_cell zr 4 rfl
    have zrf0 := has_free zr 0; have zrf1 := has_free zr 1; have zrf2 := has_free zr 2; have zrf3 := has_free zr 3; have zrf4 := has_free zr 4
    have zrlt := has_lt zr
    have zsc0 := has_cell zs 0 rfl; have zsc1 := has_cell zs 1 rfl; have zsc2 := has_cell zs 2 rfl; have zsc3 := has_cell zs 3 rfl
    have zslt := has_lt zs
    have ZAH := Lib.hid za; clear za
    have ZFH := Lib.hid zf; clear zf
    have ZRH := Lib.hid zr; clear zr
    have ZSH := Lib.hid zs; clear zs
    have ZB := Lib.hid zb; clear zb
    go_wp2_with fail
    all_goals
      refine bodyPost_ret (v := drI (recD ⟨k, s, l, o, f⟩ a b c d)) ?_ rfl ⟨rfl, ?_⟩
      · rw [HV.out]; clear HV HT HVD HN HC ZB ZAH ZFH ZRH ZSH; simp_all [results, Try.results21, go_sem, drI, Dr.A]
      · repeat (first | (with_reducible exact ZB.out) | (with_reducible refine Below.alloc ?_ (by have h9 := ZB.out.size; simp <;> omega) _) | (with_reducible refine Below.drew ?_) | (with_reducible refine Below.setCell ?_ (by first | exact Nat.le_refl _ | exact Nat.le_add_right _ _ | (simp <;> omega)) _))
  replace hA := hA.trans (if_neg (by rw [hc]; simp))
  by_cases hn1 : 1 < n
  · have HV := Lib.hid (hA.trans (if_pos hn1)); clear hA
    have HC := Lib.hid hc; clear hc
    go_enter Try.func21, Try.ntmps21
    go_wp2_with fail
    generalize hX : (w.alloc (.cells #[.int .i64 k, .int .i64 s, .bool l, .bool o, .bool f] 27)) = w1
    have hb : Below w.heap.size w w1 := by rw [← hX]; exact balloc _ _
    have hk : Has w1 w.heap.size 27 #[.int .i64 k, .int .i64 s, .bool l, .bool o, .bool f] := by rw [← hX]; exact has_new _ _ _
    have hzw1 : w1.heap.size = w.heap.size + 1 := by rw [← hX]; simp
    clear hX
    have zb := hb; clear hb
    have za := hk; clear hk
    generalize hX : (w1.alloc (.cells #[.int .i64 a, .int .i64 b, .int .i64 c, .int .i64 d] 42)) = w2
    have hb : Below w1.heap.size w1 w2 := by rw [← hX]; exact balloc _ _
    have hk : Has w2 w1.heap.size 42 #[.int .i64 a, .int .i64 b, .int .i64 c, .int .i64 d] := by rw [← hX]; exact has_new _ _ _
    have hzw2 : w2.heap.size = w.heap.size + 2 := by rw [← hX]; simp [hzw1]
    clear hX
    rw [hzw1] at hk
    replace za := has_call za hb
    replace zb := bthen zb hb; clear hb
    have zf := hk; clear hk
    generalize hX : (w2.alloc (.cells #[.int .i64 0, .int .i64 0, .bool false, .bool false, .bool false] 27)) = w3
    have hb : Below w2.heap.size w2 w3 := by rw [← hX]; exact balloc _ _
    have hk : Has w3 w2.heap.size 27 #[.int .i64 0, .int .i64 0, .bool false, .bool false, .bool false] := by rw [← hX]; exact has_new _ _ _
    have hzw3 : w3.heap.size = w.heap.size + 3 := by rw [← hX]; simp [hzw2]
    clear hX
    rw [hzw2] at hk
    replace za := has_call za hb
    replace zf := has_call zf hb
    replace zb := bthen zb hb; clear hb
    have zr := hk; clear hk
    clear hzw1 hzw2 hzw3
    refine (signsI_any _ k s l o f a b c d).mono ?_
    rintro e w4 ⟨rfl, hb⟩
    rw [HT.out]
    replace za := has_call za hb
    replace zf := has_call zf hb
    replace zr := has_call zr hb
    replace zb := bthen zb hb; clear hb
    have zac0 := has_cell za 0 rfl; have zac1 := has_cell za 1 rfl; have zac2 := has_cell za 2 rfl; have zac3 := has_cell za 3 rfl; have zac4 := has_cell za 4 rfl
    have zaf0 := has_free za 0; have zaf1 := has_free za 1; have zaf2 := has_free za 2; have zaf3 := has_free za 3; have zaf4 := has_free za 4
    have zalt := has_lt za
    have zfc0 := has_cell zf 0 rfl; have zfc1 := has_cell zf 1 rfl; have zfc2 := has_cell zf 2 rfl; have zfc3 := has_cell zf 3 rfl
    have zflt := has_lt zf
    have zrc0 := has_cell zr 0 rfl; have zrc1 := has_cell zr 1 rfl; have zrc2 := has_cell zr 2 rfl; have zrc3 := has_cell zr 3 rfl; have zrc4 := has_cell zr 4 rfl
    have zrf0 := has_free zr 0; have zrf1 := has_free zr 1; have zrf2 := has_free zr 2; have zrf3 := has_free zr 3; have zrf4 := has_free zr 4
    have zrlt := has_lt zr
    have ZAH := Lib.hid za; clear za
    have ZFH := Lib.hid zf; clear zf
    have ZRH := Lib.hid zr; clear zr
    have ZB := Lib.hid zb; clear zb
    go_wp2_with fail
    clear zac0 zac1 zac2 zac3 zac4 zaf0 zaf1 zaf2 zaf3 zaf4 zalt zfc0 zfc1 zfc2 zfc3 zflt zrc0 zrc1 zrc2 zrc3 zrc4 zrf0 zrf1 zrf2 zrf3 zrf4 zrlt
    have za := ZAH.out; clear ZAH
    have zf := ZFH.out; clear ZFH
    have zr := ZRH.out; clear ZRH
    have zb := ZB.out; clear ZB
    generalize hX : (w4.alloc (.cells #[.bool x1, .bool x2, .bool x3, .bool x4] 45)) = w5
    have hb : Below w4.heap.size w4 w5 := by rw [← hX]; exact balloc _ _
    have hk : Has w5 w4.heap.size 45 #[.bool x1, .bool x2, .bool x3, .bool x4] := by rw [← hX]; exact has_new _ _ _
    clear hX
    replace za := has_call za hb
    replace zf := has_call zf hb
    replace zr := has_call zr hb
    replace zb := bthen zb hb; clear hb
    have zs := hk; clear hk
    refine (isCutI_any _ k s l o f).mono ?_
    rintro e w6 ⟨rfl, hb⟩
    rw [HC.out]
    replace za := has_call za hb
    replace zf := has_call zf hb
    replace zr := has_call zr hb
    replace zs := has_call zs hb
    replace zb := bthen zb hb; clear hb
    have zac0 := has_cell za 0 rfl; have zac1 := has_cell za 1 rfl; have zac2 := has_cell za 2 rfl; have zac3 := has_cell za 3 rfl; have zac4 := has_cell za 4 rfl
    have zaf0 := has_free za 0; have zaf1 := has_free za 1; have zaf2 := has_free za 2; have zaf3 := has_free za 3; have zaf4 := has_free za 4
    have zalt := has_lt za
    have zfc0 := has_cell zf 0 rfl; have zfc1 := has_cell zf 1 rfl; have zfc2 := has_cell zf 2 rfl; have zfc3 := has_cell zf 3 rfl
    have zflt := has_lt zf
    have zrc0 := has_cell zr 0 rfl; have zrc1 := has_cell zr 1 rfl; have zrc2 := has_cell zr 2 rfl; have zrc3 := has_cell zr 3 rfl; have zrc4 := has_cell zr 4 rfl
    have zrf0 := has_free zr 0; have zrf1 := has_free zr 1; have zrf2 := has_free zr 2; have zrf3 := has_free zr 3; have zrf4 := has_free zr 4
    have zrlt := has_lt zr
    have zsc0 := has_cell zs 0 rfl; have zsc1 := has_cell zs 1 rfl; have zsc2 := has_cell zs 2 rfl; have zsc3 := has_cell zs 3 rfl
    have zslt := has_lt zs
    have ZAH := Lib.hid za; clear za
    have ZFH := Lib.hid zf; clear zf
    have ZRH := Lib.hid zr; clear zr
    have ZSH := Lib.hid zs; clear zs
    have ZB := Lib.hid zb; clear zb
    go_wp2_with fail
    clear zac0 zac1 zac2 zac3 zac4 zaf0 zaf1 zaf2 zaf3 zaf4 zalt zfc0 zfc1 zfc2 zfc3 zflt zrc0 zrc1 zrc2 zrc3 zrc4 zrf0 zrf1 zrf2 zrf3 zrf4 zrlt zsc0 zsc1 zsc2 zsc3 zslt
    have za := ZAH.out; clear ZAH
    have zf := ZFH.out; clear ZFH
    have zr := ZRH.out; clear ZRH
    have zs := ZSH.out; clear ZSH
    have zb := ZB.out; clear ZB
    refine (cntI_any _ a b c d).mono ?_
    rintro e w7 ⟨rfl, hb⟩
    rw [HN.out]
    replace za := has_call za hb
    replace zf := has_call zf hb
    replace zr := has_call zr hb
    replace zs := has_call zs hb
    replace zb := bthen zb hb; clear hb
    have zac0 := has_cell za 0 rfl; have zac1 := has_cell za 1 rfl; have zac2 := has_cell za 2 rfl; have zac3 := has_cell za 3 rfl; have zac4 := has_cell za 4 rfl
    have zaf0 := has_free za 0; have zaf1 := has_free za 1; have zaf2 := has_free za 2; have zaf3 := has_free za 3; have zaf4 := has_free za 4
    have zalt := has_lt za
    have zfc0 := has_cell zf 0 rfl; have zfc1 := has_cell zf 1 rfl; have zfc2 := has_cell zf 2 rfl; have zfc3 := has_cell zf 3 rfl
    have zflt := has_lt zf
    have zrc0 := has_cell zr 0 rfl; have zrc1 := has_cell zr 1 rfl; have zrc2 := has_cell zr 2 rfl; have zrc3 := has_cell zr 3 rfl; have zrc4 := has_cell zr 4 rfl
    have zrf0 := has_free zr 0; have zrf1 := has_free zr 1; have zrf2 := has_free zr 2; have zrf3 := has_free zr 3; have zrf4 := has_free zr 4
    have zrlt := has_lt zr
    have zsc0 := has_cell zs 0 rfl; have zsc1 := has_cell zs 1 rfl; have zsc2 := has_cell zs 2 rfl; have zsc3 := has_cell zs 3 rfl
    have zslt := has_lt zs
    have ZAH := Lib.hid za; clear za
    have ZFH := Lib.hid zf; clear zf
    have ZRH := Lib.hid zr; clear zr
    have ZSH := Lib.hid zs; clear zs
    have ZB := Lib.hid zb; clear zb
    go_wp2_with fail
    all_goals
      refine bodyPost_ret (v := drI (recD ⟨k, s, l, o, f⟩ a b c d)) ?_ rfl ⟨rfl, ?_⟩
      · rw [HV.out]; clear HV HT HVD HN HC ZB ZAH ZFH ZRH ZSH; simp_all [results, Try.results21, go_sem, drI, Dr.A]
      · repeat (first | (with_reducible exact ZB.out) | (with_reducible refine Below.alloc ?_ (by have h9 := ZB.out.size; simp <;> omega) _) | (with_reducible refine Below.drew ?_) | (with_reducible refine Below.setCell ?_ (by first | exact Nat.le_refl _ | exact Nat.le_add_right _ _ | (simp <;> omega)) _))
  have HV := Lib.hid (hA.trans (if_neg hn1)); clear hA
  have HC := Lib.hid hc; clear hc
  go_enter Try.func21, Try.ntmps21
  go_wp2_with fail
  generalize hX : (w.alloc (.cells #[.int .i64 k, .int .i64 s, .bool l, .bool o, .bool f] 27)) = w1
  have hb : Below w.heap.size w w1 := by rw [← hX]; exact balloc _ _
  have hk : Has w1 w.heap.size 27 #[.int .i64 k, .int .i64 s, .bool l, .bool o, .bool f] := by rw [← hX]; exact has_new _ _ _
  have hzw1 : w1.heap.size = w.heap.size + 1 := by rw [← hX]; simp
  clear hX
  have zb := hb; clear hb
  have za := hk; clear hk
  generalize hX : (w1.alloc (.cells #[.int .i64 a, .int .i64 b, .int .i64 c, .int .i64 d] 42)) = w2
  have hb : Below w1.heap.size w1 w2 := by rw [← hX]; exact balloc _ _
  have hk : Has w2 w1.heap.size 42 #[.int .i64 a, .int .i64 b, .int .i64 c, .int .i64 d] := by rw [← hX]; exact has_new _ _ _
  have hzw2 : w2.heap.size = w.heap.size + 2 := by rw [← hX]; simp [hzw1]
  clear hX
  rw [hzw1] at hk
  replace za := has_call za hb
  replace zb := bthen zb hb; clear hb
  have zf := hk; clear hk
  generalize hX : (w2.alloc (.cells #[.int .i64 0, .int .i64 0, .bool false, .bool false, .bool false] 27)) = w3
  have hb : Below w2.heap.size w2 w3 := by rw [← hX]; exact balloc _ _
  have hk : Has w3 w2.heap.size 27 #[.int .i64 0, .int .i64 0, .bool false, .bool false, .bool false] := by rw [← hX]; exact has_new _ _ _
  have hzw3 : w3.heap.size = w.heap.size + 3 := by rw [← hX]; simp [hzw2]
  clear hX
  rw [hzw2] at hk
  replace za := has_call za hb
  replace zf := has_call zf hb
  replace zb := bthen zb hb; clear hb
  have zr := hk; clear hk
  clear hzw1 hzw2 hzw3
  refine (signsI_any _ k s l o f a b c d).mono ?_
  rintro e w4 ⟨rfl, hb⟩
  rw [HT.out]
  replace za := has_call za hb
  replace zf := has_call zf hb
  replace zr := has_call zr hb
  replace zb := bthen zb hb; clear hb
  have zac0 := has_cell za 0 rfl; have zac1 := has_cell za 1 rfl; have zac2 := has_cell za 2 rfl; have zac3 := has_cell za 3 rfl; have zac4 := has_cell za 4 rfl
  have zaf0 := has_free za 0; have zaf1 := has_free za 1; have zaf2 := has_free za 2; have zaf3 := has_free za 3; have zaf4 := has_free za 4
  have zalt := has_lt za
  have zfc0 := has_cell zf 0 rfl; have zfc1 := has_cell zf 1 rfl; have zfc2 := has_cell zf 2 rfl; have zfc3 := has_cell zf 3 rfl
  have zflt := has_lt zf
  have zrc0 := has_cell zr 0 rfl; have zrc1 := has_cell zr 1 rfl; have zrc2 := has_cell zr 2 rfl; have zrc3 := has_cell zr 3 rfl; have zrc4 := has_cell zr 4 rfl
  have zrf0 := has_free zr 0; have zrf1 := has_free zr 1; have zrf2 := has_free zr 2; have zrf3 := has_free zr 3; have zrf4 := has_free zr 4
  have zrlt := has_lt zr
  have ZAH := Lib.hid za; clear za
  have ZFH := Lib.hid zf; clear zf
  have ZRH := Lib.hid zr; clear zr
  have ZB := Lib.hid zb; clear zb
  go_wp2_with fail
  clear zac0 zac1 zac2 zac3 zac4 zaf0 zaf1 zaf2 zaf3 zaf4 zalt zfc0 zfc1 zfc2 zfc3 zflt zrc0 zrc1 zrc2 zrc3 zrc4 zrf0 zrf1 zrf2 zrf3 zrf4 zrlt
  have za := ZAH.out; clear ZAH
  have zf := ZFH.out; clear ZFH
  have zr := ZRH.out; clear ZRH
  have zb := ZB.out; clear ZB
  generalize hX : (w4.alloc (.cells #[.bool x1, .bool x2, .bool x3, .bool x4] 45)) = w5
  have hb : Below w4.heap.size w4 w5 := by rw [← hX]; exact balloc _ _
  have hk : Has w5 w4.heap.size 45 #[.bool x1, .bool x2, .bool x3, .bool x4] := by rw [← hX]; exact has_new _ _ _
  clear hX
  replace za := has_call za hb
  replace zf := has_call zf hb
  replace zr := has_call zr hb
  replace zb := bthen zb hb; clear hb
  have zs := hk; clear hk
  refine (isCutI_any _ k s l o f).mono ?_
  rintro e w6 ⟨rfl, hb⟩
  rw [HC.out]
  replace za := has_call za hb
  replace zf := has_call zf hb
  replace zr := has_call zr hb
  replace zs := has_call zs hb
  replace zb := bthen zb hb; clear hb
  have zac0 := has_cell za 0 rfl; have zac1 := has_cell za 1 rfl; have zac2 := has_cell za 2 rfl; have zac3 := has_cell za 3 rfl; have zac4 := has_cell za 4 rfl
  have zaf0 := has_free za 0; have zaf1 := has_free za 1; have zaf2 := has_free za 2; have zaf3 := has_free za 3; have zaf4 := has_free za 4
  have zalt := has_lt za
  have zfc0 := has_cell zf 0 rfl; have zfc1 := has_cell zf 1 rfl; have zfc2 := has_cell zf 2 rfl; have zfc3 := has_cell zf 3 rfl
  have zflt := has_lt zf
  have zrc0 := has_cell zr 0 rfl; have zrc1 := has_cell zr 1 rfl; have zrc2 := has_cell zr 2 rfl; have zrc3 := has_cell zr 3 rfl; have zrc4 := has_cell zr 4 rfl
  have zrf0 := has_free zr 0; have zrf1 := has_free zr 1; have zrf2 := has_free zr 2; have zrf3 := has_free zr 3; have zrf4 := has_free zr 4
  have zrlt := has_lt zr
  have zsc0 := has_cell zs 0 rfl; have zsc1 := has_cell zs 1 rfl; have zsc2 := has_cell zs 2 rfl; have zsc3 := has_cell zs 3 rfl
  have zslt := has_lt zs
  have ZAH := Lib.hid za; clear za
  have ZFH := Lib.hid zf; clear zf
  have ZRH := Lib.hid zr; clear zr
  have ZSH := Lib.hid zs; clear zs
  have ZB := Lib.hid zb; clear zb
  go_wp2_with fail
  clear zac0 zac1 zac2 zac3 zac4 zaf0 zaf1 zaf2 zaf3 zaf4 zalt zfc0 zfc1 zfc2 zfc3 zflt zrc0 zrc1 zrc2 zrc3 zrc4 zrf0 zrf1 zrf2 zrf3 zrf4 zrlt zsc0 zsc1 zsc2 zsc3 zslt
  have za := ZAH.out; clear ZAH
  have zf := ZFH.out; clear ZFH
  have zr := ZRH.out; clear ZRH
  have zs := ZSH.out; clear ZSH
  have zb := ZB.out; clear ZB
  refine (cntI_any _ a b c d).mono ?_
  rintro e w7 ⟨rfl, hb⟩
  rw [HN.out]
  replace za := has_call za hb
  replace zf := has_call zf hb
  replace zr := has_call zr hb
  replace zs := has_call zs hb
  replace zb := bthen zb hb; clear hb
  have zac0 := has_cell za 0 rfl; have zac1 := has_cell za 1 rfl; have zac2 := has_cell za 2 rfl; have zac3 := has_cell za 3 rfl; have zac4 := has_cell za 4 rfl
  have zaf0 := has_free za 0; have zaf1 := has_free za 1; have zaf2 := has_free za 2; have zaf3 := has_free za 3; have zaf4 := has_free za 4
  have zalt := has_lt za
  have zfc0 := has_cell zf 0 rfl; have zfc1 := has_cell zf 1 rfl; have zfc2 := has_cell zf 2 rfl; have zfc3 := has_cell zf 3 rfl
  have zflt := has_lt zf
  have zrc0 := has_cell zr 0 rfl; have zrc1 := has_cell zr 1 rfl; have zrc2 := has_cell zr 2 rfl; have zrc3 := has_cell zr 3 rfl; have zrc4 := has_cell zr 4 rfl
  have zrf0 := has_free zr 0; have zrf1 := has_free zr 1; have zrf2 := has_free zr 2; have zrf3 := has_free zr 3; have zrf4 := has_free zr 4
  have zrlt := has_lt zr
  have zsc0 := has_cell zs 0 rfl; have zsc1 := has_cell zs 1 rfl; have zsc2 := has_cell zs 2 rfl; have zsc3 := has_cell zs 3 rfl
  have zslt := has_lt zs
  have ZAH := Lib.hid za; clear za
  have ZFH := Lib.hid zf; clear zf
  have ZRH := Lib.hid zr; clear zr
  have ZSH := Lib.hid zs; clear zs
  have ZB := Lib.hid zb; clear zb
  go_wp2_with fail
  clear zac0 zac1 zac2 zac3 zac4 zaf0 zaf1 zaf2 zaf3 zaf4 zalt zfc0 zfc1 zfc2 zfc3 zflt zrc0 zrc1 zrc2 zrc3 zrc4 zrf0 zrf1 zrf2 zrf3 zrf4 zrlt zsc0 zsc1 zsc2 zsc3 zslt
  have za := ZAH.out; clear ZAH
  have zf := ZFH.out; clear ZFH
  have zr := ZRH.out; clear ZRH
  have zs := ZSH.out; clear ZSH
  have zb := ZB.out; clear ZB
  refine (verdI_any _ k x1 x2 x3 x4).mono ?_
  rintro e w8 ⟨rfl, hb⟩
  rw [HVD.out]
  replace za := has_call za hb
  replace zf := has_call zf hb
  replace zr := has_call zr hb
  replace zs := has_call zs hb
  replace zb := bthen zb hb; clear hb
  have zac0 := has_cell za 0 rfl; have zac1 := has_cell za 1 rfl; have zac2 := has_cell za 2 rfl; have zac3 := has_cell za 3 rfl; have zac4 := has_cell za 4 rfl
  have zaf0 := has_free za 0; have zaf1 := has_free za 1; have zaf2 := has_free za 2; have zaf3 := has_free za 3; have zaf4 := has_free za 4
  have zalt := has_lt za
  have zfc0 := has_cell zf 0 rfl; have zfc1 := has_cell zf 1 rfl; have zfc2 := has_cell zf 2 rfl; have zfc3 := has_cell zf 3 rfl
  have zflt := has_lt zf
  have zrc0 := has_cell zr 0 rfl; have zrc1 := has_cell zr 1 rfl; have zrc2 := has_cell zr 2 rfl; have zrc3 := has_cell zr 3 rfl; have zrc4 := has_cell zr 4 rfl
  have zrf0 := has_free zr 0; have zrf1 := has_free zr 1; have zrf2 := has_free zr 2; have zrf3 := has_free zr 3; have zrf4 := has_free zr 4
  have zrlt := has_lt zr
  have zsc0 := has_cell zs 0 rfl; have zsc1 := has_cell zs 1 rfl; have zsc2 := has_cell zs 2 rfl; have zsc3 := has_cell zs 3 rfl
  have zslt := has_lt zs
  have ZAH := Lib.hid za; clear za
  have ZFH := Lib.hid zf; clear zf
  have ZRH := Lib.hid zr; clear zr
  have ZSH := Lib.hid zs; clear zs
  have ZB := Lib.hid zb; clear zb
  go_wp2_with fail
  all_goals
    refine bodyPost_ret (v := drI (recD ⟨k, s, l, o, f⟩ a b c d)) ?_ rfl ⟨rfl, ?_⟩
    · rw [HV.out]; clear HV HT HVD HN HC ZB ZAH ZFH ZRH ZSH; simp_all [results, Try.results21, go_sem, drI, Dr.A]
    · repeat (first | (with_reducible exact ZB.out) | (with_reducible refine Below.alloc ?_ (by have h9 := ZB.out.size; simp <;> omega) _) | (with_reducible refine Below.drew ?_) | (with_reducible refine Below.setCell ?_ (by first | exact Nat.le_refl _ | exact Nat.le_add_right _ _ | (simp <;> omega)) _))
set_option maxRecDepth 100000 in
set_option maxRecDepth 100000 in
set_option maxHeartbeats 8000000 in
theorem recS_any (w : World) (k s : Int) (l o f : Bool) (a b c d : Int) : Calls Try.prog 59 #[.agg #[.int .i64 k, .int .i64 s, .bool l, .bool o, .bool f], .agg #[.int .i64 a, .int .i64 b, .int .i64 c, .int .i64 d]] w fun e w' => e = .returned (drI (recD ⟨k, s, l, o, f⟩ a b c d)) ∧ Below w.heap.size w w' := by
  obtain ⟨x1, x2, x3, x4, q, hS⟩ : ∃ x1 x2 x3 x4 q, signsD ⟨k, s, l, o, f⟩ a b c d = ((x1, x2, x3, x4), q) := ⟨_, _, _, _, _, rfl⟩
  have HT := Lib.hid (show sgT (signsD ⟨k, s, l, o, f⟩ a b c d) = .tuple #[.agg #[.bool x1, .bool x2, .bool x3, .bool x4], .bool q] by rw [hS]; rfl)
  have hA := recD_alt ⟨k, s, l, o, f⟩ a b c d
  rw [hS] at hA; clear hS
  have hq9 : verdD k (x1, x2, x3, x4) = verdB k x1 x2 x3 x4 := rfl
  simp only [hq9] at hA; clear hq9
  generalize hv : verdB k x1 x2 x3 x4 = v at hA
  have HVD := Lib.hid hv; clear hv
  generalize hn : cntF a b c d = n at hA
  have HN := Lib.hid hn; clear hn
  cases q
  · have HV := Lib.hid (hA.trans (if_pos rfl)); clear hA
    go_enter Try.func59, Try.ntmps59
    go_wp2_with fail
    generalize hX : (w.alloc (.cells #[.int .i64 k, .int .i64 s, .bool l, .bool o, .bool f] 27)) = w1
    have hb : Below w.heap.size w w1 := by rw [← hX]; exact balloc _ _
    have hk : Has w1 w.heap.size 27 #[.int .i64 k, .int .i64 s, .bool l, .bool o, .bool f] := by rw [← hX]; exact has_new _ _ _
    have hzw1 : w1.heap.size = w.heap.size + 1 := by rw [← hX]; simp
    clear hX
    have zb := hb; clear hb
    have za := hk; clear hk
    generalize hX : (w1.alloc (.cells #[.int .i64 a, .int .i64 b, .int .i64 c, .int .i64 d] 42)) = w2
    have hb : Below w1.heap.size w1 w2 := by rw [← hX]; exact balloc _ _
    have hk : Has w2 w1.heap.size 42 #[.int .i64 a, .int .i64 b, .int .i64 c, .int .i64 d] := by rw [← hX]; exact has_new _ _ _
    have hzw2 : w2.heap.size = w.heap.size + 2 := by rw [← hX]; simp [hzw1]
    clear hX
    rw [hzw1] at hk
    replace za := has_call za hb
    replace zb := bthen zb hb; clear hb
    have zf := hk; clear hk
    generalize hX : (w2.alloc (.cells #[.int .i64 0, .int .i64 0, .bool false, .bool false, .bool false] 27)) = w3
    have hb : Below w2.heap.size w2 w3 := by rw [← hX]; exact balloc _ _
    have hk : Has w3 w2.heap.size 27 #[.int .i64 0, .int .i64 0, .bool false, .bool false, .bool false] := by rw [← hX]; exact has_new _ _ _
    have hzw3 : w3.heap.size = w.heap.size + 3 := by rw [← hX]; simp [hzw2]
    clear hX
    rw [hzw2] at hk
    replace za := has_call za hb
    replace zf := has_call zf hb
    replace zb := bthen zb hb; clear hb
    have zr := hk; clear hk
    clear hzw1 hzw2 hzw3
    refine (signsS_any _ k s l o f a b c d).mono ?_
    rintro e w4 ⟨rfl, hb⟩
    rw [HT.out]
    replace za := has_call za hb
    replace zf := has_call zf hb
    replace zr := has_call zr hb
    replace zb := bthen zb hb; clear hb
    have zac0 := has_cell za 0 rfl; have zac1 := has_cell za 1 rfl; have zac2 := has_cell za 2 rfl; have zac3 := has_cell za 3 rfl; have zac4 := has_cell za 4 rfl
    have zaf0 := has_free za 0; have zaf1 := has_free za 1; have zaf2 := has_free za 2; have zaf3 := has_free za 3; have zaf4 := has_free za 4
    have zalt := has_lt za
    have zfc0 := has_cell zf 0 rfl; have zfc1 := has_cell zf 1 rfl; have zfc2 := has_cell zf 2 rfl; have zfc3 := has_cell zf 3 rfl
    have zflt := has_lt zf
    have zrc0 := has_cell zr 0 rfl; have zrc1 := has_cell zr 1 rfl; have zrc2 := has_cell zr 2 rfl; have zrc3 := has_cell zr 3 rfl; have zrc4 := has_cell zr 4 rfl
    have zrf0 := has_free zr 0; have zrf1 := has_free zr 1; have zrf2 := has_free zr 2; have zrf3 := has_free zr 3; have zrf4 := has_free zr 4
    have zrlt := has_lt zr
    have ZAH := Lib.hid za; clear za
    have ZFH := Lib.hid zf; clear zf
    have ZRH := Lib.hid zr; clear zr
    have ZB := Lib.hid zb; clear zb
    go_wp2_with fail
    all_goals
      refine bodyPost_ret (v := drI (recD ⟨k, s, l, o, f⟩ a b c d)) ?_ rfl ⟨rfl, ?_⟩
      · rw [HV.out]; clear HV HT HVD HN ZB ZAH ZFH ZRH; simp_all [results, Try.results59, go_sem, drI, Dr.A]
      · repeat (first | (with_reducible exact ZB.out) | (with_reducible refine Below.alloc ?_ (by have h9 := ZB.out.size; simp <;> omega) _) | (with_reducible refine Below.drew ?_) | (with_reducible refine Below.setCell ?_ (by first | exact Nat.le_refl _ | exact Nat.le_add_right _ _ | (simp <;> omega)) _))
  replace hA := hA.trans (if_neg (by simp))
  cases hc : isCutD ⟨k, s, l, o, f⟩
  · have HV := Lib.hid (hA.trans (if_pos hc)); clear hA
    have HC := Lib.hid hc; clear hc
    go_enter Try.func59, Try.ntmps59
    go_wp2_with fail
    generalize hX : (w.alloc (.cells #[.int .i64 k, .int .i64 s, .bool l, .bool o, .bool f] 27)) = w1
    have hb : Below w.heap.size w w1 := by rw [← hX]; exact balloc _ _
    have hk : Has w1 w.heap.size 27 #[.int .i64 k, .int .i64 s, .bool l, .bool o, .bool f] := by rw [← hX]; exact has_new _ _ _
    have hzw1 : w1.heap.size = w.heap.size + 1 := by rw [← hX]; simp
    clear hX
    have zb := hb; clear hb
    have za := hk; clear hk
    generalize hX : (w1.alloc (.cells #[.int .i64 a, .int .i64 b, .int .i64 c, .int .i64 d] 42)) = w2
    have hb : Below w1.heap.size w1 w2 := by rw [← hX]; exact balloc _ _
    have hk : Has w2 w1.heap.size 42 #[.int .i64 a, .int .i64 b, .int .i64 c, .int .i64 d] := by rw [← hX]; exact has_new _ _ _
    have hzw2 : w2.heap.size = w.heap.size + 2 := by rw [← hX]; simp [hzw1]
    clear hX
    rw [hzw1] at hk
    replace za := has_call za hb
    replace zb := bthen zb hb; clear hb
    have zf := hk; clear hk
    generalize hX : (w2.alloc (.cells #[.int .i64 0, .int .i64 0, .bool false, .bool false, .bool false] 27)) = w3
    have hb : Below w2.heap.size w2 w3 := by rw [← hX]; exact balloc _ _
    have hk : Has w3 w2.heap.size 27 #[.int .i64 0, .int .i64 0, .bool false, .bool false, .bool false] := by rw [← hX]; exact has_new _ _ _
    have hzw3 : w3.heap.size = w.heap.size + 3 := by rw [← hX]; simp [hzw2]
    clear hX
    rw [hzw2] at hk
    replace za := has_call za hb
    replace zf := has_call zf hb
    replace zb := bthen zb hb; clear hb
    have zr := hk; clear hk
    clear hzw1 hzw2 hzw3
    refine (signsS_any _ k s l o f a b c d).mono ?_
    rintro e w4 ⟨rfl, hb⟩
    rw [HT.out]
    replace za := has_call za hb
    replace zf := has_call zf hb
    replace zr := has_call zr hb
    replace zb := bthen zb hb; clear hb
    have zac0 := has_cell za 0 rfl; have zac1 := has_cell za 1 rfl; have zac2 := has_cell za 2 rfl; have zac3 := has_cell za 3 rfl; have zac4 := has_cell za 4 rfl
    have zaf0 := has_free za 0; have zaf1 := has_free za 1; have zaf2 := has_free za 2; have zaf3 := has_free za 3; have zaf4 := has_free za 4
    have zalt := has_lt za
    have zfc0 := has_cell zf 0 rfl; have zfc1 := has_cell zf 1 rfl; have zfc2 := has_cell zf 2 rfl; have zfc3 := has_cell zf 3 rfl
    have zflt := has_lt zf
    have zrc0 := has_cell zr 0 rfl; have zrc1 := has_cell zr 1 rfl; have zrc2 := has_cell zr 2 rfl; have zrc3 := has_cell zr 3 rfl; have zrc4 := has_cell zr 4 rfl
    have zrf0 := has_free zr 0; have zrf1 := has_free zr 1; have zrf2 := has_free zr 2; have zrf3 := has_free zr 3; have zrf4 := has_free zr 4
    have zrlt := has_lt zr
    have ZAH := Lib.hid za; clear za
    have ZFH := Lib.hid zf; clear zf
    have ZRH := Lib.hid zr; clear zr
    have ZB := Lib.hid zb; clear zb
    go_wp2_with fail
    clear zac0 zac1 zac2 zac3 zac4 zaf0 zaf1 zaf2 zaf3 zaf4 zalt zfc0 zfc1 zfc2 zfc3 zflt zrc0 zrc1 zrc2 zrc3 zrc4 zrf0 zrf1 zrf2 zrf3 zrf4 zrlt
    have za := ZAH.out; clear ZAH
    have zf := ZFH.out; clear ZFH
    have zr := ZRH.out; clear ZRH
    have zb := ZB.out; clear ZB
    generalize hX : (w4.alloc (.cells #[.bool x1, .bool x2, .bool x3, .bool x4] 45)) = w5
    have hb : Below w4.heap.size w4 w5 := by rw [← hX]; exact balloc _ _
    have hk : Has w5 w4.heap.size 45 #[.bool x1, .bool x2, .bool x3, .bool x4] := by rw [← hX]; exact has_new _ _ _
    clear hX
    replace za := has_call za hb
    replace zf := has_call zf hb
    replace zr := has_call zr hb
    replace zb := bthen zb hb; clear hb
    have zs := hk; clear hk
    refine (isCutS_any _ k s l o f).mono ?_
    rintro e w6 ⟨rfl, hb⟩
    rw [HC.out]
    replace za := has_call za hb
    replace zf := has_call zf hb
    replace zr := has_call zr hb
    replace zs := has_call zs hb
    replace zb := bthen zb hb; clear hb
    have zac0 := has_cell za 0 rfl; have zac1 := has_cell za 1 rfl; have zac2 := has_cell za 2 rfl; have zac3 := has_cell za 3 rfl; have zac4 := has_cell za 4 rfl
    have zaf0 := has_free za 0; have zaf1 := has_free za 1; have zaf2 := has_free za 2; have zaf3 := has_free za 3; have zaf4 := has_free za 4
    have zalt := has_lt za
    have zfc0 := has_cell zf 0 rfl; have zfc1 := has_cell zf 1 rfl; have zfc2 := has_cell zf 2 rfl; have zfc3 := has_cell zf 3 rfl
    have zflt := has_lt zf
    have zrc0 := has_cell zr 0 rfl; have zrc1 := has_cell zr 1 rfl; have zrc2 := has_cell zr 2 rfl; have zrc3 := has_cell zr 3 rfl; have zrc4 := has_cell zr 4 rfl
    have zrf0 := has_free zr 0; have zrf1 := has_free zr 1; have zrf2 := has_free zr 2; have zrf3 := has_free zr 3; have zrf4 := has_free zr 4
    have zrlt := has_lt zr
    have zsc0 := has_cell zs 0 rfl; have zsc1 := has_cell zs 1 rfl; have zsc2 := has_cell zs 2 rfl; have zsc3 := has_cell zs 3 rfl
    have zslt := has_lt zs
    have ZAH := Lib.hid za; clear za
    have ZFH := Lib.hid zf; clear zf
    have ZRH := Lib.hid zr; clear zr
    have ZSH := Lib.hid zs; clear zs
    have ZB := Lib.hid zb; clear zb
    go_wp2_with fail
    all_goals
      refine bodyPost_ret (v := drI (recD ⟨k, s, l, o, f⟩ a b c d)) ?_ rfl ⟨rfl, ?_⟩
      · rw [HV.out]; clear HV HT HVD HN HC ZB ZAH ZFH ZRH ZSH; simp_all [results, Try.results59, go_sem, drI, Dr.A]
      · repeat (first | (with_reducible exact ZB.out) | (with_reducible refine Below.alloc ?_ (by have h9 := ZB.out.size; simp <;> omega) _) | (with_reducible refine Below.drew ?_) | (with_reducible refine Below.setCell ?_ (by first | exact Nat.le_refl _ | exact Nat.le_add_right _ _ | (simp <;> omega)) _))
  replace hA := hA.trans (if_neg (by rw [hc]; simp))
  by_cases hn1 : 1 < n
  · have HV := Lib.hid (hA.trans (if_pos hn1)); clear hA
    have HC := Lib.hid hc; clear hc
    go_enter Try.func59, Try.ntmps59
    go_wp2_with fail
    generalize hX : (w.alloc (.cells #[.int .i64 k, .int .i64 s, .bool l, .bool o, .bool f] 27)) = w1
    have hb : Below w.heap.size w w1 := by rw [← hX]; exact balloc _ _
    have hk : Has w1 w.heap.size 27 #[.int .i64 k, .int .i64 s, .bool l, .bool o, .bool f] := by rw [← hX]; exact has_new _ _ _
    have hzw1 : w1.heap.size = w.heap.size + 1 := by rw [← hX]; simp
    clear hX
    have zb := hb; clear hb
    have za := hk; clear hk
    generalize hX : (w1.alloc (.cells #[.int .i64 a, .int .i64 b, .int .i64 c, .int .i64 d] 42)) = w2
    have hb : Below w1.heap.size w1 w2 := by rw [← hX]; exact balloc _ _
    have hk : Has w2 w1.heap.size 42 #[.int .i64 a, .int .i64 b, .int .i64 c, .int .i64 d] := by rw [← hX]; exact has_new _ _ _
    have hzw2 : w2.heap.size = w.heap.size + 2 := by rw [← hX]; simp [hzw1]
    clear hX
    rw [hzw1] at hk
    replace za := has_call za hb
    replace zb := bthen zb hb; clear hb
    have zf := hk; clear hk
    generalize hX : (w2.alloc (.cells #[.int .i64 0, .int .i64 0, .bool false, .bool false, .bool false] 27)) = w3
    have hb : Below w2.heap.size w2 w3 := by rw [← hX]; exact balloc _ _
    have hk : Has w3 w2.heap.size 27 #[.int .i64 0, .int .i64 0, .bool false, .bool false, .bool false] := by rw [← hX]; exact has_new _ _ _
    have hzw3 : w3.heap.size = w.heap.size + 3 := by rw [← hX]; simp [hzw2]
    clear hX
    rw [hzw2] at hk
    replace za := has_call za hb
    replace zf := has_call zf hb
    replace zb := bthen zb hb; clear hb
    have zr := hk; clear hk
    clear hzw1 hzw2 hzw3
    refine (signsS_any _ k s l o f a b c d).mono ?_
    rintro e w4 ⟨rfl, hb⟩
    rw [HT.out]
    replace za := has_call za hb
    replace zf := has_call zf hb
    replace zr := has_call zr hb
    replace zb := bthen zb hb; clear hb
    have zac0 := has_cell za 0 rfl; have zac1 := has_cell za 1 rfl; have zac2 := has_cell za 2 rfl; have zac3 := has_cell za 3 rfl; have zac4 := has_cell za 4 rfl
    have zaf0 := has_free za 0; have zaf1 := has_free za 1; have zaf2 := has_free za 2; have zaf3 := has_free za 3; have zaf4 := has_free za 4
    have zalt := has_lt za
    have zfc0 := has_cell zf 0 rfl; have zfc1 := has_cell zf 1 rfl; have zfc2 := has_cell zf 2 rfl; have zfc3 := has_cell zf 3 rfl
    have zflt := has_lt zf
    have zrc0 := has_cell zr 0 rfl; have zrc1 := has_cell zr 1 rfl; have zrc2 := has_cell zr 2 rfl; have zrc3 := has_cell zr 3 rfl; have zrc4 := has_cell zr 4 rfl
    have zrf0 := has_free zr 0; have zrf1 := has_free zr 1; have zrf2 := has_free zr 2; have zrf3 := has_free zr 3; have zrf4 := has_free zr 4
    have zrlt := has_lt zr
    have ZAH := Lib.hid za; clear za
    have ZFH := Lib.hid zf; clear zf
    have ZRH := Lib.hid zr; clear zr
    have ZB := Lib.hid zb; clear zb
    go_wp2_with fail
    clear zac0 zac1 zac2 zac3 zac4 zaf0 zaf1 zaf2 zaf3 zaf4 zalt zfc0 zfc1 zfc2 zfc3 zflt zrc0 zrc1 zrc2 zrc3 zrc4 zrf0 zrf1 zrf2 zrf3 zrf4 zrlt
    have za := ZAH.out; clear ZAH
    have zf := ZFH.out; clear ZFH
    have zr := ZRH.out; clear ZRH
    have zb := ZB.out; clear ZB
    generalize hX : (w4.alloc (.cells #[.bool x1, .bool x2, .bool x3, .bool x4] 45)) = w5
    have hb : Below w4.heap.size w4 w5 := by rw [← hX]; exact balloc _ _
    have hk : Has w5 w4.heap.size 45 #[.bool x1, .bool x2, .bool x3, .bool x4] := by rw [← hX]; exact has_new _ _ _
    clear hX
    replace za := has_call za hb
    replace zf := has_call zf hb
    replace zr := has_call zr hb
    replace zb := bthen zb hb; clear hb
    have zs := hk; clear hk
    refine (isCutS_any _ k s l o f).mono ?_
    rintro e w6 ⟨rfl, hb⟩
    rw [HC.out]
    replace za := has_call za hb
    replace zf := has_call zf hb
    replace zr := has_call zr hb
    replace zs := has_call zs hb
    replace zb := bthen zb hb; clear hb
    have zac0 := has_cell za 0 rfl; have zac1 := has_cell za 1 rfl; have zac2 := has_cell za 2 rfl; have zac3 := has_cell za 3 rfl; have zac4 := has_cell za 4 rfl
    have zaf0 := has_free za 0; have zaf1 := has_free za 1; have zaf2 := has_free za 2; have zaf3 := has_free za 3; have zaf4 := has_free za 4
    have zalt := has_lt za
    have zfc0 := has_cell zf 0 rfl; have zfc1 := has_cell zf 1 rfl; have zfc2 := has_cell zf 2 rfl; have zfc3 := has_cell zf 3 rfl
    have zflt := has_lt zf
    have zrc0 := has_cell zr 0 rfl; have zrc1 := has_cell zr 1 rfl; have zrc2 := has_cell zr 2 rfl; have zrc3 := has_cell zr 3 rfl; have zrc4 := has_cell zr 4 rfl
    have zrf0 := has_free zr 0; have zrf1 := has_free zr 1; have zrf2 := has_free zr 2; have zrf3 := has_free zr 3; have zrf4 := has_free zr 4
    have zrlt := has_lt zr
    have zsc0 := has_cell zs 0 rfl; have zsc1 := has_cell zs 1 rfl; have zsc2 := has_cell zs 2 rfl; have zsc3 := has_cell zs 3 rfl
    have zslt := has_lt zs
    have ZAH := Lib.hid za; clear za
    have ZFH := Lib.hid zf; clear zf
    have ZRH := Lib.hid zr; clear zr
    have ZSH := Lib.hid zs; clear zs
    have ZB := Lib.hid zb; clear zb
    go_wp2_with fail
    clear zac0 zac1 zac2 zac3 zac4 zaf0 zaf1 zaf2 zaf3 zaf4 zalt zfc0 zfc1 zfc2 zfc3 zflt zrc0 zrc1 zrc2 zrc3 zrc4 zrf0 zrf1 zrf2 zrf3 zrf4 zrlt zsc0 zsc1 zsc2 zsc3 zslt
    have za := ZAH.out; clear ZAH
    have zf := ZFH.out; clear ZFH
    have zr := ZRH.out; clear ZRH
    have zs := ZSH.out; clear ZSH
    have zb := ZB.out; clear ZB
    refine (cntS_any _ a b c d).mono ?_
    rintro e w7 ⟨rfl, hb⟩
    rw [HN.out]
    replace za := has_call za hb
    replace zf := has_call zf hb
    replace zr := has_call zr hb
    replace zs := has_call zs hb
    replace zb := bthen zb hb; clear hb
    have zac0 := has_cell za 0 rfl; have zac1 := has_cell za 1 rfl; have zac2 := has_cell za 2 rfl; have zac3 := has_cell za 3 rfl; have zac4 := has_cell za 4 rfl
    have zaf0 := has_free za 0; have zaf1 := has_free za 1; have zaf2 := has_free za 2; have zaf3 := has_free za 3; have zaf4 := has_free za 4
    have zalt := has_lt za
    have zfc0 := has_cell zf 0 rfl; have zfc1 := has_cell zf 1 rfl; have zfc2 := has_cell zf 2 rfl; have zfc3 := has_cell zf 3 rfl
    have zflt := has_lt zf
    have zrc0 := has_cell zr 0 rfl; have zrc1 := has_cell zr 1 rfl; have zrc2 := has_cell zr 2 rfl; have zrc3 := has_cell zr 3 rfl; have zrc4 := has_cell zr 4 rfl
    have zrf0 := has_free zr 0; have zrf1 := has_free zr 1; have zrf2 := has_free zr 2; have zrf3 := has_free zr 3; have zrf4 := has_free zr 4
    have zrlt := has_lt zr
    have zsc0 := has_cell zs 0 rfl; have zsc1 := has_cell zs 1 rfl; have zsc2 := has_cell zs 2 rfl; have zsc3 := has_cell zs 3 rfl
    have zslt := has_lt zs
    have ZAH := Lib.hid za; clear za
    have ZFH := Lib.hid zf; clear zf
    have ZRH := Lib.hid zr; clear zr
    have ZSH := Lib.hid zs; clear zs
    have ZB := Lib.hid zb; clear zb
    go_wp2_with fail
    all_goals
      refine bodyPost_ret (v := drI (recD ⟨k, s, l, o, f⟩ a b c d)) ?_ rfl ⟨rfl, ?_⟩
      · rw [HV.out]; clear HV HT HVD HN HC ZB ZAH ZFH ZRH ZSH; simp_all [results, Try.results59, go_sem, drI, Dr.A]
      · repeat (first | (with_reducible exact ZB.out) | (with_reducible refine Below.alloc ?_ (by have h9 := ZB.out.size; simp <;> omega) _) | (with_reducible refine Below.drew ?_) | (with_reducible refine Below.setCell ?_ (by first | exact Nat.le_refl _ | exact Nat.le_add_right _ _ | (simp <;> omega)) _))
  have HV := Lib.hid (hA.trans (if_neg hn1)); clear hA
  have HC := Lib.hid hc; clear hc
  go_enter Try.func59, Try.ntmps59
  go_wp2_with fail
  generalize hX : (w.alloc (.cells #[.int .i64 k, .int .i64 s, .bool l, .bool o, .bool f] 27)) = w1
  have hb : Below w.heap.size w w1 := by rw [← hX]; exact balloc _ _
  have hk : Has w1 w.heap.size 27 #[.int .i64 k, .int .i64 s, .bool l, .bool o, .bool f] := by rw [← hX]; exact has_new _ _ _
  have hzw1 : w1.heap.size = w.heap.size + 1 := by rw [← hX]; simp
  clear hX
  have zb := hb; clear hb
  have za := hk; clear hk
  generalize hX : (w1.alloc (.cells #[.int .i64 a, .int .i64 b, .int .i64 c, .int .i64 d] 42)) = w2
  have hb : Below w1.heap.size w1 w2 := by rw [← hX]; exact balloc _ _
  have hk : Has w2 w1.heap.size 42 #[.int .i64 a, .int .i64 b, .int .i64 c, .int .i64 d] := by rw [← hX]; exact has_new _ _ _
  have hzw2 : w2.heap.size = w.heap.size + 2 := by rw [← hX]; simp [hzw1]
  clear hX
  rw [hzw1] at hk
  replace za := has_call za hb
  replace zb := bthen zb hb; clear hb
  have zf := hk; clear hk
  generalize hX : (w2.alloc (.cells #[.int .i64 0, .int .i64 0, .bool false, .bool false, .bool false] 27)) = w3
  have hb : Below w2.heap.size w2 w3 := by rw [← hX]; exact balloc _ _
  have hk : Has w3 w2.heap.size 27 #[.int .i64 0, .int .i64 0, .bool false, .bool false, .bool false] := by rw [← hX]; exact has_new _ _ _
  have hzw3 : w3.heap.size = w.heap.size + 3 := by rw [← hX]; simp [hzw2]
  clear hX
  rw [hzw2] at hk
  replace za := has_call za hb
  replace zf := has_call zf hb
  replace zb := bthen zb hb; clear hb
  have zr := hk; clear hk
  clear hzw1 hzw2 hzw3
  refine (signsS_any _ k s l o f a b c d).mono ?_
  rintro e w4 ⟨rfl, hb⟩
  rw [HT.out]
  replace za := has_call za hb
  replace zf := has_call zf hb
  replace zr := has_call zr hb
  replace zb := bthen zb hb; clear hb
  have zac0 := has_cell za 0 rfl; have zac1 := has_cell za 1 rfl; have zac2 := has_cell za 2 rfl; have zac3 := has_cell za 3 rfl; have zac4 := has_cell za 4 rfl
  have zaf0 := has_free za 0; have zaf1 := has_free za 1; have zaf2 := has_free za 2; have zaf3 := has_free za 3; have zaf4 := has_free za 4
  have zalt := has_lt za
  have zfc0 := has_cell zf 0 rfl; have zfc1 := has_cell zf 1 rfl; have zfc2 := has_cell zf 2 rfl; have zfc3 := has_cell zf 3 rfl
  have zflt := has_lt zf
  have zrc0 := has_cell zr 0 rfl; have zrc1 := has_cell zr 1 rfl; have zrc2 := has_cell zr 2 rfl; have zrc3 := has_cell zr 3 rfl; have zrc4 := has_cell zr 4 rfl
  have zrf0 := has_free zr 0; have zrf1 := has_free zr 1; have zrf2 := has_free zr 2; have zrf3 := has_free zr 3; have zrf4 := has_free zr 4
  have zrlt := has_lt zr
  have ZAH := Lib.hid za; clear za
  have ZFH := Lib.hid zf; clear zf
  have ZRH := Lib.hid zr; clear zr
  have ZB := Lib.hid zb; clear zb
  go_wp2_with fail
  clear zac0 zac1 zac2 zac3 zac4 zaf0 zaf1 zaf2 zaf3 zaf4 zalt zfc0 zfc1 zfc2 zfc3 zflt zrc0 zrc1 zrc2 zrc3 zrc4 zrf0 zrf1 zrf2 zrf3 zrf4 zrlt
  have za := ZAH.out; clear ZAH
  have zf := ZFH.out; clear ZFH
  have zr := ZRH.out; clear ZRH
  have zb := ZB.out; clear ZB
  generalize hX : (w4.alloc (.cells #[.bool x1, .bool x2, .bool x3, .bool x4] 45)) = w5
  have hb : Below w4.heap.size w4 w5 := by rw [← hX]; exact balloc _ _
  have hk : Has w5 w4.heap.size 45 #[.bool x1, .bool x2, .bool x3, .bool x4] := by rw [← hX]; exact has_new _ _ _
  clear hX
  replace za := has_call za hb
  replace zf := has_call zf hb
  replace zr := has_call zr hb
  replace zb := bthen zb hb; clear hb
  have zs := hk; clear hk
  refine (isCutS_any _ k s l o f).mono ?_
  rintro e w6 ⟨rfl, hb⟩
  rw [HC.out]
  replace za := has_call za hb
  replace zf := has_call zf hb
  replace zr := has_call zr hb
  replace zs := has_call zs hb
  replace zb := bthen zb hb; clear hb
  have zac0 := has_cell za 0 rfl; have zac1 := has_cell za 1 rfl; have zac2 := has_cell za 2 rfl; have zac3 := has_cell za 3 rfl; have zac4 := has_cell za 4 rfl
  have zaf0 := has_free za 0; have zaf1 := has_free za 1; have zaf2 := has_free za 2; have zaf3 := has_free za 3; have zaf4 := has_free za 4
  have zalt := has_lt za
  have zfc0 := has_cell zf 0 rfl; have zfc1 := has_cell zf 1 rfl; have zfc2 := has_cell zf 2 rfl; have zfc3 := has_cell zf 3 rfl
  have zflt := has_lt zf
  have zrc0 := has_cell zr 0 rfl; have zrc1 := has_cell zr 1 rfl; have zrc2 := has_cell zr 2 rfl; have zrc3 := has_cell zr 3 rfl; have zrc4 := has_cell zr 4 rfl
  have zrf0 := has_free zr 0; have zrf1 := has_free zr 1; have zrf2 := has_free zr 2; have zrf3 := has_free zr 3; have zrf4 := has_free zr 4
  have zrlt := has_lt zr
  have zsc0 := has_cell zs 0 rfl; have zsc1 := has_cell zs 1 rfl; have zsc2 := has_cell zs 2 rfl; have zsc3 := has_cell zs 3 rfl
  have zslt := has_lt zs
  have ZAH := Lib.hid za; clear za
  have ZFH := Lib.hid zf; clear zf
  have ZRH := Lib.hid zr; clear zr
  have ZSH := Lib.hid zs; clear zs
  have ZB := Lib.hid zb; clear zb
  go_wp2_with fail
  clear zac0 zac1 zac2 zac3 zac4 zaf0 zaf1 zaf2 zaf3 zaf4 zalt zfc0 zfc1 zfc2 zfc3 zflt zrc0 zrc1 zrc2 zrc3 zrc4 zrf0 zrf1 zrf2 zrf3 zrf4 zrlt zsc0 zsc1 zsc2 zsc3 zslt
  have za := ZAH.out; clear ZAH
  have zf := ZFH.out; clear ZFH
  have zr := ZRH.out; clear ZRH
  have zs := ZSH.out; clear ZSH
  have zb := ZB.out; clear ZB
  refine (cntS_any _ a b c d).mono ?_
  rintro e w7 ⟨rfl, hb⟩
  rw [HN.out]
  replace za := has_call za hb
  replace zf := has_call zf hb
  replace zr := has_call zr hb
  replace zs := has_call zs hb
  replace zb := bthen zb hb; clear hb
  have zac0 := has_cell za 0 rfl; have zac1 := has_cell za 1 rfl; have zac2 := has_cell za 2 rfl; have zac3 := has_cell za 3 rfl; have zac4 := has_cell za 4 rfl
  have zaf0 := has_free za 0; have zaf1 := has_free za 1; have zaf2 := has_free za 2; have zaf3 := has_free za 3; have zaf4 := has_free za 4
  have zalt := has_lt za
  have zfc0 := has_cell zf 0 rfl; have zfc1 := has_cell zf 1 rfl; have zfc2 := has_cell zf 2 rfl; have zfc3 := has_cell zf 3 rfl
  have zflt := has_lt zf
  have zrc0 := has_cell zr 0 rfl; have zrc1 := has_cell zr 1 rfl; have zrc2 := has_cell zr 2 rfl; have zrc3 := has_cell zr 3 rfl; have zrc4 := has_cell zr 4 rfl
  have zrf0 := has_free zr 0; have zrf1 := has_free zr 1; have zrf2 := has_free zr 2; have zrf3 := has_free zr 3; have zrf4 := has_free zr 4
  have zrlt := has_lt zr
  have zsc0 := has_cell zs 0 rfl; have zsc1 := has_cell zs 1 rfl; have zsc2 := has_cell zs 2 rfl; have zsc3 := has_cell zs 3 rfl
  have zslt := has_lt zs
  have ZAH := Lib.hid za; clear za
  have ZFH := Lib.hid zf; clear zf
  have ZRH := Lib.hid zr; clear zr
  have ZSH := Lib.hid zs; clear zs
  have ZB := Lib.hid zb; clear zb
  go_wp2_with fail
  clear zac0 zac1 zac2 zac3 zac4 zaf0 zaf1 zaf2 zaf3 zaf4 zalt zfc0 zfc1 zfc2 zfc3 zflt zrc0 zrc1 zrc2 zrc3 zrc4 zrf0 zrf1 zrf2 zrf3 zrf4 zrlt zsc0 zsc1 zsc2 zsc3 zslt
  have za := ZAH.out; clear ZAH
  have zf := ZFH.out; clear ZFH
  have zr := ZRH.out; clear ZRH
  have zs := ZSH.out; clear ZSH
  have zb := ZB.out; clear ZB
  refine (verdS_any _ k x1 x2 x3 x4).mono ?_
  rintro e w8 ⟨rfl, hb⟩
  rw [HVD.out]
  replace za := has_call za hb
  replace zf := has_call zf hb
  replace zr := has_call zr hb
  replace zs := has_call zs hb
  replace zb := bthen zb hb; clear hb
  have zac0 := has_cell za 0 rfl; have zac1 := has_cell za 1 rfl; have zac2 := has_cell za 2 rfl; have zac3 := has_cell za 3 rfl; have zac4 := has_cell za 4 rfl
  have zaf0 := has_free za 0; have zaf1 := has_free za 1; have zaf2 := has_free za 2; have zaf3 := has_free za 3; have zaf4 := has_free za 4
  have zalt := has_lt za
  have zfc0 := has_cell zf 0 rfl; have zfc1 := has_cell zf 1 rfl; have zfc2 := has_cell zf 2 rfl; have zfc3 := has_cell zf 3 rfl
  have zflt := has_lt zf
  have zrc0 := has_cell zr 0 rfl; have zrc1 := has_cell zr 1 rfl; have zrc2 := has_cell zr 2 rfl; have zrc3 := has_cell zr 3 rfl; have zrc4 := has_cell zr 4 rfl
  have zrf0 := has_free zr 0; have zrf1 := has_free zr 1; have zrf2 := has_free zr 2; have zrf3 := has_free zr 3; have zrf4 := has_free zr 4
  have zrlt := has_lt zr
  have zsc0 := has_cell zs 0 rfl; have zsc1 := has_cell zs 1 rfl; have zsc2 := has_cell zs 2 rfl; have zsc3 := has_cell zs 3 rfl
  have zslt := has_lt zs
  have ZAH := Lib.hid za; clear za
  have ZFH := Lib.hid zf; clear zf
  have ZRH := Lib.hid zr; clear zr
  have ZSH := Lib.hid zs; clear zs
  have ZB := Lib.hid zb; clear zb
  go_wp2_with fail
  all_goals
    refine bodyPost_ret (v := drI (recD ⟨k, s, l, o, f⟩ a b c d)) ?_ rfl ⟨rfl, ?_⟩
    · rw [HV.out]; clear HV HT HVD HN HC ZB ZAH ZFH ZRH ZSH; simp_all [results, Try.results59, go_sem, drI, Dr.A]
    · repeat (first | (with_reducible exact ZB.out) | (with_reducible refine Below.alloc ?_ (by have h9 := ZB.out.size; simp <;> omega) _) | (with_reducible refine Below.drew ?_) | (with_reducible refine Below.setCell ?_ (by first | exact Nat.le_refl _ | exact Nat.le_add_right _ _ | (simp <;> omega)) _))
end Go.Proofs.Ytaeonangkbhmgaa
