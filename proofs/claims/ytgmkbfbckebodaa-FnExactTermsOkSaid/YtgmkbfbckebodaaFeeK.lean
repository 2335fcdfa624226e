/- Chapter 6: the walk of the exact law of TermsOk (gen_feel.py). -/
import Derived.Test.YtgmkbfbckebodaaFeeU
import Derived.Test.YtgmkbfbckebodaaFeeR
import Derived.Deep.RegionHeld3
import Derived.Deep.DeepMust
namespace Go.Proofs.Ytgmkbfbckebodaa
open Go.RowKit
set_option linter.unusedVariables false
set_option maxRecDepth 100000 in
set_option maxHeartbeats 4000000 in
theorem trmLaw_walk (t : Tm) (w : World) : Calls Try.prog 3 #[.agg #[.int .i64 t.keep, .int .i64 t.free, .int .i64 t.step, .int .i64 t.rate, .int .i64 t.cap, .int .i64 t.longer, .int .i64 t.price, .int .i64 t.most]] w fun e w' => e = .returned (.bool true) ∧ Below w.heap.size w w' := by
  generalize hV : termsB t = V
  have HV := Lib.hid hV; clear hV
  have nv : (V != V) = false := by simp
  go_enter Try.func3, Try.ntmps3
  go_wp2_with fail
  generalize hX : (w.alloc (.cells #[.int .i64 t.keep, .int .i64 t.free, .int .i64 t.step, .int .i64 t.rate, .int .i64 t.cap, .int .i64 t.longer, .int .i64 t.price, .int .i64 t.most] 23)) = w1
  have hb : Below w.heap.size w w1 := by rw [← hX]; exact balloc _ _
  have hk : Has w1 w.heap.size 23 #[.int .i64 t.keep, .int .i64 t.free, .int .i64 t.step, .int .i64 t.rate, .int .i64 t.cap, .int .i64 t.longer, .int .i64 t.price, .int .i64 t.most] := by rw [← hX]; exact has_new _ _ _
  have hzw1 : w1.heap.size = w.heap.size + 1 := by rw [← hX]; simp
  clear hX
  have zb := hb; clear hb
  have za := hk; clear hk
  clear hzw1
  refine (toTerms_any t.keep t.free t.step t.rate t.cap t.longer t.price t.most _).mono ?_
  rintro e w2 ⟨rfl, hb⟩
  replace za := has_call za hb
  replace zb := bthen zb hb; clear hb
  have zac0 := has_cell za 0 rfl; have zac1 := has_cell za 1 rfl; have zac2 := has_cell za 2 rfl; have zac3 := has_cell za 3 rfl; have zac4 := has_cell za 4 rfl; have zac5 := has_cell za 5 rfl; have zac6 := has_cell za 6 rfl; have zac7 := has_cell za 7 rfl
  have zalt := has_lt za
  have ZAH := Lib.hid za; clear za
  have ZB := Lib.hid zb; clear zb
  go_wp2_with fail
  clear zac0 zac1 zac2 zac3 zac4 zac5 zac6 zac7 zalt
  have za := ZAH.out; clear ZAH
  have zb := ZB.out; clear ZB
  refine (termsS_any _ t).mono ?_
  rintro e w3 ⟨rfl, hb⟩
  rw [HV.out]
  replace za := has_call za hb
  replace zb := bthen zb hb; clear hb
  have zac0 := has_cell za 0 rfl; have zac1 := has_cell za 1 rfl; have zac2 := has_cell za 2 rfl; have zac3 := has_cell za 3 rfl; have zac4 := has_cell za 4 rfl; have zac5 := has_cell za 5 rfl; have zac6 := has_cell za 6 rfl; have zac7 := has_cell za 7 rfl
  have zalt := has_lt za
  have ZAH := Lib.hid za; clear za
  have ZB := Lib.hid zb; clear zb
  go_wp2_with fail
  clear zac0 zac1 zac2 zac3 zac4 zac5 zac6 zac7 zalt
  have za := ZAH.out; clear ZAH
  have zb := ZB.out; clear ZB
  refine (toTerms_any t.keep t.free t.step t.rate t.cap t.longer t.price t.most _).mono ?_
  rintro e w4 ⟨rfl, hb⟩
  replace za := has_call za hb
  replace zb := bthen zb hb; clear hb
  have zac0 := has_cell za 0 rfl; have zac1 := has_cell za 1 rfl; have zac2 := has_cell za 2 rfl; have zac3 := has_cell za 3 rfl; have zac4 := has_cell za 4 rfl; have zac5 := has_cell za 5 rfl; have zac6 := has_cell za 6 rfl; have zac7 := has_cell za 7 rfl
  have zalt := has_lt za
  have ZAH := Lib.hid za; clear za
  have ZB := Lib.hid zb; clear zb
  go_wp2_with fail
  clear zac0 zac1 zac2 zac3 zac4 zac5 zac6 zac7 zalt
  have za := ZAH.out; clear ZAH
  have zb := ZB.out; clear ZB
  refine (termsI_any _ t).mono ?_
  rintro e w5 ⟨rfl, hb⟩
  rw [HV.out]
  replace za := has_call za hb
  replace zb := bthen zb hb; clear hb
  have zac0 := has_cell za 0 rfl; have zac1 := has_cell za 1 rfl; have zac2 := has_cell za 2 rfl; have zac3 := has_cell za 3 rfl; have zac4 := has_cell za 4 rfl; have zac5 := has_cell za 5 rfl; have zac6 := has_cell za 6 rfl; have zac7 := has_cell za 7 rfl
  have zalt := has_lt za
  have ZAH := Lib.hid za; clear za
  have ZB := Lib.hid zb; clear zb
  go_wp2_with fail
  clear zac0 zac1 zac2 zac3 zac4 zac5 zac6 zac7 zalt
  have za := ZAH.out; clear ZAH
  have zb := ZB.out; clear ZB
  go_ret
  exact ⟨rfl, zb⟩
end Go.Proofs.Ytgmkbfbckebodaa
