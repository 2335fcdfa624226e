/- Chapter 8: the walks of exact laws (gen_evl.py). -/
import Derived.Test.YtgmdplhaofhliaaDoorFmI
import Derived.Test.YtgmdplhaofhliaaDoorFmS
import Derived.Test.YtgmdplhaofhliaaDoorEvA
namespace Go.Proofs.YtgmdplhaofhliaaDoor
open Go.RowKit
set_option linter.unusedVariables false

set_option maxRecDepth 100000 in
set_option maxHeartbeats 4000000 in
theorem fmeLaw_walk (x0 x1 x2 x3 x4 x5 x6 : Int) (w : World) (hT : Tab8 w) : Calls Tryd.prog 4 #[.agg #[.int .i64 x0, .int .i64 x1, .int .i64 x2, .int .i64 x3, .int .i64 x4, .int .i64 x5, .int .i64 x6]] w fun e w' => e = .returned (.bool true) ∧ Below w.heap.size w w' := by
  have HT := Lib.hid hT; clear hT
  generalize hV : fmE ⟨x0, x1, x2, x3, x4, x5, x6⟩ = V
  have hV2 := Lib.hid hV; clear hV
  go_enter Tryd.func4, Tryd.ntmps4
  go_wp2_with fail
  generalize hX : (w.alloc (.cells #[.int .i64 x0, .int .i64 x1, .int .i64 x2, .int .i64 x3, .int .i64 x4, .int .i64 x5, .int .i64 x6] 32)) = w1
  have hb : Below w.heap.size w w1 := by rw [← hX]; exact balloc _ _
  have hk : Has w1 w.heap.size 32 #[.int .i64 x0, .int .i64 x1, .int .i64 x2, .int .i64 x3, .int .i64 x4, .int .i64 x5, .int .i64 x6] := by rw [← hX]; exact has_new _ _ _
  have hzw1 : w1.heap.size = w.heap.size + 1 := by rw [← hX]; simp
  clear hX
  have zb := hb; clear hb
  have za := hk; clear hk
  clear hzw1
  refine (toEvent_any x0 x1 x2 x3 x4 x5 x6 _).mono ?_
  rintro e w2 ⟨rfl, hb⟩
  replace za := has_call za hb
  replace zb := bthen zb hb; clear hb
  have zac0 := has_cell za 0 rfl; have zac1 := has_cell za 1 rfl; have zac2 := has_cell za 2 rfl; have zac3 := has_cell za 3 rfl; have zac4 := has_cell za 4 rfl; have zac5 := has_cell za 5 rfl; have zac6 := has_cell za 6 rfl
  have zalt := has_lt za
  have ZAH := Lib.hid za; clear za
  have ZB := Lib.hid zb; clear zb
  go_wp2_with fail
  clear zac0 zac1 zac2 zac3 zac4 zac5 zac6 zalt
  have za := ZAH.out; clear ZAH
  have zb := ZB.out; clear ZB
  refine (fmeS_any _ x0 x1 x2 x3 x4 x5 x6).mono ?_
  rintro e w3 ⟨rfl, hb⟩
  rw [hV2.out]
  replace za := has_call za hb
  replace zb := bthen zb hb; clear hb
  have zac0 := has_cell za 0 rfl; have zac1 := has_cell za 1 rfl; have zac2 := has_cell za 2 rfl; have zac3 := has_cell za 3 rfl; have zac4 := has_cell za 4 rfl; have zac5 := has_cell za 5 rfl; have zac6 := has_cell za 6 rfl
  have zalt := has_lt za
  have ZAH := Lib.hid za; clear za
  have ZB := Lib.hid zb; clear zb
  go_wp2_with fail
  clear zac0 zac1 zac2 zac3 zac4 zac5 zac6 zalt
  have za := ZAH.out; clear ZAH
  have zb := ZB.out; clear ZB
  refine (toEvent_any x0 x1 x2 x3 x4 x5 x6 _).mono ?_
  rintro e w4 ⟨rfl, hb⟩
  replace za := has_call za hb
  replace zb := bthen zb hb; clear hb
  have zac0 := has_cell za 0 rfl; have zac1 := has_cell za 1 rfl; have zac2 := has_cell za 2 rfl; have zac3 := has_cell za 3 rfl; have zac4 := has_cell za 4 rfl; have zac5 := has_cell za 5 rfl; have zac6 := has_cell za 6 rfl
  have zalt := has_lt za
  have ZAH := Lib.hid za; clear za
  have ZB := Lib.hid zb; clear zb
  go_wp2_with fail
  clear zac0 zac1 zac2 zac3 zac4 zac5 zac6 zalt
  have za := ZAH.out; clear ZAH
  have zb := ZB.out; clear ZB
  refine (fmeI_any _ x0 x1 x2 x3 x4 x5 x6 (HT.out.below zb)).mono ?_
  rintro e w5 ⟨rfl, hb⟩
  rw [hV2.out]
  replace za := has_call za hb
  replace zb := bthen zb hb; clear hb
  have zac0 := has_cell za 0 rfl; have zac1 := has_cell za 1 rfl; have zac2 := has_cell za 2 rfl; have zac3 := has_cell za 3 rfl; have zac4 := has_cell za 4 rfl; have zac5 := has_cell za 5 rfl; have zac6 := has_cell za 6 rfl
  have zalt := has_lt za
  have ZAH := Lib.hid za; clear za
  have ZB := Lib.hid zb; clear zb
  go_wp2_with fail
  clear zac0 zac1 zac2 zac3 zac4 zac5 zac6 zalt
  have za := ZAH.out; clear ZAH
  have zb := ZB.out; clear ZB
  go_ret
  exact ⟨rfl, zb⟩
end Go.Proofs.YtgmdplhaofhliaaDoor
