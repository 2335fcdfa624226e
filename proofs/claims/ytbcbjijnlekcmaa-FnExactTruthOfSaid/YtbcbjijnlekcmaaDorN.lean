/- Chapter 4: walks of laws. -/
import Derived.Test.YtbcbjijnlekcmaaDorL
import Derived.Test.YtbcbjijnlekcmaaDorE
namespace Go.Proofs.Ytbcbjijnlekcmaa
open Go.RowKit
set_option linter.unusedVariables false
set_option maxRecDepth 100000 in
set_option maxHeartbeats 4000000 in
theorem stnLaw_walk (w : World) (x : Int) : Calls Try.prog 4 #[.int .i64 x] w fun e w' => e = .returned (.bool true) ∧ Below w.heap.size w w' := by
  generalize hV : stepV x = V
  have HV := Lib.hid hV; clear hV
  go_enter Try.func4, Try.ntmps4
  go_wp2_with fail
  refine (stepNameS_any _ x).mono ?_
  rintro e w1 ⟨rfl, hb⟩
  rw [HV.out]
  have zb := hb; clear hb
  have CH := Lib.hid zb; clear zb
  go_wp2_with fail
  have zb := CH.out; clear CH
  refine (stepNameI_any _ x).mono ?_
  rintro e w2 ⟨rfl, hb⟩
  rw [HV.out]
  replace zb := bthen zb hb; clear hb
  have CH := Lib.hid zb; clear zb
  go_wp2_with fail
  have zb := CH.out; clear CH
  go_ret
  exact ⟨rfl, zb⟩
set_option maxRecDepth 100000 in
set_option maxHeartbeats 4000000 in
theorem vdnLaw_walk (w : World) (x : Int) : Calls Try.prog 12 #[.int .i64 x] w fun e w' => e = .returned (.bool true) ∧ Below w.heap.size w w' := by
  generalize hV : verdV x = V
  have HV := Lib.hid hV; clear hV
  go_enter Try.func12, Try.ntmps12
  go_wp2_with fail
  refine (verdNameS_any _ x).mono ?_
  rintro e w1 ⟨rfl, hb⟩
  rw [HV.out]
  have zb := hb; clear hb
  have CH := Lib.hid zb; clear zb
  go_wp2_with fail
  have zb := CH.out; clear CH
  refine (verdNameI_any _ x).mono ?_
  rintro e w2 ⟨rfl, hb⟩
  rw [HV.out]
  replace zb := bthen zb hb; clear hb
  have CH := Lib.hid zb; clear zb
  go_wp2_with fail
  have zb := CH.out; clear CH
  go_ret
  exact ⟨rfl, zb⟩
set_option maxRecDepth 100000 in
set_option maxHeartbeats 4000000 in
theorem fokLaw_walk (w : World) (a b c d : Int) : Calls Try.prog 10 #[.agg #[.int .i64 a, .int .i64 b, .int .i64 c, .int .i64 d]] w fun e w' => e = .returned (.bool true) ∧ Below w.heap.size w w' := by
  generalize hV : faultsB a b c d = V
  have eq : (V != V) = false := by simp
  have HV := Lib.hid hV; clear hV
  go_enter Try.func10, Try.ntmps10
  go_wp2_with fail
  generalize hX : (w.alloc (.cells #[.int .i64 a, .int .i64 b, .int .i64 c, .int .i64 d] 37)) = w1
  have hb : Below w.heap.size w w1 := by rw [← hX]; exact balloc _ _
  have hk : Has w1 w.heap.size 37 #[.int .i64 a, .int .i64 b, .int .i64 c, .int .i64 d] := by rw [← hX]; exact has_new _ _ _
  clear hX
  have zb := hb; clear hb
  have za := hk; clear hk
  refine (toFaults_any _ a b c d).mono ?_
  rintro e w2 ⟨rfl, hb⟩
  replace za := has_call za hb
  replace zb := bthen zb hb; clear hb
  have zac0 := has_cell za 0 rfl
  have zac1 := has_cell za 1 rfl
  have zac2 := has_cell za 2 rfl
  have zac3 := has_cell za 3 rfl
  have zalt := has_lt za
  have ZAH := Lib.hid za; clear za
  have CH := Lib.hid zb; clear zb
  go_wp2_with fail
  clear zalt zac0 zac1 zac2 zac3; have za := ZAH.out; clear ZAH
  have zb := CH.out; clear CH
  refine (faultsS_any _ a b c d).mono ?_
  rintro e w3 ⟨rfl, hb⟩
  rw [HV.out]
  replace za := has_call za hb
  replace zb := bthen zb hb; clear hb
  have zac0 := has_cell za 0 rfl
  have zac1 := has_cell za 1 rfl
  have zac2 := has_cell za 2 rfl
  have zac3 := has_cell za 3 rfl
  have zalt := has_lt za
  have ZAH := Lib.hid za; clear za
  have CH := Lib.hid zb; clear zb
  go_wp2_with fail
  clear zalt zac0 zac1 zac2 zac3; have za := ZAH.out; clear ZAH
  have zb := CH.out; clear CH
  refine (toFaults_any _ a b c d).mono ?_
  rintro e w4 ⟨rfl, hb⟩
  replace za := has_call za hb
  replace zb := bthen zb hb; clear hb
  have zac0 := has_cell za 0 rfl
  have zac1 := has_cell za 1 rfl
  have zac2 := has_cell za 2 rfl
  have zac3 := has_cell za 3 rfl
  have zalt := has_lt za
  have ZAH := Lib.hid za; clear za
  have CH := Lib.hid zb; clear zb
  go_wp2_with fail
  clear zalt zac0 zac1 zac2 zac3; have za := ZAH.out; clear ZAH
  have zb := CH.out; clear CH
  refine (faultsI_any _ a b c d).mono ?_
  rintro e w5 ⟨rfl, hb⟩
  rw [HV.out]
  replace za := has_call za hb
  replace zb := bthen zb hb; clear hb
  have zac0 := has_cell za 0 rfl
  have zac1 := has_cell za 1 rfl
  have zac2 := has_cell za 2 rfl
  have zac3 := has_cell za 3 rfl
  have zalt := has_lt za
  have ZAH := Lib.hid za; clear za
  have CH := Lib.hid zb; clear zb
  go_wp2_with fail
  clear zalt zac0 zac1 zac2 zac3; have za := ZAH.out; clear ZAH
  have zb := CH.out; clear CH
  go_ret
  exact ⟨rfl, zb⟩
set_option maxRecDepth 100000 in
set_option maxHeartbeats 4000000 in
theorem cnfLaw_walk (w : World) (a b c d : Int) : Calls Try.prog 11 #[.agg #[.int .i64 a, .int .i64 b, .int .i64 c, .int .i64 d]] w fun e w' => e = .returned (.bool true) ∧ Below w.heap.size w w' := by
  generalize hV : cntF a b c d = V
  have eq : (V != V) = false := by simp
  have HV := Lib.hid hV; clear hV
  go_enter Try.func11, Try.ntmps11
  go_wp2_with fail
  generalize hX : (w.alloc (.cells #[.int .i64 a, .int .i64 b, .int .i64 c, .int .i64 d] 37)) = w1
  have hb : Below w.heap.size w w1 := by rw [← hX]; exact balloc _ _
  have hk : Has w1 w.heap.size 37 #[.int .i64 a, .int .i64 b, .int .i64 c, .int .i64 d] := by rw [← hX]; exact has_new _ _ _
  clear hX
  have zb := hb; clear hb
  have za := hk; clear hk
  refine (toFaults_any _ a b c d).mono ?_
  rintro e w2 ⟨rfl, hb⟩
  replace za := has_call za hb
  replace zb := bthen zb hb; clear hb
  have zac0 := has_cell za 0 rfl
  have zac1 := has_cell za 1 rfl
  have zac2 := has_cell za 2 rfl
  have zac3 := has_cell za 3 rfl
  have zalt := has_lt za
  have ZAH := Lib.hid za; clear za
  have CH := Lib.hid zb; clear zb
  go_wp2_with fail
  clear zalt zac0 zac1 zac2 zac3; have za := ZAH.out; clear ZAH
  have zb := CH.out; clear CH
  refine (cntS_any _ a b c d).mono ?_
  rintro e w3 ⟨rfl, hb⟩
  rw [HV.out]
  replace za := has_call za hb
  replace zb := bthen zb hb; clear hb
  have zac0 := has_cell za 0 rfl
  have zac1 := has_cell za 1 rfl
  have zac2 := has_cell za 2 rfl
  have zac3 := has_cell za 3 rfl
  have zalt := has_lt za
  have ZAH := Lib.hid za; clear za
  have CH := Lib.hid zb; clear zb
  go_wp2_with fail
  clear zalt zac0 zac1 zac2 zac3; have za := ZAH.out; clear ZAH
  have zb := CH.out; clear CH
  refine (toFaults_any _ a b c d).mono ?_
  rintro e w4 ⟨rfl, hb⟩
  replace za := has_call za hb
  replace zb := bthen zb hb; clear hb
  have zac0 := has_cell za 0 rfl
  have zac1 := has_cell za 1 rfl
  have zac2 := has_cell za 2 rfl
  have zac3 := has_cell za 3 rfl
  have zalt := has_lt za
  have ZAH := Lib.hid za; clear za
  have CH := Lib.hid zb; clear zb
  go_wp2_with fail
  clear zalt zac0 zac1 zac2 zac3; have za := ZAH.out; clear ZAH
  have zb := CH.out; clear CH
  refine (cntI_any _ a b c d).mono ?_
  rintro e w5 ⟨rfl, hb⟩
  rw [HV.out]
  replace za := has_call za hb
  replace zb := bthen zb hb; clear hb
  have zac0 := has_cell za 0 rfl
  have zac1 := has_cell za 1 rfl
  have zac2 := has_cell za 2 rfl
  have zac3 := has_cell za 3 rfl
  have zalt := has_lt za
  have ZAH := Lib.hid za; clear za
  have CH := Lib.hid zb; clear zb
  go_wp2_with fail
  clear zalt zac0 zac1 zac2 zac3; have za := ZAH.out; clear ZAH
  have zb := CH.out; clear CH
  go_ret
  exact ⟨rfl, zb⟩
set_option maxRecDepth 100000 in
set_option maxHeartbeats 4000000 in
theorem vdtLaw_walk (w : World) (x : Int) (sw hk sc ey : Bool) : Calls Try.prog 13 #[.int .i64 x, .agg #[.bool sw, .bool hk, .bool sc, .bool ey]] w fun e w' => e = .returned (.bool true) ∧ Below w.heap.size w w' := by
  generalize hV : verdB x sw hk sc ey = V
  have eq : (V != V) = false := by simp
  have HV := Lib.hid hV; clear hV
  go_enter Try.func13, Try.ntmps13
  go_wp2_with fail
  generalize hX : (w.alloc (.cells #[.bool sw, .bool hk, .bool sc, .bool ey] 44)) = w1
  have hb : Below w.heap.size w w1 := by rw [← hX]; exact balloc _ _
  have hk : Has w1 w.heap.size 44 #[.bool sw, .bool hk, .bool sc, .bool ey] := by rw [← hX]; exact has_new _ _ _
  clear hX
  have zb := hb; clear hb
  have za := hk; clear hk
  refine (toSigns_any _ sw hk sc ey).mono ?_
  rintro e w2 ⟨rfl, hb⟩
  replace za := has_call za hb
  replace zb := bthen zb hb; clear hb
  have zac0 := has_cell za 0 rfl
  have zac1 := has_cell za 1 rfl
  have zac2 := has_cell za 2 rfl
  have zac3 := has_cell za 3 rfl
  have zalt := has_lt za
  have ZAH := Lib.hid za; clear za
  have CH := Lib.hid zb; clear zb
  go_wp2_with fail
  clear zalt zac0 zac1 zac2 zac3; have za := ZAH.out; clear ZAH
  have zb := CH.out; clear CH
  refine (verdS_any _ x sw hk sc ey).mono ?_
  rintro e w3 ⟨rfl, hb⟩
  rw [HV.out]
  replace za := has_call za hb
  replace zb := bthen zb hb; clear hb
  have zac0 := has_cell za 0 rfl
  have zac1 := has_cell za 1 rfl
  have zac2 := has_cell za 2 rfl
  have zac3 := has_cell za 3 rfl
  have zalt := has_lt za
  have ZAH := Lib.hid za; clear za
  have CH := Lib.hid zb; clear zb
  go_wp2_with fail
  clear zalt zac0 zac1 zac2 zac3; have za := ZAH.out; clear ZAH
  have zb := CH.out; clear CH
  refine (toSigns_any _ sw hk sc ey).mono ?_
  rintro e w4 ⟨rfl, hb⟩
  replace za := has_call za hb
  replace zb := bthen zb hb; clear hb
  have zac0 := has_cell za 0 rfl
  have zac1 := has_cell za 1 rfl
  have zac2 := has_cell za 2 rfl
  have zac3 := has_cell za 3 rfl
  have zalt := has_lt za
  have ZAH := Lib.hid za; clear za
  have CH := Lib.hid zb; clear zb
  go_wp2_with fail
  clear zalt zac0 zac1 zac2 zac3; have za := ZAH.out; clear ZAH
  have zb := CH.out; clear CH
  refine (verdI_any _ x sw hk sc ey).mono ?_
  rintro e w5 ⟨rfl, hb⟩
  rw [HV.out]
  replace za := has_call za hb
  replace zb := bthen zb hb; clear hb
  have zac0 := has_cell za 0 rfl
  have zac1 := has_cell za 1 rfl
  have zac2 := has_cell za 2 rfl
  have zac3 := has_cell za 3 rfl
  have zalt := has_lt za
  have ZAH := Lib.hid za; clear za
  have CH := Lib.hid zb; clear zb
  go_wp2_with fail
  clear zalt zac0 zac1 zac2 zac3; have za := ZAH.out; clear ZAH
  have zb := CH.out; clear CH
  go_ret
  exact ⟨rfl, zb⟩
set_option maxRecDepth 100000 in
set_option maxHeartbeats 4000000 in
theorem truLaw_walk (w : World) (k s : Int) (l o f : Bool) : Calls Try.prog 14 #[.agg #[.int .i64 k, .int .i64 s, .bool l, .bool o, .bool f]] w fun e w' => e = .returned (.bool true) ∧ Below w.heap.size w w' := by
  generalize hV : truthD ⟨k, s, l, o, f⟩ = V
  have eq : (V != V) = false := by simp
  have HV := Lib.hid hV; clear hV
  go_enter Try.func14, Try.ntmps14
  go_wp2_with fail
  generalize hX : (w.alloc (.cells #[.int .i64 k, .int .i64 s, .bool l, .bool o, .bool f] 23)) = w1
  have hb : Below w.heap.size w w1 := by rw [← hX]; exact balloc _ _
  have hk : Has w1 w.heap.size 23 #[.int .i64 k, .int .i64 s, .bool l, .bool o, .bool f] := by rw [← hX]; exact has_new _ _ _
  clear hX
  have zb := hb; clear hb
  have za := hk; clear hk
  refine (toDoor_any _ k s l o f).mono ?_
  rintro e w2 ⟨rfl, hb⟩
  replace za := has_call za hb
  replace zb := bthen zb hb; clear hb
  have zac0 := has_cell za 0 rfl
  have zac1 := has_cell za 1 rfl
  have zac2 := has_cell za 2 rfl
  have zac3 := has_cell za 3 rfl
  have zac4 := has_cell za 4 rfl
  have zalt := has_lt za
  have ZAH := Lib.hid za; clear za
  have CH := Lib.hid zb; clear zb
  go_wp2_with fail
  clear zalt zac0 zac1 zac2 zac3 zac4; have za := ZAH.out; clear ZAH
  have zb := CH.out; clear CH
  refine (truthS_any _ k s l o f).mono ?_
  rintro e w3 ⟨rfl, hb⟩
  rw [HV.out]
  replace za := has_call za hb
  replace zb := bthen zb hb; clear hb
  have zac0 := has_cell za 0 rfl
  have zac1 := has_cell za 1 rfl
  have zac2 := has_cell za 2 rfl
  have zac3 := has_cell za 3 rfl
  have zac4 := has_cell za 4 rfl
  have zalt := has_lt za
  have ZAH := Lib.hid za; clear za
  have CH := Lib.hid zb; clear zb
  go_wp2_with fail
  clear zalt zac0 zac1 zac2 zac3 zac4; have za := ZAH.out; clear ZAH
  have zb := CH.out; clear CH
  refine (toDoor_any _ k s l o f).mono ?_
  rintro e w4 ⟨rfl, hb⟩
  replace za := has_call za hb
  replace zb := bthen zb hb; clear hb
  have zac0 := has_cell za 0 rfl
  have zac1 := has_cell za 1 rfl
  have zac2 := has_cell za 2 rfl
  have zac3 := has_cell za 3 rfl
  have zac4 := has_cell za 4 rfl
  have zalt := has_lt za
  have ZAH := Lib.hid za; clear za
  have CH := Lib.hid zb; clear zb
  go_wp2_with fail
  clear zalt zac0 zac1 zac2 zac3 zac4; have za := ZAH.out; clear ZAH
  have zb := CH.out; clear CH
  refine (truthI_any _ k s l o f).mono ?_
  rintro e w5 ⟨rfl, hb⟩
  rw [HV.out]
  replace za := has_call za hb
  replace zb := bthen zb hb; clear hb
  have zac0 := has_cell za 0 rfl
  have zac1 := has_cell za 1 rfl
  have zac2 := has_cell za 2 rfl
  have zac3 := has_cell za 3 rfl
  have zac4 := has_cell za 4 rfl
  have zalt := has_lt za
  have ZAH := Lib.hid za; clear za
  have CH := Lib.hid zb; clear zb
  go_wp2_with fail
  clear zalt zac0 zac1 zac2 zac3 zac4; have za := ZAH.out; clear ZAH
  have zb := CH.out; clear CH
  go_ret
  exact ⟨rfl, zb⟩
end Go.Proofs.Ytbcbjijnlekcmaa
