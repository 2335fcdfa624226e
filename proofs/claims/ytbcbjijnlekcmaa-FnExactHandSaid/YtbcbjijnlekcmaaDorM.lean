/- Chapter 4: walks of laws. -/
import Derived.Test.YtbcbjijnlekcmaaDorL
import Derived.Test.YtbcbjijnlekcmaaDorC
import Derived.Test.YtbcbjijnlekcmaaDorD
namespace Go.Proofs.Ytbcbjijnlekcmaa
open Go.RowKit
set_option linter.unusedVariables false
set_option maxRecDepth 100000 in
set_option maxHeartbeats 4000000 in
theorem dokLaw_walk (w : World) (k s : Int) (l o f : Bool) : Calls Try.prog 3 #[.agg #[.int .i64 k, .int .i64 s, .bool l, .bool o, .bool f]] w fun e w' => e = .returned (.bool true) ∧ Below w.heap.size w w' := by
  generalize hV : doorB k s l o f = V
  have eq : (V != V) = false := by simp
  have HV := Lib.hid hV; clear hV
  go_enter Try.func3, Try.ntmps3
  go_wp2_with fail
  generalize hX : (w.alloc (.cells #[.int .i64 k, .int .i64 s, .bool l, .bool o, .bool f] 23)) = w1
  have hb : Below w.heap.size w w1 := by rw [← hX]; exact balloc _ _
  have hk : Has w1 w.heap.size 23 #[.int .i64 k, .int .i64 s, .bool l, .bool o, .bool f] := by rw [← hX]; exact has_new _ _ _
  clear hX
  have c := hb; clear hb
  have za := hk; clear hk
  refine (toDoor_any _ k s l o f).mono ?_
  rintro e w2 ⟨rfl, hb⟩
  replace za := has_call za hb
  replace c := bthen c hb; clear hb
  have zac0 := has_cell za 0 rfl
  have zac1 := has_cell za 1 rfl
  have zac2 := has_cell za 2 rfl
  have zac3 := has_cell za 3 rfl
  have zac4 := has_cell za 4 rfl
  have zalt := has_lt za
  have ZAH := Lib.hid za; clear za
  have CH := Lib.hid c; clear c
  go_wp2_with fail
  clear zalt zac0 zac1 zac2 zac3 zac4; have za := ZAH.out; clear ZAH
  have c := CH.out; clear CH
  refine (doorS_any _ k s l o f).mono ?_
  rintro e w3 ⟨rfl, hb⟩
  rw [HV.out]
  replace za := has_call za hb
  replace c := bthen c hb; clear hb
  have zac0 := has_cell za 0 rfl
  have zac1 := has_cell za 1 rfl
  have zac2 := has_cell za 2 rfl
  have zac3 := has_cell za 3 rfl
  have zac4 := has_cell za 4 rfl
  have zalt := has_lt za
  have ZAH := Lib.hid za; clear za
  have CH := Lib.hid c; clear c
  go_wp2_with fail
  clear zalt zac0 zac1 zac2 zac3 zac4; have za := ZAH.out; clear ZAH
  have c := CH.out; clear CH
  refine (toDoor_any _ k s l o f).mono ?_
  rintro e w4 ⟨rfl, hb⟩
  replace za := has_call za hb
  replace c := bthen c hb; clear hb
  have zac0 := has_cell za 0 rfl
  have zac1 := has_cell za 1 rfl
  have zac2 := has_cell za 2 rfl
  have zac3 := has_cell za 3 rfl
  have zac4 := has_cell za 4 rfl
  have zalt := has_lt za
  have ZAH := Lib.hid za; clear za
  have CH := Lib.hid c; clear c
  go_wp2_with fail
  clear zalt zac0 zac1 zac2 zac3 zac4; have za := ZAH.out; clear ZAH
  have c := CH.out; clear CH
  refine (doorI_any _ k s l o f).mono ?_
  rintro e w5 ⟨rfl, hb⟩
  rw [HV.out]
  replace za := has_call za hb
  replace c := bthen c hb; clear hb
  have zac0 := has_cell za 0 rfl
  have zac1 := has_cell za 1 rfl
  have zac2 := has_cell za 2 rfl
  have zac3 := has_cell za 3 rfl
  have zac4 := has_cell za 4 rfl
  have zalt := has_lt za
  have ZAH := Lib.hid za; clear za
  have CH := Lib.hid c; clear c
  go_wp2_with fail
  clear zalt zac0 zac1 zac2 zac3 zac4; have za := ZAH.out; clear ZAH
  have c := CH.out; clear CH
  go_ret
  exact ⟨rfl, c⟩
set_option maxRecDepth 100000 in
set_option maxHeartbeats 4000000 in
theorem begLaw_walk (w : World) (k s : Int) (l o f : Bool) (x : Int) : Calls Try.prog 5 #[.agg #[.int .i64 k, .int .i64 s, .bool l, .bool o, .bool f], .int .i64 x] w fun e w' => e = .returned (.bool true) ∧ Below w.heap.size w w' := by
  obtain ⟨k', s', l', o', f', q0, hV⟩ : ∃ (k' s' : Int) (l' o' f' : Bool) (q0 : Bool), drB (begD ⟨k, s, l, o, f⟩ x) = .tuple #[.agg #[.int .i64 k', .int .i64 s', .bool l', .bool o', .bool f'], .bool q0] := ⟨_, _, _, _, _, _, rfl⟩
  have nq0 : (q0 != q0) = false := by simp
  have HV := Lib.hid hV; clear hV
  go_enter Try.func5, Try.ntmps5
  go_wp2_with fail
  generalize hX : (w.alloc (.cells #[.int .i64 k, .int .i64 s, .bool l, .bool o, .bool f] 23)) = w1
  have hb : Below w.heap.size w w1 := by rw [← hX]; exact balloc _ _
  have hk : Has w1 w.heap.size 23 #[.int .i64 k, .int .i64 s, .bool l, .bool o, .bool f] := by rw [← hX]; exact has_new _ _ _
  clear hX
  have c := hb; clear hb
  have za := hk; clear hk
  refine (toDoor_any _ k s l o f).mono ?_
  rintro e w2 ⟨rfl, hb⟩
  replace za := has_call za hb
  replace c := bthen c hb; clear hb
  have zac0 := has_cell za 0 rfl
  have zac1 := has_cell za 1 rfl
  have zac2 := has_cell za 2 rfl
  have zac3 := has_cell za 3 rfl
  have zac4 := has_cell za 4 rfl
  have zalt := has_lt za
  have ZAH := Lib.hid za; clear za
  have CH := Lib.hid c; clear c
  go_wp2_with fail
  clear zalt zac0 zac1 zac2 zac3 zac4; have za := ZAH.out; clear ZAH
  have c := CH.out; clear CH
  refine (begS_any _ k s l o f x).mono ?_
  rintro e w3 ⟨rfl, hb⟩
  rw [HV.out]
  replace za := has_call za hb
  replace c := bthen c hb; clear hb
  have zac0 := has_cell za 0 rfl
  have zac1 := has_cell za 1 rfl
  have zac2 := has_cell za 2 rfl
  have zac3 := has_cell za 3 rfl
  have zac4 := has_cell za 4 rfl
  have zalt := has_lt za
  have ZAH := Lib.hid za; clear za
  have CH := Lib.hid c; clear c
  go_wp2_with fail
  clear zalt zac0 zac1 zac2 zac3 zac4; have za := ZAH.out; clear ZAH
  have c := CH.out; clear CH
  generalize hX : (w3.alloc (.cells #[.int .i64 k', .int .i64 s', .bool l', .bool o', .bool f'] 25)) = w4
  have hb : Below w3.heap.size w3 w4 := by rw [← hX]; exact balloc _ _
  have hk : Has w4 w3.heap.size 25 #[.int .i64 k', .int .i64 s', .bool l', .bool o', .bool f'] := by rw [← hX]; exact has_new _ _ _
  clear hX
  replace za := has_call za hb
  replace c := bthen c hb; clear hb
  have zs := hk; clear hk
  refine (toDoor_any _ k s l o f).mono ?_
  rintro e w5 ⟨rfl, hb⟩
  replace za := has_call za hb
  replace zs := has_call zs hb
  replace c := bthen c hb; clear hb
  have zac0 := has_cell za 0 rfl
  have zac1 := has_cell za 1 rfl
  have zac2 := has_cell za 2 rfl
  have zac3 := has_cell za 3 rfl
  have zac4 := has_cell za 4 rfl
  have zalt := has_lt za
  have ZAH := Lib.hid za; clear za
  have zsc0 := has_cell zs 0 rfl
  have zsc1 := has_cell zs 1 rfl
  have zsc2 := has_cell zs 2 rfl
  have zsc3 := has_cell zs 3 rfl
  have zsc4 := has_cell zs 4 rfl
  have zslt := has_lt zs
  have ZSH := Lib.hid zs; clear zs
  have CH := Lib.hid c; clear c
  go_wp2_with fail
  clear zalt zac0 zac1 zac2 zac3 zac4; have za := ZAH.out; clear ZAH
  clear zslt zsc0 zsc1 zsc2 zsc3 zsc4; have zs := ZSH.out; clear ZSH
  have c := CH.out; clear CH
  refine (begI_any _ k s l o f x).mono ?_
  rintro e w6 ⟨rfl, hb⟩
  rw [HV.out]
  replace za := has_call za hb
  replace zs := has_call zs hb
  replace c := bthen c hb; clear hb
  have zac0 := has_cell za 0 rfl
  have zac1 := has_cell za 1 rfl
  have zac2 := has_cell za 2 rfl
  have zac3 := has_cell za 3 rfl
  have zac4 := has_cell za 4 rfl
  have zalt := has_lt za
  have ZAH := Lib.hid za; clear za
  have zsc0 := has_cell zs 0 rfl
  have zsc1 := has_cell zs 1 rfl
  have zsc2 := has_cell zs 2 rfl
  have zsc3 := has_cell zs 3 rfl
  have zsc4 := has_cell zs 4 rfl
  have zslt := has_lt zs
  have ZSH := Lib.hid zs; clear zs
  have CH := Lib.hid c; clear c
  go_wp2_with fail
  clear zalt zac0 zac1 zac2 zac3 zac4; have za := ZAH.out; clear ZAH
  clear zslt zsc0 zsc1 zsc2 zsc3 zsc4; have zs := ZSH.out; clear ZSH
  have c := CH.out; clear CH
  generalize hX : (w6.alloc (.cells #[.int .i64 k', .int .i64 s', .bool l', .bool o', .bool f'] 25)) = w7
  have hb : Below w6.heap.size w6 w7 := by rw [← hX]; exact balloc _ _
  have hk : Has w7 w6.heap.size 25 #[.int .i64 k', .int .i64 s', .bool l', .bool o', .bool f'] := by rw [← hX]; exact has_new _ _ _
  clear hX
  replace za := has_call za hb
  replace zs := has_call zs hb
  replace c := bthen c hb; clear hb
  have zg := hk; clear hk
  refine (eqDoor_any _ k' s' l' o' f').mono ?_
  rintro e w8 ⟨rfl, hb⟩
  replace za := has_call za hb
  replace zs := has_call zs hb
  replace zg := has_call zg hb
  replace c := bthen c hb; clear hb
  have zac0 := has_cell za 0 rfl
  have zac1 := has_cell za 1 rfl
  have zac2 := has_cell za 2 rfl
  have zac3 := has_cell za 3 rfl
  have zac4 := has_cell za 4 rfl
  have zalt := has_lt za
  have ZAH := Lib.hid za; clear za
  have zsc0 := has_cell zs 0 rfl
  have zsc1 := has_cell zs 1 rfl
  have zsc2 := has_cell zs 2 rfl
  have zsc3 := has_cell zs 3 rfl
  have zsc4 := has_cell zs 4 rfl
  have zslt := has_lt zs
  have ZSH := Lib.hid zs; clear zs
  have zgc0 := has_cell zg 0 rfl
  have zgc1 := has_cell zg 1 rfl
  have zgc2 := has_cell zg 2 rfl
  have zgc3 := has_cell zg 3 rfl
  have zgc4 := has_cell zg 4 rfl
  have zglt := has_lt zg
  have ZGH := Lib.hid zg; clear zg
  have CH := Lib.hid c; clear c
  go_wp2_with fail
  clear zalt zac0 zac1 zac2 zac3 zac4; have za := ZAH.out; clear ZAH
  clear zslt zsc0 zsc1 zsc2 zsc3 zsc4; have zs := ZSH.out; clear ZSH
  clear zglt zgc0 zgc1 zgc2 zgc3 zgc4; have zg := ZGH.out; clear ZGH
  have c := CH.out; clear CH
  go_ret
  exact ⟨rfl, c⟩
set_option maxRecDepth 100000 in
set_option maxHeartbeats 4000000 in
theorem advLaw_walk (w : World) (k s : Int) (l o f : Bool) : Calls Try.prog 6 #[.agg #[.int .i64 k, .int .i64 s, .bool l, .bool o, .bool f]] w fun e w' => e = .returned (.bool true) ∧ Below w.heap.size w w' := by
  obtain ⟨k', s', l', o', f', q0, hV⟩ : ∃ (k' s' : Int) (l' o' f' : Bool) (q0 : Bool), drB (advD ⟨k, s, l, o, f⟩) = .tuple #[.agg #[.int .i64 k', .int .i64 s', .bool l', .bool o', .bool f'], .bool q0] := ⟨_, _, _, _, _, _, rfl⟩
  have nq0 : (q0 != q0) = false := by simp
  have HV := Lib.hid hV; clear hV
  go_enter Try.func6, Try.ntmps6
  go_wp2_with fail
  generalize hX : (w.alloc (.cells #[.int .i64 k, .int .i64 s, .bool l, .bool o, .bool f] 23)) = w1
  have hb : Below w.heap.size w w1 := by rw [← hX]; exact balloc _ _
  have hk : Has w1 w.heap.size 23 #[.int .i64 k, .int .i64 s, .bool l, .bool o, .bool f] := by rw [← hX]; exact has_new _ _ _
  clear hX
  have c := hb; clear hb
  have za := hk; clear hk
  refine (toDoor_any _ k s l o f).mono ?_
  rintro e w2 ⟨rfl, hb⟩
  replace za := has_call za hb
  replace c := bthen c hb; clear hb
  have zac0 := has_cell za 0 rfl
  have zac1 := has_cell za 1 rfl
  have zac2 := has_cell za 2 rfl
  have zac3 := has_cell za 3 rfl
  have zac4 := has_cell za 4 rfl
  have zalt := has_lt za
  have ZAH := Lib.hid za; clear za
  have CH := Lib.hid c; clear c
  go_wp2_with fail
  clear zalt zac0 zac1 zac2 zac3 zac4; have za := ZAH.out; clear ZAH
  have c := CH.out; clear CH
  refine (advS_any _ k s l o f).mono ?_
  rintro e w3 ⟨rfl, hb⟩
  rw [HV.out]
  replace za := has_call za hb
  replace c := bthen c hb; clear hb
  have zac0 := has_cell za 0 rfl
  have zac1 := has_cell za 1 rfl
  have zac2 := has_cell za 2 rfl
  have zac3 := has_cell za 3 rfl
  have zac4 := has_cell za 4 rfl
  have zalt := has_lt za
  have ZAH := Lib.hid za; clear za
  have CH := Lib.hid c; clear c
  go_wp2_with fail
  clear zalt zac0 zac1 zac2 zac3 zac4; have za := ZAH.out; clear ZAH
  have c := CH.out; clear CH
  generalize hX : (w3.alloc (.cells #[.int .i64 k', .int .i64 s', .bool l', .bool o', .bool f'] 25)) = w4
  have hb : Below w3.heap.size w3 w4 := by rw [← hX]; exact balloc _ _
  have hk : Has w4 w3.heap.size 25 #[.int .i64 k', .int .i64 s', .bool l', .bool o', .bool f'] := by rw [← hX]; exact has_new _ _ _
  clear hX
  replace za := has_call za hb
  replace c := bthen c hb; clear hb
  have zs := hk; clear hk
  refine (toDoor_any _ k s l o f).mono ?_
  rintro e w5 ⟨rfl, hb⟩
  replace za := has_call za hb
  replace zs := has_call zs hb
  replace c := bthen c hb; clear hb
  have zac0 := has_cell za 0 rfl
  have zac1 := has_cell za 1 rfl
  have zac2 := has_cell za 2 rfl
  have zac3 := has_cell za 3 rfl
  have zac4 := has_cell za 4 rfl
  have zalt := has_lt za
  have ZAH := Lib.hid za; clear za
  have zsc0 := has_cell zs 0 rfl
  have zsc1 := has_cell zs 1 rfl
  have zsc2 := has_cell zs 2 rfl
  have zsc3 := has_cell zs 3 rfl
  have zsc4 := has_cell zs 4 rfl
  have zslt := has_lt zs
  have ZSH := Lib.hid zs; clear zs
  have CH := Lib.hid c; clear c
  go_wp2_with fail
  clear zalt zac0 zac1 zac2 zac3 zac4; have za := ZAH.out; clear ZAH
  clear zslt zsc0 zsc1 zsc2 zsc3 zsc4; have zs := ZSH.out; clear ZSH
  have c := CH.out; clear CH
  refine (advI_any _ k s l o f).mono ?_
  rintro e w6 ⟨rfl, hb⟩
  rw [HV.out]
  replace za := has_call za hb
  replace zs := has_call zs hb
  replace c := bthen c hb; clear hb
  have zac0 := has_cell za 0 rfl
  have zac1 := has_cell za 1 rfl
  have zac2 := has_cell za 2 rfl
  have zac3 := has_cell za 3 rfl
  have zac4 := has_cell za 4 rfl
  have zalt := has_lt za
  have ZAH := Lib.hid za; clear za
  have zsc0 := has_cell zs 0 rfl
  have zsc1 := has_cell zs 1 rfl
  have zsc2 := has_cell zs 2 rfl
  have zsc3 := has_cell zs 3 rfl
  have zsc4 := has_cell zs 4 rfl
  have zslt := has_lt zs
  have ZSH := Lib.hid zs; clear zs
  have CH := Lib.hid c; clear c
  go_wp2_with fail
  clear zalt zac0 zac1 zac2 zac3 zac4; have za := ZAH.out; clear ZAH
  clear zslt zsc0 zsc1 zsc2 zsc3 zsc4; have zs := ZSH.out; clear ZSH
  have c := CH.out; clear CH
  generalize hX : (w6.alloc (.cells #[.int .i64 k', .int .i64 s', .bool l', .bool o', .bool f'] 25)) = w7
  have hb : Below w6.heap.size w6 w7 := by rw [← hX]; exact balloc _ _
  have hk : Has w7 w6.heap.size 25 #[.int .i64 k', .int .i64 s', .bool l', .bool o', .bool f'] := by rw [← hX]; exact has_new _ _ _
  clear hX
  replace za := has_call za hb
  replace zs := has_call zs hb
  replace c := bthen c hb; clear hb
  have zg := hk; clear hk
  refine (eqDoor_any _ k' s' l' o' f').mono ?_
  rintro e w8 ⟨rfl, hb⟩
  replace za := has_call za hb
  replace zs := has_call zs hb
  replace zg := has_call zg hb
  replace c := bthen c hb; clear hb
  have zac0 := has_cell za 0 rfl
  have zac1 := has_cell za 1 rfl
  have zac2 := has_cell za 2 rfl
  have zac3 := has_cell za 3 rfl
  have zac4 := has_cell za 4 rfl
  have zalt := has_lt za
  have ZAH := Lib.hid za; clear za
  have zsc0 := has_cell zs 0 rfl
  have zsc1 := has_cell zs 1 rfl
  have zsc2 := has_cell zs 2 rfl
  have zsc3 := has_cell zs 3 rfl
  have zsc4 := has_cell zs 4 rfl
  have zslt := has_lt zs
  have ZSH := Lib.hid zs; clear zs
  have zgc0 := has_cell zg 0 rfl
  have zgc1 := has_cell zg 1 rfl
  have zgc2 := has_cell zg 2 rfl
  have zgc3 := has_cell zg 3 rfl
  have zgc4 := has_cell zg 4 rfl
  have zglt := has_lt zg
  have ZGH := Lib.hid zg; clear zg
  have CH := Lib.hid c; clear c
  go_wp2_with fail
  clear zalt zac0 zac1 zac2 zac3 zac4; have za := ZAH.out; clear ZAH
  clear zslt zsc0 zsc1 zsc2 zsc3 zsc4; have zs := ZSH.out; clear ZSH
  clear zglt zgc0 zgc1 zgc2 zgc3 zgc4; have zg := ZGH.out; clear ZGH
  have c := CH.out; clear CH
  go_ret
  exact ⟨rfl, c⟩
set_option maxRecDepth 100000 in
set_option maxHeartbeats 4000000 in
theorem relLaw_walk (w : World) (k s : Int) (l o f : Bool) : Calls Try.prog 7 #[.agg #[.int .i64 k, .int .i64 s, .bool l, .bool o, .bool f]] w fun e w' => e = .returned (.bool true) ∧ Below w.heap.size w w' := by
  obtain ⟨k', s', l', o', f', q0, hV⟩ : ∃ (k' s' : Int) (l' o' f' : Bool) (q0 : Bool), drB (relD ⟨k, s, l, o, f⟩) = .tuple #[.agg #[.int .i64 k', .int .i64 s', .bool l', .bool o', .bool f'], .bool q0] := ⟨_, _, _, _, _, _, rfl⟩
  have nq0 : (q0 != q0) = false := by simp
  have HV := Lib.hid hV; clear hV
  go_enter Try.func7, Try.ntmps7
  go_wp2_with fail
  generalize hX : (w.alloc (.cells #[.int .i64 k, .int .i64 s, .bool l, .bool o, .bool f] 23)) = w1
  have hb : Below w.heap.size w w1 := by rw [← hX]; exact balloc _ _
  have hk : Has w1 w.heap.size 23 #[.int .i64 k, .int .i64 s, .bool l, .bool o, .bool f] := by rw [← hX]; exact has_new _ _ _
  clear hX
  have c := hb; clear hb
  have za := hk; clear hk
  refine (toDoor_any _ k s l o f).mono ?_
  rintro e w2 ⟨rfl, hb⟩
  replace za := has_call za hb
  replace c := bthen c hb; clear hb
  have zac0 := has_cell za 0 rfl
  have zac1 := has_cell za 1 rfl
  have zac2 := has_cell za 2 rfl
  have zac3 := has_cell za 3 rfl
  have zac4 := has_cell za 4 rfl
  have zalt := has_lt za
  have ZAH := Lib.hid za; clear za
  have CH := Lib.hid c; clear c
  go_wp2_with fail
  clear zalt zac0 zac1 zac2 zac3 zac4; have za := ZAH.out; clear ZAH
  have c := CH.out; clear CH
  refine (relS_any _ k s l o f).mono ?_
  rintro e w3 ⟨rfl, hb⟩
  rw [HV.out]
  replace za := has_call za hb
  replace c := bthen c hb; clear hb
  have zac0 := has_cell za 0 rfl
  have zac1 := has_cell za 1 rfl
  have zac2 := has_cell za 2 rfl
  have zac3 := has_cell za 3 rfl
  have zac4 := has_cell za 4 rfl
  have zalt := has_lt za
  have ZAH := Lib.hid za; clear za
  have CH := Lib.hid c; clear c
  go_wp2_with fail
  clear zalt zac0 zac1 zac2 zac3 zac4; have za := ZAH.out; clear ZAH
  have c := CH.out; clear CH
  generalize hX : (w3.alloc (.cells #[.int .i64 k', .int .i64 s', .bool l', .bool o', .bool f'] 25)) = w4
  have hb : Below w3.heap.size w3 w4 := by rw [← hX]; exact balloc _ _
  have hk : Has w4 w3.heap.size 25 #[.int .i64 k', .int .i64 s', .bool l', .bool o', .bool f'] := by rw [← hX]; exact has_new _ _ _
  clear hX
  replace za := has_call za hb
  replace c := bthen c hb; clear hb
  have zs := hk; clear hk
  refine (toDoor_any _ k s l o f).mono ?_
  rintro e w5 ⟨rfl, hb⟩
  replace za := has_call za hb
  replace zs := has_call zs hb
  replace c := bthen c hb; clear hb
  have zac0 := has_cell za 0 rfl
  have zac1 := has_cell za 1 rfl
  have zac2 := has_cell za 2 rfl
  have zac3 := has_cell za 3 rfl
  have zac4 := has_cell za 4 rfl
  have zalt := has_lt za
  have ZAH := Lib.hid za; clear za
  have zsc0 := has_cell zs 0 rfl
  have zsc1 := has_cell zs 1 rfl
  have zsc2 := has_cell zs 2 rfl
  have zsc3 := has_cell zs 3 rfl
  have zsc4 := has_cell zs 4 rfl
  have zslt := has_lt zs
  have ZSH := Lib.hid zs; clear zs
  have CH := Lib.hid c; clear c
  go_wp2_with fail
  clear zalt zac0 zac1 zac2 zac3 zac4; have za := ZAH.out; clear ZAH
  clear zslt zsc0 zsc1 zsc2 zsc3 zsc4; have zs := ZSH.out; clear ZSH
  have c := CH.out; clear CH
  refine (relI_any _ k s l o f).mono ?_
  rintro e w6 ⟨rfl, hb⟩
  rw [HV.out]
  replace za := has_call za hb
  replace zs := has_call zs hb
  replace c := bthen c hb; clear hb
  have zac0 := has_cell za 0 rfl
  have zac1 := has_cell za 1 rfl
  have zac2 := has_cell za 2 rfl
  have zac3 := has_cell za 3 rfl
  have zac4 := has_cell za 4 rfl
  have zalt := has_lt za
  have ZAH := Lib.hid za; clear za
  have zsc0 := has_cell zs 0 rfl
  have zsc1 := has_cell zs 1 rfl
  have zsc2 := has_cell zs 2 rfl
  have zsc3 := has_cell zs 3 rfl
  have zsc4 := has_cell zs 4 rfl
  have zslt := has_lt zs
  have ZSH := Lib.hid zs; clear zs
  have CH := Lib.hid c; clear c
  go_wp2_with fail
  clear zalt zac0 zac1 zac2 zac3 zac4; have za := ZAH.out; clear ZAH
  clear zslt zsc0 zsc1 zsc2 zsc3 zsc4; have zs := ZSH.out; clear ZSH
  have c := CH.out; clear CH
  generalize hX : (w6.alloc (.cells #[.int .i64 k', .int .i64 s', .bool l', .bool o', .bool f'] 25)) = w7
  have hb : Below w6.heap.size w6 w7 := by rw [← hX]; exact balloc _ _
  have hk : Has w7 w6.heap.size 25 #[.int .i64 k', .int .i64 s', .bool l', .bool o', .bool f'] := by rw [← hX]; exact has_new _ _ _
  clear hX
  replace za := has_call za hb
  replace zs := has_call zs hb
  replace c := bthen c hb; clear hb
  have zg := hk; clear hk
  refine (eqDoor_any _ k' s' l' o' f').mono ?_
  rintro e w8 ⟨rfl, hb⟩
  replace za := has_call za hb
  replace zs := has_call zs hb
  replace zg := has_call zg hb
  replace c := bthen c hb; clear hb
  have zac0 := has_cell za 0 rfl
  have zac1 := has_cell za 1 rfl
  have zac2 := has_cell za 2 rfl
  have zac3 := has_cell za 3 rfl
  have zac4 := has_cell za 4 rfl
  have zalt := has_lt za
  have ZAH := Lib.hid za; clear za
  have zsc0 := has_cell zs 0 rfl
  have zsc1 := has_cell zs 1 rfl
  have zsc2 := has_cell zs 2 rfl
  have zsc3 := has_cell zs 3 rfl
  have zsc4 := has_cell zs 4 rfl
  have zslt := has_lt zs
  have ZSH := Lib.hid zs; clear zs
  have zgc0 := has_cell zg 0 rfl
  have zgc1 := has_cell zg 1 rfl
  have zgc2 := has_cell zg 2 rfl
  have zgc3 := has_cell zg 3 rfl
  have zgc4 := has_cell zg 4 rfl
  have zglt := has_lt zg
  have ZGH := Lib.hid zg; clear zg
  have CH := Lib.hid c; clear c
  go_wp2_with fail
  clear zalt zac0 zac1 zac2 zac3 zac4; have za := ZAH.out; clear ZAH
  clear zslt zsc0 zsc1 zsc2 zsc3 zsc4; have zs := ZSH.out; clear ZSH
  clear zglt zgc0 zgc1 zgc2 zgc3 zgc4; have zg := ZGH.out; clear ZGH
  have c := CH.out; clear CH
  go_ret
  exact ⟨rfl, c⟩
set_option maxRecDepth 100000 in
set_option maxHeartbeats 4000000 in
theorem cutLaw_walk (w : World) (k s : Int) (l o f : Bool) : Calls Try.prog 8 #[.agg #[.int .i64 k, .int .i64 s, .bool l, .bool o, .bool f]] w fun e w' => e = .returned (.bool true) ∧ Below w.heap.size w w' := by
  obtain ⟨k', s', l', o', f', hV⟩ : ∃ (k' s' : Int) (l' o' f' : Bool), Value.agg (cutD ⟨k, s, l, o, f⟩).A = .agg #[.int .i64 k', .int .i64 s', .bool l', .bool o', .bool f'] := ⟨_, _, _, _, _, rfl⟩
  have HV := Lib.hid hV; clear hV
  go_enter Try.func8, Try.ntmps8
  go_wp2_with fail
  generalize hX : (w.alloc (.cells #[.int .i64 k, .int .i64 s, .bool l, .bool o, .bool f] 23)) = w1
  have hb : Below w.heap.size w w1 := by rw [← hX]; exact balloc _ _
  have hk : Has w1 w.heap.size 23 #[.int .i64 k, .int .i64 s, .bool l, .bool o, .bool f] := by rw [← hX]; exact has_new _ _ _
  clear hX
  have c := hb; clear hb
  have za := hk; clear hk
  refine (toDoor_any _ k s l o f).mono ?_
  rintro e w2 ⟨rfl, hb⟩
  replace za := has_call za hb
  replace c := bthen c hb; clear hb
  have zac0 := has_cell za 0 rfl
  have zac1 := has_cell za 1 rfl
  have zac2 := has_cell za 2 rfl
  have zac3 := has_cell za 3 rfl
  have zac4 := has_cell za 4 rfl
  have zalt := has_lt za
  have ZAH := Lib.hid za; clear za
  have CH := Lib.hid c; clear c
  go_wp2_with fail
  clear zalt zac0 zac1 zac2 zac3 zac4; have za := ZAH.out; clear ZAH
  have c := CH.out; clear CH
  refine (cutS_any _ k s l o f).mono ?_
  rintro e w3 ⟨rfl, hb⟩
  rw [HV.out]
  replace za := has_call za hb
  replace c := bthen c hb; clear hb
  have zac0 := has_cell za 0 rfl
  have zac1 := has_cell za 1 rfl
  have zac2 := has_cell za 2 rfl
  have zac3 := has_cell za 3 rfl
  have zac4 := has_cell za 4 rfl
  have zalt := has_lt za
  have ZAH := Lib.hid za; clear za
  have CH := Lib.hid c; clear c
  go_wp2_with fail
  clear zalt zac0 zac1 zac2 zac3 zac4; have za := ZAH.out; clear ZAH
  have c := CH.out; clear CH
  generalize hX : (w3.alloc (.cells #[.int .i64 k', .int .i64 s', .bool l', .bool o', .bool f'] 25)) = w4
  have hb : Below w3.heap.size w3 w4 := by rw [← hX]; exact balloc _ _
  have hk : Has w4 w3.heap.size 25 #[.int .i64 k', .int .i64 s', .bool l', .bool o', .bool f'] := by rw [← hX]; exact has_new _ _ _
  clear hX
  replace za := has_call za hb
  replace c := bthen c hb; clear hb
  have zs := hk; clear hk
  refine (toDoor_any _ k s l o f).mono ?_
  rintro e w5 ⟨rfl, hb⟩
  replace za := has_call za hb
  replace zs := has_call zs hb
  replace c := bthen c hb; clear hb
  have zac0 := has_cell za 0 rfl
  have zac1 := has_cell za 1 rfl
  have zac2 := has_cell za 2 rfl
  have zac3 := has_cell za 3 rfl
  have zac4 := has_cell za 4 rfl
  have zalt := has_lt za
  have ZAH := Lib.hid za; clear za
  have zsc0 := has_cell zs 0 rfl
  have zsc1 := has_cell zs 1 rfl
  have zsc2 := has_cell zs 2 rfl
  have zsc3 := has_cell zs 3 rfl
  have zsc4 := has_cell zs 4 rfl
  have zslt := has_lt zs
  have ZSH := Lib.hid zs; clear zs
  have CH := Lib.hid c; clear c
  go_wp2_with fail
  clear zalt zac0 zac1 zac2 zac3 zac4; have za := ZAH.out; clear ZAH
  clear zslt zsc0 zsc1 zsc2 zsc3 zsc4; have zs := ZSH.out; clear ZSH
  have c := CH.out; clear CH
  refine (cutI_any _ k s l o f).mono ?_
  rintro e w6 ⟨rfl, hb⟩
  rw [HV.out]
  replace za := has_call za hb
  replace zs := has_call zs hb
  replace c := bthen c hb; clear hb
  have zac0 := has_cell za 0 rfl
  have zac1 := has_cell za 1 rfl
  have zac2 := has_cell za 2 rfl
  have zac3 := has_cell za 3 rfl
  have zac4 := has_cell za 4 rfl
  have zalt := has_lt za
  have ZAH := Lib.hid za; clear za
  have zsc0 := has_cell zs 0 rfl
  have zsc1 := has_cell zs 1 rfl
  have zsc2 := has_cell zs 2 rfl
  have zsc3 := has_cell zs 3 rfl
  have zsc4 := has_cell zs 4 rfl
  have zslt := has_lt zs
  have ZSH := Lib.hid zs; clear zs
  have CH := Lib.hid c; clear c
  go_wp2_with fail
  clear zalt zac0 zac1 zac2 zac3 zac4; have za := ZAH.out; clear ZAH
  clear zslt zsc0 zsc1 zsc2 zsc3 zsc4; have zs := ZSH.out; clear ZSH
  have c := CH.out; clear CH
  generalize hX : (w6.alloc (.cells #[.int .i64 k', .int .i64 s', .bool l', .bool o', .bool f'] 25)) = w7
  have hb : Below w6.heap.size w6 w7 := by rw [← hX]; exact balloc _ _
  have hk : Has w7 w6.heap.size 25 #[.int .i64 k', .int .i64 s', .bool l', .bool o', .bool f'] := by rw [← hX]; exact has_new _ _ _
  clear hX
  replace za := has_call za hb
  replace zs := has_call zs hb
  replace c := bthen c hb; clear hb
  have zg := hk; clear hk
  refine (eqDoor_any _ k' s' l' o' f').mono ?_
  rintro e w8 ⟨rfl, hb⟩
  replace za := has_call za hb
  replace zs := has_call zs hb
  replace zg := has_call zg hb
  replace c := bthen c hb; clear hb
  have zac0 := has_cell za 0 rfl
  have zac1 := has_cell za 1 rfl
  have zac2 := has_cell za 2 rfl
  have zac3 := has_cell za 3 rfl
  have zac4 := has_cell za 4 rfl
  have zalt := has_lt za
  have ZAH := Lib.hid za; clear za
  have zsc0 := has_cell zs 0 rfl
  have zsc1 := has_cell zs 1 rfl
  have zsc2 := has_cell zs 2 rfl
  have zsc3 := has_cell zs 3 rfl
  have zsc4 := has_cell zs 4 rfl
  have zslt := has_lt zs
  have ZSH := Lib.hid zs; clear zs
  have zgc0 := has_cell zg 0 rfl
  have zgc1 := has_cell zg 1 rfl
  have zgc2 := has_cell zg 2 rfl
  have zgc3 := has_cell zg 3 rfl
  have zgc4 := has_cell zg 4 rfl
  have zglt := has_lt zg
  have ZGH := Lib.hid zg; clear zg
  have CH := Lib.hid c; clear c
  go_wp2_with fail
  clear zalt zac0 zac1 zac2 zac3 zac4; have za := ZAH.out; clear ZAH
  clear zslt zsc0 zsc1 zsc2 zsc3 zsc4; have zs := ZSH.out; clear ZSH
  clear zglt zgc0 zgc1 zgc2 zgc3 zgc4; have zg := ZGH.out; clear ZGH
  have c := CH.out; clear CH
  go_ret
  exact ⟨rfl, c⟩
set_option maxRecDepth 100000 in
set_option maxHeartbeats 4000000 in
theorem handLaw_walk (w : World) (k s : Int) (l o f : Bool) (x : Int) : Calls Try.prog 9 #[.agg #[.int .i64 k, .int .i64 s, .bool l, .bool o, .bool f], .int .i64 x] w fun e w' => e = .returned (.bool true) ∧ Below w.heap.size w w' := by
  obtain ⟨k', s', l', o', f', q0, hV⟩ : ∃ (k' s' : Int) (l' o' f' : Bool) (q0 : Bool), drB (handD ⟨k, s, l, o, f⟩ x) = .tuple #[.agg #[.int .i64 k', .int .i64 s', .bool l', .bool o', .bool f'], .bool q0] := ⟨_, _, _, _, _, _, rfl⟩
  have nq0 : (q0 != q0) = false := by simp
  have HV := Lib.hid hV; clear hV
  go_enter Try.func9, Try.ntmps9
  go_wp2_with fail
  generalize hX : (w.alloc (.cells #[.int .i64 k, .int .i64 s, .bool l, .bool o, .bool f] 23)) = w1
  have hb : Below w.heap.size w w1 := by rw [← hX]; exact balloc _ _
  have hk : Has w1 w.heap.size 23 #[.int .i64 k, .int .i64 s, .bool l, .bool o, .bool f] := by rw [← hX]; exact has_new _ _ _
  clear hX
  have c := hb; clear hb
  have za := hk; clear hk
  refine (toDoor_any _ k s l o f).mono ?_
  rintro e w2 ⟨rfl, hb⟩
  replace za := has_call za hb
  replace c := bthen c hb; clear hb
  have zac0 := has_cell za 0 rfl
  have zac1 := has_cell za 1 rfl
  have zac2 := has_cell za 2 rfl
  have zac3 := has_cell za 3 rfl
  have zac4 := has_cell za 4 rfl
  have zalt := has_lt za
  have ZAH := Lib.hid za; clear za
  have CH := Lib.hid c; clear c
  go_wp2_with fail
  clear zalt zac0 zac1 zac2 zac3 zac4; have za := ZAH.out; clear ZAH
  have c := CH.out; clear CH
  refine (handS_any _ k s l o f x).mono ?_
  rintro e w3 ⟨rfl, hb⟩
  rw [HV.out]
  replace za := has_call za hb
  replace c := bthen c hb; clear hb
  have zac0 := has_cell za 0 rfl
  have zac1 := has_cell za 1 rfl
  have zac2 := has_cell za 2 rfl
  have zac3 := has_cell za 3 rfl
  have zac4 := has_cell za 4 rfl
  have zalt := has_lt za
  have ZAH := Lib.hid za; clear za
  have CH := Lib.hid c; clear c
  go_wp2_with fail
  clear zalt zac0 zac1 zac2 zac3 zac4; have za := ZAH.out; clear ZAH
  have c := CH.out; clear CH
  generalize hX : (w3.alloc (.cells #[.int .i64 k', .int .i64 s', .bool l', .bool o', .bool f'] 25)) = w4
  have hb : Below w3.heap.size w3 w4 := by rw [← hX]; exact balloc _ _
  have hk : Has w4 w3.heap.size 25 #[.int .i64 k', .int .i64 s', .bool l', .bool o', .bool f'] := by rw [← hX]; exact has_new _ _ _
  clear hX
  replace za := has_call za hb
  replace c := bthen c hb; clear hb
  have zs := hk; clear hk
  refine (toDoor_any _ k s l o f).mono ?_
  rintro e w5 ⟨rfl, hb⟩
  replace za := has_call za hb
  replace zs := has_call zs hb
  replace c := bthen c hb; clear hb
  have zac0 := has_cell za 0 rfl
  have zac1 := has_cell za 1 rfl
  have zac2 := has_cell za 2 rfl
  have zac3 := has_cell za 3 rfl
  have zac4 := has_cell za 4 rfl
  have zalt := has_lt za
  have ZAH := Lib.hid za; clear za
  have zsc0 := has_cell zs 0 rfl
  have zsc1 := has_cell zs 1 rfl
  have zsc2 := has_cell zs 2 rfl
  have zsc3 := has_cell zs 3 rfl
  have zsc4 := has_cell zs 4 rfl
  have zslt := has_lt zs
  have ZSH := Lib.hid zs; clear zs
  have CH := Lib.hid c; clear c
  go_wp2_with fail
  clear zalt zac0 zac1 zac2 zac3 zac4; have za := ZAH.out; clear ZAH
  clear zslt zsc0 zsc1 zsc2 zsc3 zsc4; have zs := ZSH.out; clear ZSH
  have c := CH.out; clear CH
  refine (handI_any _ k s l o f x).mono ?_
  rintro e w6 ⟨rfl, hb⟩
  rw [HV.out]
  replace za := has_call za hb
  replace zs := has_call zs hb
  replace c := bthen c hb; clear hb
  have zac0 := has_cell za 0 rfl
  have zac1 := has_cell za 1 rfl
  have zac2 := has_cell za 2 rfl
  have zac3 := has_cell za 3 rfl
  have zac4 := has_cell za 4 rfl
  have zalt := has_lt za
  have ZAH := Lib.hid za; clear za
  have zsc0 := has_cell zs 0 rfl
  have zsc1 := has_cell zs 1 rfl
  have zsc2 := has_cell zs 2 rfl
  have zsc3 := has_cell zs 3 rfl
  have zsc4 := has_cell zs 4 rfl
  have zslt := has_lt zs
  have ZSH := Lib.hid zs; clear zs
  have CH := Lib.hid c; clear c
  go_wp2_with fail
  clear zalt zac0 zac1 zac2 zac3 zac4; have za := ZAH.out; clear ZAH
  clear zslt zsc0 zsc1 zsc2 zsc3 zsc4; have zs := ZSH.out; clear ZSH
  have c := CH.out; clear CH
  generalize hX : (w6.alloc (.cells #[.int .i64 k', .int .i64 s', .bool l', .bool o', .bool f'] 25)) = w7
  have hb : Below w6.heap.size w6 w7 := by rw [← hX]; exact balloc _ _
  have hk : Has w7 w6.heap.size 25 #[.int .i64 k', .int .i64 s', .bool l', .bool o', .bool f'] := by rw [← hX]; exact has_new _ _ _
  clear hX
  replace za := has_call za hb
  replace zs := has_call zs hb
  replace c := bthen c hb; clear hb
  have zg := hk; clear hk
  refine (eqDoor_any _ k' s' l' o' f').mono ?_
  rintro e w8 ⟨rfl, hb⟩
  replace za := has_call za hb
  replace zs := has_call zs hb
  replace zg := has_call zg hb
  replace c := bthen c hb; clear hb
  have zac0 := has_cell za 0 rfl
  have zac1 := has_cell za 1 rfl
  have zac2 := has_cell za 2 rfl
  have zac3 := has_cell za 3 rfl
  have zac4 := has_cell za 4 rfl
  have zalt := has_lt za
  have ZAH := Lib.hid za; clear za
  have zsc0 := has_cell zs 0 rfl
  have zsc1 := has_cell zs 1 rfl
  have zsc2 := has_cell zs 2 rfl
  have zsc3 := has_cell zs 3 rfl
  have zsc4 := has_cell zs 4 rfl
  have zslt := has_lt zs
  have ZSH := Lib.hid zs; clear zs
  have zgc0 := has_cell zg 0 rfl
  have zgc1 := has_cell zg 1 rfl
  have zgc2 := has_cell zg 2 rfl
  have zgc3 := has_cell zg 3 rfl
  have zgc4 := has_cell zg 4 rfl
  have zglt := has_lt zg
  have ZGH := Lib.hid zg; clear zg
  have CH := Lib.hid c; clear c
  go_wp2_with fail
  clear zalt zac0 zac1 zac2 zac3 zac4; have za := ZAH.out; clear ZAH
  clear zslt zsc0 zsc1 zsc2 zsc3 zsc4; have zs := ZSH.out; clear ZSH
  clear zglt zgc0 zgc1 zgc2 zgc3 zgc4; have zg := ZGH.out; clear ZGH
  have c := CH.out; clear CH
  go_ret
  exact ⟨rfl, c⟩
end Go.Proofs.Ytbcbjijnlekcmaa
