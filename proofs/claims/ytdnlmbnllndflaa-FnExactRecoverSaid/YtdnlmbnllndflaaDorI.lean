/- Chapter 4: walks of laws. -/
import Derived.Test.YtdnlmbnllndflaaDorL
import Derived.Test.YtdnlmbnllndflaaDorF
namespace Go.Proofs.Ytdnlmbnllndflaa
open Go.RowKit
set_option linter.unusedVariables false
set_option maxRecDepth 100000 in
set_option maxHeartbeats 4000000 in
theorem insLaw_walk (w : World) (k s : Int) (l o f : Bool) : Calls Try.prog 4 #[.agg #[.int .i64 k, .int .i64 s, .bool l, .bool o, .bool f]] w fun e w' => e = .returned (.bool true) ∧ Below w.heap.size w w' := by
  obtain ⟨k', s', l', o', f', q0, q1, hV⟩ : ∃ (k' s' : Int) (l' o' f' : Bool) (q0 : Int) (q1 : Bool), drI (inspD ⟨k, s, l, o, f⟩) = .tuple #[.agg #[.int .i64 k', .int .i64 s', .bool l', .bool o', .bool f'], .int .i64 q0, .bool q1] := ⟨_, _, _, _, _, _, _, rfl⟩
  have nq0 : (q0 != q0) = false := by simp
  have nq1 : (q1 != q1) = false := by simp
  have HV := Lib.hid hV; clear hV
  go_enter Try.func4, Try.ntmps4
  go_wp2_with fail
  generalize hX : (w.alloc (.cells #[.int .i64 k, .int .i64 s, .bool l, .bool o, .bool f] 23)) = w1
  have hb : Below w.heap.size w w1 := by rw [← hX]; exact balloc _ _
  have hk : Has w1 w.heap.size 23 #[.int .i64 k, .int .i64 s, .bool l, .bool o, .bool f] := by rw [← hX]; exact has_new _ _ _
  clear hX
  have zb := hb; clear hb
  have za := hk; clear hk
  refine (toDoor_any _ k s l o f).mono ?_
  rintro e w2 ⟨rfl, hb⟩
  replace za := has_call za hb
  replace zb := bthen zb hb; clear hb
  have zac0 := has_cell za 0 rfl
  have zac1 := has_cell za 1 rfl
  have zac2 := has_cell za 2 rfl
  have zac3 := has_cell za 3 rfl
  have zac4 := has_cell za 4 rfl
  have zalt := has_lt za
  have ZAH := Lib.hid za; clear za
  have CH := Lib.hid zb; clear zb
  go_wp2_with fail
  clear zalt zac0 zac1 zac2 zac3 zac4; have za := ZAH.out; clear ZAH
  have zb := CH.out; clear CH
  refine (inspS_any _ k s l o f).mono ?_
  rintro e w3 ⟨rfl, hb⟩
  rw [HV.out]
  replace za := has_call za hb
  replace zb := bthen zb hb; clear hb
  have zac0 := has_cell za 0 rfl
  have zac1 := has_cell za 1 rfl
  have zac2 := has_cell za 2 rfl
  have zac3 := has_cell za 3 rfl
  have zac4 := has_cell za 4 rfl
  have zalt := has_lt za
  have ZAH := Lib.hid za; clear za
  have CH := Lib.hid zb; clear zb
  go_wp2_with fail
  clear zalt zac0 zac1 zac2 zac3 zac4; have za := ZAH.out; clear ZAH
  have zb := CH.out; clear CH
  generalize hX : (w3.alloc (.cells #[.int .i64 k', .int .i64 s', .bool l', .bool o', .bool f'] 30)) = w4
  have hb : Below w3.heap.size w3 w4 := by rw [← hX]; exact balloc _ _
  have hk : Has w4 w3.heap.size 30 #[.int .i64 k', .int .i64 s', .bool l', .bool o', .bool f'] := by rw [← hX]; exact has_new _ _ _
  clear hX
  replace za := has_call za hb
  replace zb := bthen zb hb; clear hb
  have zs := hk; clear hk
  refine (toDoor_any _ k s l o f).mono ?_
  rintro e w5 ⟨rfl, hb⟩
  replace za := has_call za hb
  replace zs := has_call zs hb
  replace zb := bthen zb hb; clear hb
  have zac0 := has_cell za 0 rfl
  have zac1 := has_cell za 1 rfl
  have zac2 := has_cell za 2 rfl
  have zac3 := has_cell za 3 rfl
  have zac4 := has_cell za 4 rfl
  have zalt := has_lt za
  have ZAH := Lib.hid za; clear za
  have zsc0 := has_cell zs 0 rfl
  have zsc1 := has_cell zs 1 rfl
  have zsc2 := has_cell zs 2 rfl
  have zsc3 := has_cell zs 3 rfl
  have zsc4 := has_cell zs 4 rfl
  have zslt := has_lt zs
  have ZSH := Lib.hid zs; clear zs
  have CH := Lib.hid zb; clear zb
  go_wp2_with fail
  clear zalt zac0 zac1 zac2 zac3 zac4; have za := ZAH.out; clear ZAH
  clear zslt zsc0 zsc1 zsc2 zsc3 zsc4; have zs := ZSH.out; clear ZSH
  have zb := CH.out; clear CH
  refine (inspI_any _ k s l o f).mono ?_
  rintro e w6 ⟨rfl, hb⟩
  rw [HV.out]
  replace za := has_call za hb
  replace zs := has_call zs hb
  replace zb := bthen zb hb; clear hb
  have zac0 := has_cell za 0 rfl
  have zac1 := has_cell za 1 rfl
  have zac2 := has_cell za 2 rfl
  have zac3 := has_cell za 3 rfl
  have zac4 := has_cell za 4 rfl
  have zalt := has_lt za
  have ZAH := Lib.hid za; clear za
  have zsc0 := has_cell zs 0 rfl
  have zsc1 := has_cell zs 1 rfl
  have zsc2 := has_cell zs 2 rfl
  have zsc3 := has_cell zs 3 rfl
  have zsc4 := has_cell zs 4 rfl
  have zslt := has_lt zs
  have ZSH := Lib.hid zs; clear zs
  have CH := Lib.hid zb; clear zb
  go_wp2_with fail
  clear zalt zac0 zac1 zac2 zac3 zac4; have za := ZAH.out; clear ZAH
  clear zslt zsc0 zsc1 zsc2 zsc3 zsc4; have zs := ZSH.out; clear ZSH
  have zb := CH.out; clear CH
  generalize hX : (w6.alloc (.cells #[.int .i64 k', .int .i64 s', .bool l', .bool o', .bool f'] 30)) = w7
  have hb : Below w6.heap.size w6 w7 := by rw [← hX]; exact balloc _ _
  have hk : Has w7 w6.heap.size 30 #[.int .i64 k', .int .i64 s', .bool l', .bool o', .bool f'] := by rw [← hX]; exact has_new _ _ _
  clear hX
  replace za := has_call za hb
  replace zs := has_call zs hb
  replace zb := bthen zb hb; clear hb
  have zg := hk; clear hk
  refine (eqDoor_any _ k' s' l' o' f').mono ?_
  rintro e w8 ⟨rfl, hb⟩
  replace za := has_call za hb
  replace zs := has_call zs hb
  replace zg := has_call zg hb
  replace zb := bthen zb hb; clear hb
  have zac0 := has_cell za 0 rfl
  have zac1 := has_cell za 1 rfl
  have zac2 := has_cell za 2 rfl
  have zac3 := has_cell za 3 rfl
  have zac4 := has_cell za 4 rfl
  have zalt := has_lt za
  have ZAH := Lib.hid za; clear za
  have zsc0 := has_cell zs 0 rfl
  have zsc1 := has_cell zs 1 rfl
  have zsc2 := has_cell zs 2 rfl
  have zsc3 := has_cell zs 3 rfl
  have zsc4 := has_cell zs 4 rfl
  have zslt := has_lt zs
  have ZSH := Lib.hid zs; clear zs
  have zgc0 := has_cell zg 0 rfl
  have zgc1 := has_cell zg 1 rfl
  have zgc2 := has_cell zg 2 rfl
  have zgc3 := has_cell zg 3 rfl
  have zgc4 := has_cell zg 4 rfl
  have zglt := has_lt zg
  have ZGH := Lib.hid zg; clear zg
  have CH := Lib.hid zb; clear zb
  go_wp2_with fail
  clear zalt zac0 zac1 zac2 zac3 zac4; have za := ZAH.out; clear ZAH
  clear zslt zsc0 zsc1 zsc2 zsc3 zsc4; have zs := ZSH.out; clear ZSH
  clear zglt zgc0 zgc1 zgc2 zgc3 zgc4; have zg := ZGH.out; clear ZGH
  have zb := CH.out; clear CH
  go_ret
  exact ⟨rfl, zb⟩
end Go.Proofs.Ytdnlmbnllndflaa
