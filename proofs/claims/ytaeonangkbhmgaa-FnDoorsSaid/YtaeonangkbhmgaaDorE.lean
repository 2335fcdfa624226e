/- Chapter 4: contracts of names, faults, verdicts and the truth, both sides. -/
import Derived.Test.YtaeonangkbhmgaaDorB
namespace Go.Proofs.Ytaeonangkbhmgaa
open Go.RowKit
set_option linter.unusedVariables false

set_option maxRecDepth 100000 in
set_option maxHeartbeats 2000000 in
theorem stepNameI_any (w : World) (r : Int) : Calls Try.prog 11 #[.int .i64 r] w fun e w' => e = .returned (.string (stepV r)) ∧ Below w.heap.size w w' := by
  by_cases h1 : 0 ≤ r ∧ r ≤ 6
  · have hc : r = 0 ∨ r = 1 ∨ r = 2 ∨ r = 3 ∨ r = 4 ∨ r = 5 ∨ r = 6 := by omega
    clear h1
    rcases hc with rfl | rfl | rfl | rfl | rfl | rfl | rfl
    all_goals
      go_enter Try.func11, Try.ntmps11
      go_wp2
      go_ret
      exact ⟨rfl, Below.refl _ _⟩
  · have HK := Lib.hid (stepV_no h1)
    have e0 : (r == 0) = false := by simp; omega
    have e1 : (r == 1) = false := by simp; omega
    have e2 : (r == 2) = false := by simp; omega
    have e3 : (r == 3) = false := by simp; omega
    have e4 : (r == 4) = false := by simp; omega
    have e5 : (r == 5) = false := by simp; omega
    have e6 : (r == 6) = false := by simp; omega
    go_enter Try.func11, Try.ntmps11
    go_wp2
    go_ret
    exact ⟨rstr HK.out.symm, Below.refl _ _⟩
set_option maxRecDepth 100000 in
set_option maxHeartbeats 2000000 in
theorem verdNameI_any (w : World) (r : Int) : Calls Try.prog 24 #[.int .i64 r] w fun e w' => e = .returned (.string (verdV r)) ∧ Below w.heap.size w w' := by
  by_cases h1 : 0 ≤ r ∧ r ≤ 4
  · have hc : r = 0 ∨ r = 1 ∨ r = 2 ∨ r = 3 ∨ r = 4 := by omega
    clear h1
    rcases hc with rfl | rfl | rfl | rfl | rfl
    all_goals
      go_enter Try.func24, Try.ntmps24
      go_wp2
      go_ret
      exact ⟨rfl, Below.refl _ _⟩
  · have HK := Lib.hid (verdV_no h1)
    have e0 : (r == 0) = false := by simp; omega
    have e1 : (r == 1) = false := by simp; omega
    have e2 : (r == 2) = false := by simp; omega
    have e3 : (r == 3) = false := by simp; omega
    have e4 : (r == 4) = false := by simp; omega
    go_enter Try.func24, Try.ntmps24
    go_wp2
    go_ret
    exact ⟨rstr HK.out.symm, Below.refl _ _⟩
set_option maxRecDepth 100000 in
set_option maxHeartbeats 2000000 in
theorem flist_any (w : World) (a b c d : Int) : Calls Try.prog 50 #[.agg #[.int .i64 a, .int .i64 b, .int .i64 c, .int .i64 d]] w fun e w' => e = .returned (.agg #[.int .i64 a, .int .i64 b, .int .i64 c, .int .i64 d]) ∧ Below w.heap.size w w' := by
  go_enter Try.func50, Try.ntmps50
  go_wp2
  refine bodyPost_ret (v := .agg #[.int .i64 a, .int .i64 b, .int .i64 c, .int .i64 d]) (by simp [results, Try.results50, go_sem]) rfl ⟨rfl, ?_⟩
  repeat (first | (with_reducible exact bthen (balloc _ _) (balloc _ _)) | (with_reducible refine Below.setCell ?_ (by first | exact Nat.le_refl _ | exact Nat.le_succ _) _))
set_option maxRecDepth 100000 in
set_option maxHeartbeats 2000000 in
theorem faultsS_any (w : World) (a b c d : Int) : Calls Try.prog 32 #[.agg #[.int .i64 a, .int .i64 b, .int .i64 c, .int .i64 d]] w fun e w' => e = .returned (.bool (faultsB a b c d)) ∧ Below w.heap.size w w' := by
  go_enter Try.func32, Try.ntmps32
  go_wp2_with (first | (go_at_call 43; refine (inR_any _ _ _ _).mono ?_; rintro e w1 ⟨rfl, hw⟩; rw [hw]; clear hw))
  all_goals (go_ret; exact ⟨rbool (by simp_all [faultsB]), balloc _ _⟩)
set_option maxRecDepth 100000 in
set_option maxHeartbeats 2000000 in
theorem faultsI_any (w : World) (a b c d : Int) : Calls Try.prog 31 #[.agg #[.int .i64 a, .int .i64 b, .int .i64 c, .int .i64 d]] w fun e w' => e = .returned (.bool (faultsB a b c d)) ∧ Below w.heap.size w w' := by
  have i0 := Lib.hid (show ∀ W, (Instr.index 68 (.agg #[.int .i64 a, .int .i64 b, .int .i64 c, .int .i64 d]) (.int .i64 0)).run Try.prog W = .ok (.int .i64 a) W from fun W => by kernel_rfl)
  have i1 := Lib.hid (show ∀ W, (Instr.index 68 (.agg #[.int .i64 a, .int .i64 b, .int .i64 c, .int .i64 d]) (.int .i64 1)).run Try.prog W = .ok (.int .i64 b) W from fun W => by kernel_rfl)
  have i2 := Lib.hid (show ∀ W, (Instr.index 68 (.agg #[.int .i64 a, .int .i64 b, .int .i64 c, .int .i64 d]) (.int .i64 2)).run Try.prog W = .ok (.int .i64 c) W from fun W => by kernel_rfl)
  have i3 := Lib.hid (show ∀ W, (Instr.index 68 (.agg #[.int .i64 a, .int .i64 b, .int .i64 c, .int .i64 d]) (.int .i64 3)).run Try.prog W = .ok (.int .i64 d) W from fun W => by kernel_rfl)
  go_enter Try.func31, Try.ntmps31
  go_wp2_with fail
  refine (flist_any _ a b c d).mono ?_
  rintro e w1 ⟨rfl, hb⟩
  have HB := Lib.hid (bthen (balloc _ _) hb); clear hb
  go_wp2_with fail
  go_loop [7] (fun iv => ∃ k : Nat, k ≤ 4 ∧ iv = .int .i64 k ∧ preF a b c d k = true) (fun iv => 4 - (intOf iv).toNat)
  case atStart => exact ⟨0, by omega, rfl, rfl⟩
  case round =>
    obtain ⟨k, hk, rfl, hp⟩ := hrel
    have HP := Lib.hid hp; clear hp
    have hk' : k = 0 ∨ k = 1 ∨ k = 2 ∨ k = 3 ∨ k = 4 := by omega
    rcases hk' with rfl | rfl | rfl | rfl | rfl
    all_goals
      first | rw [show ((0 : Nat) : Int) = 0 from rfl] | rw [show ((1 : Nat) : Int) = 1 from rfl] | rw [show ((2 : Nat) : Int) = 2 from rfl] | rw [show ((3 : Nat) : Int) = 3 from rfl] | rw [show ((4 : Nat) : Int) = 4 from rfl]
      have j0 := i0.out; have j1 := i1.out; have j2 := i2.out; have j3 := i3.out
      go_wp2
      all_goals
        first
        | (go_round
           case rel => first | exact ⟨0 + 1, by omega, by go_num, by have := HP.out; simp_all [preF, inR] <;> omega⟩ | exact ⟨1 + 1, by omega, by go_num, by have := HP.out; simp_all [preF, inR] <;> omega⟩ | exact ⟨2 + 1, by omega, by go_num, by have := HP.out; simp_all [preF, inR] <;> omega⟩ | exact ⟨3 + 1, by omega, by go_num, by have := HP.out; simp_all [preF, inR] <;> omega⟩
           case measure => simp [intOf])
        | (go_ret; exact ⟨rbool (by have := HP.out; clear j0 j1 j2 j3; simp_all [faultsB, preF, inR] <;> omega), HB.out⟩)
set_option maxRecDepth 100000 in
set_option maxHeartbeats 2000000 in
theorem oneS_any (w : World) (x : Int) : Calls Try.prog 66 #[.int .i64 x] w fun e w' => e = .returned (.int .i64 (oneF x)) ∧ w' = w := by
  go_enter Try.func66, Try.ntmps66
  go_wp2
  all_goals (go_ret; exact ⟨rint (by simp_all [oneF]), rfl⟩)
set_option maxRecDepth 100000 in
set_option maxHeartbeats 2000000 in
theorem cntS_any (w : World) (a b c d : Int) : Calls Try.prog 64 #[.agg #[.int .i64 a, .int .i64 b, .int .i64 c, .int .i64 d]] w fun e w' => e = .returned (.int .i64 (cntF a b c d)) ∧ Below w.heap.size w w' := by
  have ha := oneF_bd a; have hb := oneF_bd b; have hc := oneF_bd c; have hd := oneF_bd d
  obtain ⟨a0, a1⟩ := ha; obtain ⟨b0, b1⟩ := hb; obtain ⟨c0, c1⟩ := hc; obtain ⟨d0, d1⟩ := hd
  have h1 : IntKind.i64.wrap (oneF a + oneF b) = oneF a + oneF b := IntWalk.i64_in _ (by omega)
  have h2 : IntKind.i64.wrap (oneF a + oneF b + oneF c) = oneF a + oneF b + oneF c := IntWalk.i64_in _ (by omega)
  have h3 : IntKind.i64.wrap (oneF a + oneF b + oneF c + oneF d) = oneF a + oneF b + oneF c + oneF d := IntWalk.i64_in _ (by omega)
  go_enter Try.func64, Try.ntmps64
  go_wp2_with fail
  generalize hW0 : (w.alloc (.cells #[.int .i64 a, .int .i64 b, .int .i64 c, .int .i64 d] 42)) = w0
  have b0 : Below w.heap.size w w0 := by rw [← hW0]; exact balloc _ _
  have k0 : Has w0 w.heap.size 42 #[.int .i64 a, .int .i64 b, .int .i64 c, .int .i64 d] := by rw [← hW0]; exact has_new _ _ _
  clear hW0
  have e0 := has_cell k0 0 rfl; have e1 := has_cell k0 1 rfl; have e2 := has_cell k0 2 rfl; have e3 := has_cell k0 3 rfl
  have B0 := Lib.hid b0; clear b0 k0
  go_quiet ((go_at_call 66; exact Calls.quiet_of_same (oneS_any _ _)))
  go_wp2
  go_ret
  exact ⟨rint (by rw [cntF]), below_drewN B0.out _⟩
set_option maxRecDepth 100000 in
set_option maxHeartbeats 2000000 in
theorem cntI_any (w : World) (a b c d : Int) : Calls Try.prog 27 #[.agg #[.int .i64 a, .int .i64 b, .int .i64 c, .int .i64 d]] w fun e w' => e = .returned (.int .i64 (cntF a b c d)) ∧ Below w.heap.size w w' := by
  have i0 := Lib.hid (show ∀ W, (Instr.index 68 (.agg #[.int .i64 a, .int .i64 b, .int .i64 c, .int .i64 d]) (.int .i64 0)).run Try.prog W = .ok (.int .i64 a) W from fun W => by kernel_rfl)
  have i1 := Lib.hid (show ∀ W, (Instr.index 68 (.agg #[.int .i64 a, .int .i64 b, .int .i64 c, .int .i64 d]) (.int .i64 1)).run Try.prog W = .ok (.int .i64 b) W from fun W => by kernel_rfl)
  have i2 := Lib.hid (show ∀ W, (Instr.index 68 (.agg #[.int .i64 a, .int .i64 b, .int .i64 c, .int .i64 d]) (.int .i64 2)).run Try.prog W = .ok (.int .i64 c) W from fun W => by kernel_rfl)
  have i3 := Lib.hid (show ∀ W, (Instr.index 68 (.agg #[.int .i64 a, .int .i64 b, .int .i64 c, .int .i64 d]) (.int .i64 3)).run Try.prog W = .ok (.int .i64 d) W from fun W => by kernel_rfl)
  go_enter Try.func27, Try.ntmps27
  go_wp2_with fail
  refine (flist_any _ a b c d).mono ?_
  rintro e w1 ⟨rfl, hb⟩
  have HB := Lib.hid (bthen (balloc _ _) hb); clear hb
  go_wp2_with fail
  go_loop [3, 8] (fun cv iv => ∃ k : Nat, k ≤ 4 ∧ iv = .int .i64 k ∧ cv = .int .i64 (preC a b c d k)) (fun _ iv => 4 - (intOf iv).toNat)
  case atStart => exact ⟨0, by omega, rfl, rfl⟩
  case round =>
    obtain ⟨k, hk, rfl, rfl⟩ := hrel
    have hbd := preC_bd a b c d k
    obtain ⟨p0, p1⟩ := hbd
    have hk' : k = 0 ∨ k = 1 ∨ k = 2 ∨ k = 3 ∨ k = 4 := by omega
    rcases hk' with rfl | rfl | rfl | rfl | rfl
    all_goals
      first | rw [show ((0 : Nat) : Int) = 0 from rfl] | rw [show ((1 : Nat) : Int) = 1 from rfl] | rw [show ((2 : Nat) : Int) = 2 from rfl] | rw [show ((3 : Nat) : Int) = 3 from rfl] | rw [show ((4 : Nat) : Int) = 4 from rfl]
      have j0 := i0.out; have j1 := i1.out; have j2 := i2.out; have j3 := i3.out
      go_wp2
      all_goals
        first
        | (go_round
           case rel => first | exact ⟨0 + 1, by omega, by go_num, by simp_all [preC, oneF]⟩ | exact ⟨1 + 1, by omega, by go_num, by simp_all [preC, oneF]⟩ | exact ⟨2 + 1, by omega, by go_num, by simp_all [preC, oneF]⟩ | exact ⟨3 + 1, by omega, by go_num, by simp_all [preC, oneF]⟩
           case measure => simp [intOf])
        | (go_ret; exact ⟨rint rfl, HB.out⟩)
set_option maxRecDepth 100000 in
set_option maxHeartbeats 2000000 in
theorem outI_any (w : World) (k : Int) (f : Bool) : Calls Try.prog 48 #[.int .i64 k, .bool f] w fun e w' => e = .returned (.int .i64 (outB k f)) ∧ w' = w := by
  go_enter Try.func48, Try.ntmps48
  go_wp2_with (first | (go_at_call 36; refine (doneI_any _ _ _).mono ?_; rintro e w1 ⟨rfl, hw⟩; rw [hw]; clear hw))
  all_goals (go_ret; exact ⟨rint (by simp_all [outB]), rfl⟩)
set_option maxRecDepth 100000 in
set_option maxHeartbeats 2000000 in
theorem verdI_any (w : World) (k : Int) (sw hk sc ey : Bool) : Calls Try.prog 26 #[.int .i64 k, .agg #[.bool sw, .bool hk, .bool sc, .bool ey]] w fun e w' => e = .returned (.int .i64 (verdB k sw hk sc ey)) ∧ Below w.heap.size w w' := by
  go_enter Try.func26, Try.ntmps26
  go_wp2_with (first | (go_at_call 35; refine (kindI_any _ _).mono ?_; rintro e w1 ⟨rfl, hw⟩; rw [hw]; clear hw) | (go_at_call 48; refine (outI_any _ _ _).mono ?_; rintro e w1 ⟨rfl, hw⟩; rw [hw]; clear hw))
  all_goals (go_ret; exact ⟨rint (by simp_all [verdB]), balloc _ _⟩)
set_option maxRecDepth 100000 in
set_option maxHeartbeats 2000000 in
theorem verdS_any (w : World) (k : Int) (sw hk sc ey : Bool) : Calls Try.prog 65 #[.int .i64 k, .agg #[.bool sw, .bool hk, .bool sc, .bool ey]] w fun e w' => e = .returned (.int .i64 (verdB k sw hk sc ey)) ∧ Below w.heap.size w w' := by
  go_enter Try.func65, Try.ntmps65
  go_wp2
  all_goals (go_ret; exact ⟨rint (by simp_all [verdB, kindB, outB, doneB]), balloc _ _⟩)
set_option maxRecDepth 100000 in
set_option maxHeartbeats 2000000 in
theorem truthI_any (w : World) (k s : Int) (l o f : Bool) : Calls Try.prog 22 #[.agg #[.int .i64 k, .int .i64 s, .bool l, .bool o, .bool f]] w fun e w' => e = .returned (.int .i64 (truthD ⟨k, s, l, o, f⟩)) ∧ Below w.heap.size w w' := by
  go_enter Try.func22, Try.ntmps22
  go_wp2_with (first
    | (go_at_call 12; refine (doorI_any _ _ _ _ _ _).mono ?_; rintro e w1 ⟨rfl, hb⟩; have m := has_call (has_new w _ _) hb; have e0 := has_cell m 0 rfl; have e1 := has_cell m 1 rfl; have e2 := has_cell m 2 rfl; have e3 := has_cell m 3 rfl; have e4 := has_cell m 4 rfl; have lt := has_lt m; have HM := Lib.hid (bthen (balloc w _) hb); have K := Lib.hid m; clear hb m)
    | (go_at_call 48; refine (outI_any _ _ _).mono ?_; rintro e w2 ⟨rfl, hw⟩; rw [hw]; clear hw))
  all_goals (go_ret; exact ⟨rint (by clear HM K; simp_all [truthD, Dr.ok]), HM.out⟩)
set_option maxRecDepth 100000 in
set_option maxHeartbeats 2000000 in
theorem truthS_any (w : World) (k s : Int) (l o f : Bool) : Calls Try.prog 23 #[.agg #[.int .i64 k, .int .i64 s, .bool l, .bool o, .bool f]] w fun e w' => e = .returned (.int .i64 (truthD ⟨k, s, l, o, f⟩)) ∧ Below w.heap.size w w' := by
  go_enter Try.func23, Try.ntmps23
  go_wp2_with (first
    | (go_at_call 18; refine (doorS_any _ _ _ _ _ _).mono ?_; rintro e w1 ⟨rfl, hb⟩; have m := has_call (has_new w _ _) hb; have e0 := has_cell m 0 rfl; have e1 := has_cell m 1 rfl; have e2 := has_cell m 2 rfl; have e3 := has_cell m 3 rfl; have e4 := has_cell m 4 rfl; have lt := has_lt m; have HM := Lib.hid (bthen (balloc w _) hb); have K := Lib.hid m; clear hb m)
    | (go_at_call 45; refine (befS_any _ _ _ _ _ _).mono ?_; rintro e w2 ⟨rfl, hb2⟩))
  all_goals (go_ret; first
    | exact ⟨rint (by clear HM K; simp_all [truthD, Dr.ok]), HM.out⟩
    | exact ⟨rint (by clear HM K hb2; have h9 := ok_kind (k := k) (s := s) (l := l) (o := o) (f := f); have h8 := bef_done (k := k) (f := f); simp_all [truthD, Dr.ok, outB]), bthen HM.out hb2⟩)
end Go.Proofs.Ytaeonangkbhmgaa
