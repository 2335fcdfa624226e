/- Chapter 3: the walks of the laws FnExactLockOk, NewLock, PadOk, TryName and MostWrong. -/
import Derived.Test.YtjpafmkmpnibgaaLckD
namespace Go.Proofs.Ytjpafmkmpnibgaa
open Go.RowKit
set_option linter.unusedVariables false

theorem ccall {W W' : World} {q : Addr} {v : Value} (h : W.cell? q = some v) (hb : Below W.heap.size W W') : W'.cell? q = some v := by
  have hlt : q.block < W.heap.size := by
    rcases Nat.lt_or_ge q.block W.heap.size with hlt | hge
    · exact hlt
    · unfold World.cell? at h
      rw [Array.getElem?_eq_none hge] at h
      simp at h
  exact (hb.cell hlt).trans h

set_option maxRecDepth 100000 in
set_option maxHeartbeats 1000000 in
theorem lockLaw_walk (w : World) (s n t p u : Int) : Calls Try.prog 3 #[.agg #[.int .i64 s, .int .i64 n, .int .i64 t, .int .i64 p, .int .i64 u]] w fun e w' => e = .returned (.bool true) ∧ Below w.heap.size w w' := by
  generalize hq : lockB s n t p u = q
  have eq : (q != q) = false := by simp
  go_enter Try.func3, Try.ntmps3
  go_wp2_with fail
  generalize hW0 : (w.alloc (.cells #[.int .i64 s, .int .i64 n, .int .i64 t, .int .i64 p, .int .i64 u] 23)) = w0
  have b0 : Below w.heap.size w w0 := by rw [← hW0]; exact balloc _ _
  have k0 : Has w0 w.heap.size 23 #[.int .i64 s, .int .i64 n, .int .i64 t, .int .i64 p, .int .i64 u] := by rw [← hW0]; exact has_new _ _ _
  clear hW0
  refine (toLock_any _ s n t p u).mono ?_
  rintro e w1 ⟨rfl, hb1⟩
  have k1 := has_call k0 hb1
  have c1 := bthen b0 hb1
  go_wp2_with fail
  refine (lockS_any _ s n t p u).mono ?_
  rintro e w2 ⟨rfl, hb2⟩
  rw [hq]
  have k2 := has_call k1 hb2
  have c2 := bthen c1 hb2
  have e0 := has_cell k2 0 rfl; have e1 := has_cell k2 1 rfl; have e2 := has_cell k2 2 rfl; have e3 := has_cell k2 3 rfl; have e4 := has_cell k2 4 rfl
  have lt := has_lt k2
  clear k0 b0 k1 c1 hb1 hb2
  have K2 := Lib.hid k2; have C2 := Lib.hid c2; clear k2 c2
  go_wp2_with fail
  refine (toLock_any _ s n t p u).mono ?_
  rintro e w3 ⟨rfl, hb3⟩
  have c3 := bthen C2.out hb3
  clear e0 e1 e2 e3 e4 lt
  go_wp2_with fail
  refine (lockI_any _ s n t p u).mono ?_
  rintro e w4 ⟨rfl, hb4⟩
  rw [hq]
  have C4 := Lib.hid (bthen c3 hb4)
  clear hq
  go_wp2_with fail
  go_ret
  exact ⟨rfl, C4.out⟩
set_option maxRecDepth 100000 in
set_option maxHeartbeats 1000000 in
theorem padLaw_walk (w : World) (s c : Int) : Calls Try.prog 6 #[.agg #[.int .i64 s, .int .i64 c]] w fun e w' => e = .returned (.bool true) ∧ Below w.heap.size w w' := by
  generalize hq : padB s c = q
  have eq : (q != q) = false := by simp
  go_enter Try.func6, Try.ntmps6
  go_wp2_with fail
  generalize hW0 : (w.alloc (.cells #[.int .i64 s, .int .i64 c] 34)) = w0
  have b0 : Below w.heap.size w w0 := by rw [← hW0]; exact balloc _ _
  have k0 : Has w0 w.heap.size 34 #[.int .i64 s, .int .i64 c] := by rw [← hW0]; exact has_new _ _ _
  clear hW0
  refine (toPad_any _ s c).mono ?_
  rintro e w1 ⟨rfl, hb1⟩
  have k1 := has_call k0 hb1
  have c1 := bthen b0 hb1
  go_wp2_with fail
  refine (padS_any _ s c).mono ?_
  rintro e w2 ⟨rfl, hb2⟩
  rw [hq]
  have k2 := has_call k1 hb2
  have c2 := bthen c1 hb2
  have e0 := has_cell k2 0 rfl; have e1 := has_cell k2 1 rfl
  have lt := has_lt k2
  clear k0 b0 k1 c1 hb1 hb2
  have K2 := Lib.hid k2; have C2 := Lib.hid c2; clear k2 c2
  go_wp2_with fail
  refine (toPad_any _ s c).mono ?_
  rintro e w3 ⟨rfl, hb3⟩
  have c3 := bthen C2.out hb3
  clear e0 e1 lt
  go_wp2_with fail
  refine (padI_any _ s c).mono ?_
  rintro e w4 ⟨rfl, hb4⟩
  rw [hq]
  have C4 := Lib.hid (bthen c3 hb4)
  clear hq
  go_wp2_with fail
  go_ret
  exact ⟨rfl, C4.out⟩
set_option maxRecDepth 100000 in
set_option maxHeartbeats 1000000 in
theorem newKLaw_walk (w : World) (a : Int) : Calls Try.prog 4 #[.int .i64 a] w fun e w' => e = .returned (.bool true) ∧ Below w.heap.size w w' := by
  obtain ⟨s, q, hK⟩ : ∃ (s : Int) (q : Bool), newK a = .tuple #[.agg #[.int .i64 s, .int .i64 0, .int .i64 0, .int .i64 0, .int .i64 0], .bool q] := by
    cases h : secB a
    · exact ⟨_, _, newK_no h⟩
    · exact ⟨_, _, newK_yes h⟩
  have eq : (q != q) = false := by simp
  go_enter Try.func4, Try.ntmps4
  go_wp2_with fail
  refine (newKS_any _ a).mono ?_
  rintro e w1 ⟨rfl, hb1⟩
  rw [hK]
  go_wp2_with fail
  generalize hW0 : (w1.alloc (.cells #[.int .i64 s, .int .i64 0, .int .i64 0, .int .i64 0, .int .i64 0] 25)) = w2
  have b2 : Below w1.heap.size w1 w2 := by rw [← hW0]; exact balloc _ _
  have k2 : Has w2 w1.heap.size 25 #[.int .i64 s, .int .i64 0, .int .i64 0, .int .i64 0, .int .i64 0] := by rw [← hW0]; exact has_new _ _ _
  clear hW0
  have c2 := bthen hb1 b2
  refine (newKI_any _ a).mono ?_
  rintro e w3 ⟨rfl, hb3⟩
  rw [hK]
  have k3 := has_call k2 hb3
  have c3 := bthen c2 hb3
  clear hK b2 k2 c2 hb1 hb3
  have e0 := has_cell k3 0 rfl; have e1 := has_cell k3 1 rfl; have e2 := has_cell k3 2 rfl; have e3 := has_cell k3 3 rfl; have e4 := has_cell k3 4 rfl
  have lt := has_lt k3
  have K3 := Lib.hid k3; have C3 := Lib.hid c3; clear k3 c3
  go_wp2_with fail
  generalize hW4 : (w3.alloc _) = w4
  have c4 : Below w.heap.size w w4 := by rw [← hW4]; exact bthen C3.out (balloc _ _)
  clear hW4
  refine (eqLock_any _ s 0 0 0 0).mono ?_
  rintro e w5 ⟨rfl, hb5⟩
  have C5 := Lib.hid (bthen c4 hb5)
  clear e0 e1 e2 e3 e4 lt
  go_wp2_with fail
  go_ret
  exact ⟨rfl, C5.out⟩
set_option maxHeartbeats 1000000 in
theorem tnLaw_walk (w : World) (a : Int) : Calls Try.prog 5 #[.int .i64 a] w fun e w' => e = .returned (.bool true) ∧ Below w.heap.size w w' := by
  generalize hq : tnV a = q
  go_enter Try.func5, Try.ntmps5
  go_wp2_with fail
  refine (tnS_any _ a).mono ?_
  rintro e w1 ⟨rfl, hb1⟩
  rw [hq]
  go_wp2_with fail
  refine (tnI_any _ a).mono ?_
  rintro e w2 ⟨rfl, hb2⟩
  rw [hq]
  have C2 := Lib.hid (bthen hb1 hb2)
  clear hq
  go_wp2_with fail
  go_ret
  exact ⟨rfl, C2.out⟩
set_option maxHeartbeats 1000000 in
theorem mostLaw_walk (w : World) (a : Int) : Calls Try.prog 8 #[.int .i64 a] w fun e w' => e = .returned (.bool true) ∧ Below w.heap.size w w' := by
  generalize hq : mostV a = q
  have eq : (q != q) = false := by simp
  go_enter Try.func8, Try.ntmps8
  go_wp2_with fail
  refine (mostS_any _ a).mono ?_
  rintro e w1 ⟨rfl, rfl⟩
  rw [hq]
  go_wp2_with fail
  refine (mostI_any _ a).mono ?_
  rintro e w2 ⟨rfl, rfl⟩
  rw [hq]
  clear hq
  go_wp2_with fail
  go_ret
  exact ⟨rfl, Below.refl _ _⟩
end Go.Proofs.Ytjpafmkmpnibgaa
