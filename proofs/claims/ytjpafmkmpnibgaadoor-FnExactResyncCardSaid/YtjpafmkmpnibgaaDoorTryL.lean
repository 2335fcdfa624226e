/- Chapter 3: the walks of the laws FnExactTry and FnExactResync. -/
import Derived.Test.YtjpafmkmpnibgaaDoorTryD
namespace Go.Proofs.YtjpafmkmpnibgaaDoor
open Go.RowKit
set_option linter.unusedVariables false
set_option maxRecDepth 100000 in
set_option maxHeartbeats 2000000 in
theorem tryLaw_walk (w : World) (s n t p u : Int) (c : ByteArray) (now : Int) (hc : c.size ≤ maxLen) (hR : Rounds w) : Calls Tryd.prog 5 #[.agg #[.int .i64 s, .int .i64 n, .int .i64 t, .int .i64 p, .int .i64 u], .string c, .int .i64 now] w fun e w' => e = .returned (.bool true) ∧ Below w.heap.size w w' := by
  unfold maxLen at hc
  have HR := Lib.hid hR; clear hR
  obtain ⟨n', t', p', u', r, hX⟩ : ∃ n' t' p' u' r, enterK s n t p u (findN (fun m => shownL s m [c]) n (fcnt n 5 1)) 1 now = (n', t', p', u', r) := ⟨_, _, _, _, _, rfl⟩
  have hV : lkT s (enterK s n t p u (findN (fun m => shownL s m [c]) n (fcnt n 5 1)) 1 now) = .tuple #[.agg #[.int .i64 s, .int .i64 n', .int .i64 t', .int .i64 p', .int .i64 u'], .int .i64 r] := by rw [hX]; rfl
  have HV := Lib.hid hV; clear hX hV
  have er : (r != r) = false := by simp
  by_cases hbig0 : 1048576 < c.size
  · go_enter Tryd.func5, Tryd.ntmps5
    go_wp2_with fail
    go_ret
    exact ⟨rfl, balloc _ _⟩
  go_enter Tryd.func5, Tryd.ntmps5
  go_wp2_with fail
  generalize hW0 : (w.alloc (.cells #[.int .i64 s, .int .i64 n, .int .i64 t, .int .i64 p, .int .i64 u] 25)) = w0
  have b0 : Below w.heap.size w w0 := by rw [← hW0]; exact balloc _ _
  have k0 : Has w0 w.heap.size 25 #[.int .i64 s, .int .i64 n, .int .i64 t, .int .i64 p, .int .i64 u] := by rw [← hW0]; exact has_new _ _ _
  clear hW0
  refine (toLock_any _ s n t p u).mono ?_
  rintro e w1 ⟨rfl, hb1⟩
  have k1 := has_call k0 hb1
  have c1 := bthen b0 hb1
  go_wp2_with fail
  refine (tryS_any _ s n t p u now c).mono ?_
  rintro e w2 ⟨rfl, hb2⟩
  rw [HV.out]
  have k2 := has_call k1 hb2
  have c2_ := bthen c1 hb2
  clear k0 b0 k1 c1 hb1 hb2
  have e0 := has_cell k2 0 rfl
  have e1 := has_cell k2 1 rfl
  have e2 := has_cell k2 2 rfl
  have e3 := has_cell k2 3 rfl
  have e4 := has_cell k2 4 rfl
  have lt := has_lt k2
  have K2 := Lib.hid k2; have C2 := Lib.hid c2_; clear k2 c2_
  go_wp2_with fail
  generalize hW3 : (w2.alloc (.cells #[.int .i64 s, .int .i64 n', .int .i64 t', .int .i64 p', .int .i64 u'] 27)) = w3
  have b3 : Below w2.heap.size w2 w3 := by rw [← hW3]; exact balloc _ _
  have k3 : Has w3 w2.heap.size 27 #[.int .i64 s, .int .i64 n', .int .i64 t', .int .i64 p', .int .i64 u'] := by rw [← hW3]; exact has_new _ _ _
  clear hW3
  refine (toLock_any _ s n t p u).mono ?_
  rintro e w4 ⟨rfl, hb4⟩
  have k4 := has_call k3 hb4
  have c4 := bthen (bthen C2.out b3) hb4
  clear e0 e1 e2 e3 e4 lt
  go_wp2_with fail
  refine (tryI_any _ s n t p u now c (HR.out.below c4)).mono ?_
  rintro e w5 ⟨rfl, hb5⟩
  rw [HV.out]
  have k5 := has_call k4 hb5
  have c5 := bthen c4 hb5
  clear k3 b3 k4 c4 hb4 hb5
  have e0 := has_cell k5 0 rfl
  have e1 := has_cell k5 1 rfl
  have e2 := has_cell k5 2 rfl
  have e3 := has_cell k5 3 rfl
  have e4 := has_cell k5 4 rfl
  have lt := has_lt k5
  have K5 := Lib.hid k5; have C5 := Lib.hid c5; clear k5 c5
  go_wp2_with fail
  generalize hW6 : (w5.alloc _) = w6
  have c6 : Below w.heap.size w w6 := by rw [← hW6]; exact bthen C5.out (balloc _ _)
  clear hW6
  refine (eqLock_any _ s n' t' p' u').mono ?_
  rintro e w7 ⟨rfl, hb7⟩
  have C7 := Lib.hid (bthen c6 hb7)
  clear e0 e1 e2 e3 e4 lt
  go_wp2_with fail
  go_ret
  exact ⟨rfl, C7.out⟩
set_option maxRecDepth 100000 in
set_option maxHeartbeats 2000000 in
theorem resLaw_walk (w : World) (s n t p u : Int) (c c2 : ByteArray) (now : Int) (hc : c.size ≤ maxLen) (hc2 : c2.size ≤ maxLen) (hR : Rounds w) : Calls Tryd.prog 6 #[.agg #[.int .i64 s, .int .i64 n, .int .i64 t, .int .i64 p, .int .i64 u], .string c, .string c2, .int .i64 now] w fun e w' => e = .returned (.bool true) ∧ Below w.heap.size w w' := by
  unfold maxLen at hc hc2
  have HR := Lib.hid hR; clear hR
  obtain ⟨n', t', p', u', r, hX⟩ : ∃ n' t' p' u' r, enterK s n t p u (findN (fun m => shownL s m [c, c2]) n (fcnt n 40 2)) 2 now = (n', t', p', u', r) := ⟨_, _, _, _, _, rfl⟩
  have hV : lkT s (enterK s n t p u (findN (fun m => shownL s m [c, c2]) n (fcnt n 40 2)) 2 now) = .tuple #[.agg #[.int .i64 s, .int .i64 n', .int .i64 t', .int .i64 p', .int .i64 u'], .int .i64 r] := by rw [hX]; rfl
  have HV := Lib.hid hV; clear hX hV
  have er : (r != r) = false := by simp
  by_cases hbig0 : 1048576 < c.size
  · go_enter Tryd.func6, Tryd.ntmps6
    go_wp2_with fail
    go_ret
    exact ⟨rfl, balloc _ _⟩
  by_cases hbig1 : 1048576 < c2.size
  · go_enter Tryd.func6, Tryd.ntmps6
    go_wp2_with fail
    go_ret
    exact ⟨rfl, balloc _ _⟩
  go_enter Tryd.func6, Tryd.ntmps6
  go_wp2_with fail
  generalize hW0 : (w.alloc (.cells #[.int .i64 s, .int .i64 n, .int .i64 t, .int .i64 p, .int .i64 u] 25)) = w0
  have b0 : Below w.heap.size w w0 := by rw [← hW0]; exact balloc _ _
  have k0 : Has w0 w.heap.size 25 #[.int .i64 s, .int .i64 n, .int .i64 t, .int .i64 p, .int .i64 u] := by rw [← hW0]; exact has_new _ _ _
  clear hW0
  refine (toLock_any _ s n t p u).mono ?_
  rintro e w1 ⟨rfl, hb1⟩
  have k1 := has_call k0 hb1
  have c1 := bthen b0 hb1
  go_wp2_with fail
  refine (resS_any _ s n t p u now c c2).mono ?_
  rintro e w2 ⟨rfl, hb2⟩
  rw [HV.out]
  have k2 := has_call k1 hb2
  have c2_ := bthen c1 hb2
  clear k0 b0 k1 c1 hb1 hb2
  have e0 := has_cell k2 0 rfl
  have e1 := has_cell k2 1 rfl
  have e2 := has_cell k2 2 rfl
  have e3 := has_cell k2 3 rfl
  have e4 := has_cell k2 4 rfl
  have lt := has_lt k2
  have K2 := Lib.hid k2; have C2 := Lib.hid c2_; clear k2 c2_
  go_wp2_with fail
  generalize hW3 : (w2.alloc (.cells #[.int .i64 s, .int .i64 n', .int .i64 t', .int .i64 p', .int .i64 u'] 27)) = w3
  have b3 : Below w2.heap.size w2 w3 := by rw [← hW3]; exact balloc _ _
  have k3 : Has w3 w2.heap.size 27 #[.int .i64 s, .int .i64 n', .int .i64 t', .int .i64 p', .int .i64 u'] := by rw [← hW3]; exact has_new _ _ _
  clear hW3
  refine (toLock_any _ s n t p u).mono ?_
  rintro e w4 ⟨rfl, hb4⟩
  have k4 := has_call k3 hb4
  have c4 := bthen (bthen C2.out b3) hb4
  clear e0 e1 e2 e3 e4 lt
  go_wp2_with fail
  refine (resI_any _ s n t p u now c c2 (HR.out.below c4)).mono ?_
  rintro e w5 ⟨rfl, hb5⟩
  rw [HV.out]
  have k5 := has_call k4 hb5
  have c5 := bthen c4 hb5
  clear k3 b3 k4 c4 hb4 hb5
  have e0 := has_cell k5 0 rfl
  have e1 := has_cell k5 1 rfl
  have e2 := has_cell k5 2 rfl
  have e3 := has_cell k5 3 rfl
  have e4 := has_cell k5 4 rfl
  have lt := has_lt k5
  have K5 := Lib.hid k5; have C5 := Lib.hid c5; clear k5 c5
  go_wp2_with fail
  generalize hW6 : (w5.alloc _) = w6
  have c6 : Below w.heap.size w w6 := by rw [← hW6]; exact bthen C5.out (balloc _ _)
  clear hW6
  refine (eqLock_any _ s n' t' p' u').mono ?_
  rintro e w7 ⟨rfl, hb7⟩
  have C7 := Lib.hid (bthen c6 hb7)
  clear e0 e1 e2 e3 e4 lt
  go_wp2_with fail
  go_ret
  exact ⟨rfl, C7.out⟩
end Go.Proofs.YtjpafmkmpnibgaaDoor
