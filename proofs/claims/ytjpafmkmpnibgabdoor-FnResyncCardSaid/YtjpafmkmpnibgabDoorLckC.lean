/- Chapter 3: contracts of CanOpen, both sides. -/
import Derived.Test.YtjpafmkmpnibgabDoorLckB
namespace Go.Proofs.YtjpafmkmpnibgabDoor
open Go.RowKit
set_option linter.unusedVariables false
def CanP (ps pc s n t p u : Int) : Prop := ((1 ≤ ps ∧ ps ≤ 2147483646) ∧ (0 ≤ pc ∧ pc ≤ 1000001)) ∧ ((1 ≤ s ∧ s ≤ 2147483646) ∧ (0 ≤ n ∧ n ≤ 1000001) ∧ (0 ≤ t ∧ t ≤ 2) ∧ (0 ≤ p ∧ p ≤ 6) ∧ (0 ≤ u ∧ u ≤ 20064)) ∧ ps = s ∧ pc ≤ 1000000 ∧ n ≤ pc ∧ pc < n + 5
instance (ps pc s n t p u : Int) : Decidable (CanP ps pc s n t p u) := by unfold CanP; infer_instance
def canB (ps pc s n t p u : Int) : Bool := decide (CanP ps pc s n t p u)
theorem can_yes {ps pc s n t p u : Int} (h : CanP ps pc s n t p u) : true = canB ps pc s n t p u := by simp [canB, h]
theorem can_no {ps pc s n t p u : Int} (h : ¬ CanP ps pc s n t p u) : false = canB ps pc s n t p u := by simp [canB, h]
theorem nt {b : Bool} (h : b = false) : ¬ b = true := by rw [h]; simp
theorem eq_i {a b : Int} (h : (a == b) = true) : a = b := by simpa using h
theorem ne_i {a b : Int} (h : (a == b) = false) : a ≠ b := by simpa using h

set_option maxRecDepth 100000 in
set_option maxHeartbeats 1000000 in
theorem canI_1f (w : World) (ps pc s n t p u : Int) (h1 : (padB ps pc) = false) :
    Calls Tryd.prog 17 #[.agg #[.int .i64 ps, .int .i64 pc], .agg #[.int .i64 s, .int .i64 n, .int .i64 t, .int .i64 p, .int .i64 u]] w fun e w' => e = .returned (.bool (canB ps pc s n t p u)) ∧ Below w.heap.size w w' := by
  have fin : false = canB ps pc s n t p u := by
    have g1 := fun h => nt h1 (padB_iff.2 h)
    exact can_no (fun h => g1 h.1)
  have FIN := Lib.hid fin; clear fin
  go_enter Tryd.func17, Tryd.ntmps17
  go_wp2_with fail
  generalize hW0 : ((w.alloc (.cells #[.int .i64 ps, .int .i64 pc] 36)).alloc (.cells #[.int .i64 s, .int .i64 n, .int .i64 t, .int .i64 p, .int .i64 u] 25)) = w0
  have b0 : Below w.heap.size w w0 := by rw [← hW0]; exact bthen (balloc _ _) (balloc _ _)
  have k2 : Has w0 w.heap.size 36 #[.int .i64 ps, .int .i64 pc] := by rw [← hW0]; exact has_alloc (has_new _ _ _) _
  have k3 : Has w0 (w.heap.size + 1) 25 #[.int .i64 s, .int .i64 n, .int .i64 t, .int .i64 p, .int .i64 u] := by rw [← hW0]; have := has_new (w.alloc (.cells #[.int .i64 ps, .int .i64 pc] 36)) 25 #[.int .i64 s, .int .i64 n, .int .i64 t, .int .i64 p, .int .i64 u]; simpa using this
  clear hW0
  refine (padI_any w0 ps pc).mono ?_
  rintro e w1 ⟨rfl, hb1⟩
  rw [h1]
  have c1 := bthen b0 hb1
  have m2 := has_call k2 hb1; have m3 := has_call k3 hb1
  have e0 := has_cell m2 0 rfl
  have e1 := has_cell m2 1 rfl
  have f0 := has_cell m3 0 rfl
  have f1 := has_cell m3 1 rfl
  have f2 := has_cell m3 2 rfl
  have f3 := has_cell m3 3 rfl
  have f4 := has_cell m3 4 rfl
  have lt2 := has_lt m2; have lt3 := has_lt m3
  have M2 := Lib.hid m2; have M3 := Lib.hid m3; have C1 := Lib.hid c1; clear m2 m3 k2 k3 c1 b0 hb1
  go_wp2_with fail
  go_ret
  exact ⟨rbool FIN.out, C1.out⟩
set_option maxRecDepth 100000 in
set_option maxHeartbeats 1000000 in
theorem canI_2f (w : World) (ps pc s n t p u : Int) (h1 : (padB ps pc) = true) (h2 : (lockB s n t p u) = false) :
    Calls Tryd.prog 17 #[.agg #[.int .i64 ps, .int .i64 pc], .agg #[.int .i64 s, .int .i64 n, .int .i64 t, .int .i64 p, .int .i64 u]] w fun e w' => e = .returned (.bool (canB ps pc s n t p u)) ∧ Below w.heap.size w w' := by
  have fin : false = canB ps pc s n t p u := by
    have g1 := padB_iff.1 h1
    have g2 := fun h => nt h2 (lockB_iff.2 h)
    exact can_no (fun h => g2 h.2.1)
  have FIN := Lib.hid fin; clear fin
  go_enter Tryd.func17, Tryd.ntmps17
  go_wp2_with fail
  generalize hW0 : ((w.alloc (.cells #[.int .i64 ps, .int .i64 pc] 36)).alloc (.cells #[.int .i64 s, .int .i64 n, .int .i64 t, .int .i64 p, .int .i64 u] 25)) = w0
  have b0 : Below w.heap.size w w0 := by rw [← hW0]; exact bthen (balloc _ _) (balloc _ _)
  have k2 : Has w0 w.heap.size 36 #[.int .i64 ps, .int .i64 pc] := by rw [← hW0]; exact has_alloc (has_new _ _ _) _
  have k3 : Has w0 (w.heap.size + 1) 25 #[.int .i64 s, .int .i64 n, .int .i64 t, .int .i64 p, .int .i64 u] := by rw [← hW0]; have := has_new (w.alloc (.cells #[.int .i64 ps, .int .i64 pc] 36)) 25 #[.int .i64 s, .int .i64 n, .int .i64 t, .int .i64 p, .int .i64 u]; simpa using this
  clear hW0
  refine (padI_any w0 ps pc).mono ?_
  rintro e w1 ⟨rfl, hb1⟩
  rw [h1]
  have c1 := bthen b0 hb1
  have m2 := has_call k2 hb1; have m3 := has_call k3 hb1
  have e0 := has_cell m2 0 rfl
  have e1 := has_cell m2 1 rfl
  have f0 := has_cell m3 0 rfl
  have f1 := has_cell m3 1 rfl
  have f2 := has_cell m3 2 rfl
  have f3 := has_cell m3 3 rfl
  have f4 := has_cell m3 4 rfl
  have lt2 := has_lt m2; have lt3 := has_lt m3
  have M2 := Lib.hid m2; have M3 := Lib.hid m3; have C1 := Lib.hid c1; clear m2 m3 k2 k3 c1 b0 hb1
  go_wp2_with fail
  refine (lockI_any _ s n t p u).mono ?_
  rintro e w2 ⟨rfl, hb2⟩
  rw [h2]
  have c2 := bthen C1.out hb2
  clear e0 e1 f0 f1 f2 f3 f4 lt2 lt3
  have m2 := has_call M2.out hb2; have m3 := has_call M3.out hb2
  have e0 := has_cell m2 0 rfl
  have e1 := has_cell m2 1 rfl
  have f0 := has_cell m3 0 rfl
  have f1 := has_cell m3 1 rfl
  have f2 := has_cell m3 2 rfl
  have f3 := has_cell m3 3 rfl
  have f4 := has_cell m3 4 rfl
  have lt2 := has_lt m2; have lt3 := has_lt m3
  have C2 := Lib.hid c2; clear m2 m3 c2 hb2
  go_wp2_with fail
  go_ret
  exact ⟨rbool FIN.out, C2.out⟩
set_option maxRecDepth 100000 in
set_option maxHeartbeats 1000000 in
theorem canI_3f (w : World) (ps pc s n t p u : Int) (h1 : (padB ps pc) = true) (h2 : (lockB s n t p u) = true) (h3 : (ps == s) = false) :
    Calls Tryd.prog 17 #[.agg #[.int .i64 ps, .int .i64 pc], .agg #[.int .i64 s, .int .i64 n, .int .i64 t, .int .i64 p, .int .i64 u]] w fun e w' => e = .returned (.bool (canB ps pc s n t p u)) ∧ Below w.heap.size w w' := by
  have fin : false = canB ps pc s n t p u := by
    have g1 := padB_iff.1 h1
    have g2 := lockB_iff.1 h2
    have g3 := ne_i h3
    exact can_no (by unfold CanP; omega)
  have FIN := Lib.hid fin; clear fin
  have bn := (lockB_iff.1 h2).2.1
  obtain ⟨bn0, bn1⟩ := bn
  go_enter Tryd.func17, Tryd.ntmps17
  go_wp2_with fail
  generalize hW0 : ((w.alloc (.cells #[.int .i64 ps, .int .i64 pc] 36)).alloc (.cells #[.int .i64 s, .int .i64 n, .int .i64 t, .int .i64 p, .int .i64 u] 25)) = w0
  have b0 : Below w.heap.size w w0 := by rw [← hW0]; exact bthen (balloc _ _) (balloc _ _)
  have k2 : Has w0 w.heap.size 36 #[.int .i64 ps, .int .i64 pc] := by rw [← hW0]; exact has_alloc (has_new _ _ _) _
  have k3 : Has w0 (w.heap.size + 1) 25 #[.int .i64 s, .int .i64 n, .int .i64 t, .int .i64 p, .int .i64 u] := by rw [← hW0]; have := has_new (w.alloc (.cells #[.int .i64 ps, .int .i64 pc] 36)) 25 #[.int .i64 s, .int .i64 n, .int .i64 t, .int .i64 p, .int .i64 u]; simpa using this
  clear hW0
  refine (padI_any w0 ps pc).mono ?_
  rintro e w1 ⟨rfl, hb1⟩
  rw [h1]
  have c1 := bthen b0 hb1
  have m2 := has_call k2 hb1; have m3 := has_call k3 hb1
  have e0 := has_cell m2 0 rfl
  have e1 := has_cell m2 1 rfl
  have f0 := has_cell m3 0 rfl
  have f1 := has_cell m3 1 rfl
  have f2 := has_cell m3 2 rfl
  have f3 := has_cell m3 3 rfl
  have f4 := has_cell m3 4 rfl
  have lt2 := has_lt m2; have lt3 := has_lt m3
  have M2 := Lib.hid m2; have M3 := Lib.hid m3; have C1 := Lib.hid c1; clear m2 m3 k2 k3 c1 b0 hb1
  go_wp2_with fail
  refine (lockI_any _ s n t p u).mono ?_
  rintro e w2 ⟨rfl, hb2⟩
  rw [h2]
  have c2 := bthen C1.out hb2
  clear e0 e1 f0 f1 f2 f3 f4 lt2 lt3
  have m2 := has_call M2.out hb2; have m3 := has_call M3.out hb2
  have e0 := has_cell m2 0 rfl
  have e1 := has_cell m2 1 rfl
  have f0 := has_cell m3 0 rfl
  have f1 := has_cell m3 1 rfl
  have f2 := has_cell m3 2 rfl
  have f3 := has_cell m3 3 rfl
  have f4 := has_cell m3 4 rfl
  have lt2 := has_lt m2; have lt3 := has_lt m3
  have C2 := Lib.hid c2; clear m2 m3 c2 hb2
  go_wp2_with fail
  go_ret
  exact ⟨rbool FIN.out, C2.out⟩
set_option maxRecDepth 100000 in
set_option maxHeartbeats 1000000 in
theorem canI_4f (w : World) (ps pc s n t p u : Int) (h1 : (padB ps pc) = true) (h2 : (lockB s n t p u) = true) (h3 : (ps == s) = true) (h4 : (cntB3 pc) = false) :
    Calls Tryd.prog 17 #[.agg #[.int .i64 ps, .int .i64 pc], .agg #[.int .i64 s, .int .i64 n, .int .i64 t, .int .i64 p, .int .i64 u]] w fun e w' => e = .returned (.bool (canB ps pc s n t p u)) ∧ Below w.heap.size w w' := by
  have fin : false = canB ps pc s n t p u := by
    have g1 := padB_iff.1 h1
    have g2 := lockB_iff.1 h2
    have g3 := eq_i h3
    have g4 := fun h => nt h4 (cntB3_iff.2 h)
    exact can_no (fun h => g4 ⟨g1.2.1, h.2.2.2.1⟩)
  have FIN := Lib.hid fin; clear fin
  have bn := (lockB_iff.1 h2).2.1
  obtain ⟨bn0, bn1⟩ := bn
  go_enter Tryd.func17, Tryd.ntmps17
  go_wp2_with fail
  generalize hW0 : ((w.alloc (.cells #[.int .i64 ps, .int .i64 pc] 36)).alloc (.cells #[.int .i64 s, .int .i64 n, .int .i64 t, .int .i64 p, .int .i64 u] 25)) = w0
  have b0 : Below w.heap.size w w0 := by rw [← hW0]; exact bthen (balloc _ _) (balloc _ _)
  have k2 : Has w0 w.heap.size 36 #[.int .i64 ps, .int .i64 pc] := by rw [← hW0]; exact has_alloc (has_new _ _ _) _
  have k3 : Has w0 (w.heap.size + 1) 25 #[.int .i64 s, .int .i64 n, .int .i64 t, .int .i64 p, .int .i64 u] := by rw [← hW0]; have := has_new (w.alloc (.cells #[.int .i64 ps, .int .i64 pc] 36)) 25 #[.int .i64 s, .int .i64 n, .int .i64 t, .int .i64 p, .int .i64 u]; simpa using this
  clear hW0
  refine (padI_any w0 ps pc).mono ?_
  rintro e w1 ⟨rfl, hb1⟩
  rw [h1]
  have c1 := bthen b0 hb1
  have m2 := has_call k2 hb1; have m3 := has_call k3 hb1
  have e0 := has_cell m2 0 rfl
  have e1 := has_cell m2 1 rfl
  have f0 := has_cell m3 0 rfl
  have f1 := has_cell m3 1 rfl
  have f2 := has_cell m3 2 rfl
  have f3 := has_cell m3 3 rfl
  have f4 := has_cell m3 4 rfl
  have lt2 := has_lt m2; have lt3 := has_lt m3
  have M2 := Lib.hid m2; have M3 := Lib.hid m3; have C1 := Lib.hid c1; clear m2 m3 k2 k3 c1 b0 hb1
  go_wp2_with fail
  refine (lockI_any _ s n t p u).mono ?_
  rintro e w2 ⟨rfl, hb2⟩
  rw [h2]
  have c2 := bthen C1.out hb2
  clear e0 e1 f0 f1 f2 f3 f4 lt2 lt3
  have m2 := has_call M2.out hb2; have m3 := has_call M3.out hb2
  have e0 := has_cell m2 0 rfl
  have e1 := has_cell m2 1 rfl
  have f0 := has_cell m3 0 rfl
  have f1 := has_cell m3 1 rfl
  have f2 := has_cell m3 2 rfl
  have f3 := has_cell m3 3 rfl
  have f4 := has_cell m3 4 rfl
  have lt2 := has_lt m2; have lt3 := has_lt m3
  have C2 := Lib.hid c2; clear m2 m3 c2 hb2
  go_wp2_with fail
  refine (countI_any _ _).mono ?_; rintro e w' ⟨rfl, rfl⟩; rw [h4]
  go_wp2_with fail
  go_ret
  exact ⟨rbool FIN.out, C2.out⟩
set_option maxRecDepth 100000 in
set_option maxHeartbeats 1000000 in
theorem canI_5f (w : World) (ps pc s n t p u : Int) (h1 : (padB ps pc) = true) (h2 : (lockB s n t p u) = true) (h3 : (ps == s) = true) (h4 : (cntB3 pc) = true) (h5 : (decide (n ≤ pc)) = false) :
    Calls Tryd.prog 17 #[.agg #[.int .i64 ps, .int .i64 pc], .agg #[.int .i64 s, .int .i64 n, .int .i64 t, .int .i64 p, .int .i64 u]] w fun e w' => e = .returned (.bool (canB ps pc s n t p u)) ∧ Below w.heap.size w w' := by
  have fin : false = canB ps pc s n t p u := by
    have g1 := padB_iff.1 h1
    have g2 := lockB_iff.1 h2
    have g3 := eq_i h3
    have g4 := cntB3_iff.1 h4
    have g5 := of_decide_eq_false h5
    exact can_no (by unfold CanP; omega)
  have FIN := Lib.hid fin; clear fin
  have bn := (lockB_iff.1 h2).2.1
  obtain ⟨bn0, bn1⟩ := bn
  go_enter Tryd.func17, Tryd.ntmps17
  go_wp2_with fail
  generalize hW0 : ((w.alloc (.cells #[.int .i64 ps, .int .i64 pc] 36)).alloc (.cells #[.int .i64 s, .int .i64 n, .int .i64 t, .int .i64 p, .int .i64 u] 25)) = w0
  have b0 : Below w.heap.size w w0 := by rw [← hW0]; exact bthen (balloc _ _) (balloc _ _)
  have k2 : Has w0 w.heap.size 36 #[.int .i64 ps, .int .i64 pc] := by rw [← hW0]; exact has_alloc (has_new _ _ _) _
  have k3 : Has w0 (w.heap.size + 1) 25 #[.int .i64 s, .int .i64 n, .int .i64 t, .int .i64 p, .int .i64 u] := by rw [← hW0]; have := has_new (w.alloc (.cells #[.int .i64 ps, .int .i64 pc] 36)) 25 #[.int .i64 s, .int .i64 n, .int .i64 t, .int .i64 p, .int .i64 u]; simpa using this
  clear hW0
  refine (padI_any w0 ps pc).mono ?_
  rintro e w1 ⟨rfl, hb1⟩
  rw [h1]
  have c1 := bthen b0 hb1
  have m2 := has_call k2 hb1; have m3 := has_call k3 hb1
  have e0 := has_cell m2 0 rfl
  have e1 := has_cell m2 1 rfl
  have f0 := has_cell m3 0 rfl
  have f1 := has_cell m3 1 rfl
  have f2 := has_cell m3 2 rfl
  have f3 := has_cell m3 3 rfl
  have f4 := has_cell m3 4 rfl
  have lt2 := has_lt m2; have lt3 := has_lt m3
  have M2 := Lib.hid m2; have M3 := Lib.hid m3; have C1 := Lib.hid c1; clear m2 m3 k2 k3 c1 b0 hb1
  go_wp2_with fail
  refine (lockI_any _ s n t p u).mono ?_
  rintro e w2 ⟨rfl, hb2⟩
  rw [h2]
  have c2 := bthen C1.out hb2
  clear e0 e1 f0 f1 f2 f3 f4 lt2 lt3
  have m2 := has_call M2.out hb2; have m3 := has_call M3.out hb2
  have e0 := has_cell m2 0 rfl
  have e1 := has_cell m2 1 rfl
  have f0 := has_cell m3 0 rfl
  have f1 := has_cell m3 1 rfl
  have f2 := has_cell m3 2 rfl
  have f3 := has_cell m3 3 rfl
  have f4 := has_cell m3 4 rfl
  have lt2 := has_lt m2; have lt3 := has_lt m3
  have C2 := Lib.hid c2; clear m2 m3 c2 hb2
  go_wp2_with fail
  refine (countI_any _ _).mono ?_; rintro e w' ⟨rfl, rfl⟩; rw [h4]
  go_wp2_with fail
  go_ret
  exact ⟨rbool FIN.out, C2.out⟩
set_option maxRecDepth 100000 in
set_option maxHeartbeats 1000000 in
theorem canI_6f (w : World) (ps pc s n t p u : Int) (h1 : (padB ps pc) = true) (h2 : (lockB s n t p u) = true) (h3 : (ps == s) = true) (h4 : (cntB3 pc) = true) (h5 : (decide (n ≤ pc)) = true) (h6 : (decide (pc < n + 5)) = false) :
    Calls Tryd.prog 17 #[.agg #[.int .i64 ps, .int .i64 pc], .agg #[.int .i64 s, .int .i64 n, .int .i64 t, .int .i64 p, .int .i64 u]] w fun e w' => e = .returned (.bool (canB ps pc s n t p u)) ∧ Below w.heap.size w w' := by
  have fin : false = canB ps pc s n t p u := by
    have g1 := padB_iff.1 h1
    have g2 := lockB_iff.1 h2
    have g3 := eq_i h3
    have g4 := cntB3_iff.1 h4
    have g5 := of_decide_eq_true h5
    have g6 := of_decide_eq_false h6
    exact can_no (by unfold CanP; omega)
  have FIN := Lib.hid fin; clear fin
  have bn := (lockB_iff.1 h2).2.1
  obtain ⟨bn0, bn1⟩ := bn
  go_enter Tryd.func17, Tryd.ntmps17
  go_wp2_with fail
  generalize hW0 : ((w.alloc (.cells #[.int .i64 ps, .int .i64 pc] 36)).alloc (.cells #[.int .i64 s, .int .i64 n, .int .i64 t, .int .i64 p, .int .i64 u] 25)) = w0
  have b0 : Below w.heap.size w w0 := by rw [← hW0]; exact bthen (balloc _ _) (balloc _ _)
  have k2 : Has w0 w.heap.size 36 #[.int .i64 ps, .int .i64 pc] := by rw [← hW0]; exact has_alloc (has_new _ _ _) _
  have k3 : Has w0 (w.heap.size + 1) 25 #[.int .i64 s, .int .i64 n, .int .i64 t, .int .i64 p, .int .i64 u] := by rw [← hW0]; have := has_new (w.alloc (.cells #[.int .i64 ps, .int .i64 pc] 36)) 25 #[.int .i64 s, .int .i64 n, .int .i64 t, .int .i64 p, .int .i64 u]; simpa using this
  clear hW0
  refine (padI_any w0 ps pc).mono ?_
  rintro e w1 ⟨rfl, hb1⟩
  rw [h1]
  have c1 := bthen b0 hb1
  have m2 := has_call k2 hb1; have m3 := has_call k3 hb1
  have e0 := has_cell m2 0 rfl
  have e1 := has_cell m2 1 rfl
  have f0 := has_cell m3 0 rfl
  have f1 := has_cell m3 1 rfl
  have f2 := has_cell m3 2 rfl
  have f3 := has_cell m3 3 rfl
  have f4 := has_cell m3 4 rfl
  have lt2 := has_lt m2; have lt3 := has_lt m3
  have M2 := Lib.hid m2; have M3 := Lib.hid m3; have C1 := Lib.hid c1; clear m2 m3 k2 k3 c1 b0 hb1
  go_wp2_with fail
  refine (lockI_any _ s n t p u).mono ?_
  rintro e w2 ⟨rfl, hb2⟩
  rw [h2]
  have c2 := bthen C1.out hb2
  clear e0 e1 f0 f1 f2 f3 f4 lt2 lt3
  have m2 := has_call M2.out hb2; have m3 := has_call M3.out hb2
  have e0 := has_cell m2 0 rfl
  have e1 := has_cell m2 1 rfl
  have f0 := has_cell m3 0 rfl
  have f1 := has_cell m3 1 rfl
  have f2 := has_cell m3 2 rfl
  have f3 := has_cell m3 3 rfl
  have f4 := has_cell m3 4 rfl
  have lt2 := has_lt m2; have lt3 := has_lt m3
  have C2 := Lib.hid c2; clear m2 m3 c2 hb2
  go_wp2_with fail
  refine (countI_any _ _).mono ?_; rintro e w' ⟨rfl, rfl⟩; rw [h4]
  go_wp2_with fail
  go_ret
  exact ⟨rbool FIN.out, C2.out⟩
set_option maxRecDepth 100000 in
set_option maxHeartbeats 1000000 in
theorem canI_6t (w : World) (ps pc s n t p u : Int) (h1 : (padB ps pc) = true) (h2 : (lockB s n t p u) = true) (h3 : (ps == s) = true) (h4 : (cntB3 pc) = true) (h5 : (decide (n ≤ pc)) = true) (h6 : (decide (pc < n + 5)) = true) :
    Calls Tryd.prog 17 #[.agg #[.int .i64 ps, .int .i64 pc], .agg #[.int .i64 s, .int .i64 n, .int .i64 t, .int .i64 p, .int .i64 u]] w fun e w' => e = .returned (.bool (canB ps pc s n t p u)) ∧ Below w.heap.size w w' := by
  have fin : true = canB ps pc s n t p u := by
    have g1 := padB_iff.1 h1
    have g2 := lockB_iff.1 h2
    have g3 := eq_i h3
    have g4 := cntB3_iff.1 h4
    have g5 := of_decide_eq_true h5
    have g6 := of_decide_eq_true h6
    exact can_yes (by unfold CanP; omega)
  have FIN := Lib.hid fin; clear fin
  have bn := (lockB_iff.1 h2).2.1
  obtain ⟨bn0, bn1⟩ := bn
  go_enter Tryd.func17, Tryd.ntmps17
  go_wp2_with fail
  generalize hW0 : ((w.alloc (.cells #[.int .i64 ps, .int .i64 pc] 36)).alloc (.cells #[.int .i64 s, .int .i64 n, .int .i64 t, .int .i64 p, .int .i64 u] 25)) = w0
  have b0 : Below w.heap.size w w0 := by rw [← hW0]; exact bthen (balloc _ _) (balloc _ _)
  have k2 : Has w0 w.heap.size 36 #[.int .i64 ps, .int .i64 pc] := by rw [← hW0]; exact has_alloc (has_new _ _ _) _
  have k3 : Has w0 (w.heap.size + 1) 25 #[.int .i64 s, .int .i64 n, .int .i64 t, .int .i64 p, .int .i64 u] := by rw [← hW0]; have := has_new (w.alloc (.cells #[.int .i64 ps, .int .i64 pc] 36)) 25 #[.int .i64 s, .int .i64 n, .int .i64 t, .int .i64 p, .int .i64 u]; simpa using this
  clear hW0
  refine (padI_any w0 ps pc).mono ?_
  rintro e w1 ⟨rfl, hb1⟩
  rw [h1]
  have c1 := bthen b0 hb1
  have m2 := has_call k2 hb1; have m3 := has_call k3 hb1
  have e0 := has_cell m2 0 rfl
  have e1 := has_cell m2 1 rfl
  have f0 := has_cell m3 0 rfl
  have f1 := has_cell m3 1 rfl
  have f2 := has_cell m3 2 rfl
  have f3 := has_cell m3 3 rfl
  have f4 := has_cell m3 4 rfl
  have lt2 := has_lt m2; have lt3 := has_lt m3
  have M2 := Lib.hid m2; have M3 := Lib.hid m3; have C1 := Lib.hid c1; clear m2 m3 k2 k3 c1 b0 hb1
  go_wp2_with fail
  refine (lockI_any _ s n t p u).mono ?_
  rintro e w2 ⟨rfl, hb2⟩
  rw [h2]
  have c2 := bthen C1.out hb2
  clear e0 e1 f0 f1 f2 f3 f4 lt2 lt3
  have m2 := has_call M2.out hb2; have m3 := has_call M3.out hb2
  have e0 := has_cell m2 0 rfl
  have e1 := has_cell m2 1 rfl
  have f0 := has_cell m3 0 rfl
  have f1 := has_cell m3 1 rfl
  have f2 := has_cell m3 2 rfl
  have f3 := has_cell m3 3 rfl
  have f4 := has_cell m3 4 rfl
  have lt2 := has_lt m2; have lt3 := has_lt m3
  have C2 := Lib.hid c2; clear m2 m3 c2 hb2
  go_wp2_with fail
  refine (countI_any _ _).mono ?_; rintro e w' ⟨rfl, rfl⟩; rw [h4]
  go_wp2_with fail
  go_ret
  exact ⟨rbool FIN.out, C2.out⟩
theorem canI_any (w : World) (ps pc s n t p u : Int) : Calls Tryd.prog 17 #[.agg #[.int .i64 ps, .int .i64 pc], .agg #[.int .i64 s, .int .i64 n, .int .i64 t, .int .i64 p, .int .i64 u]] w fun e w' => e = .returned (.bool (canB ps pc s n t p u)) ∧ Below w.heap.size w w' := by
  cases h1 : padB ps pc
  · exact canI_1f w ps pc s n t p u h1
  cases h2 : lockB s n t p u
  · exact canI_2f w ps pc s n t p u h1 h2
  cases h3 : ps == s
  · exact canI_3f w ps pc s n t p u h1 h2 h3
  cases h4 : cntB3 pc
  · exact canI_4f w ps pc s n t p u h1 h2 h3 h4
  cases h5 : decide (n ≤ pc)
  · exact canI_5f w ps pc s n t p u h1 h2 h3 h4 h5
  cases h6 : decide (pc < n + 5)
  · exact canI_6f w ps pc s n t p u h1 h2 h3 h4 h5 h6
  · exact canI_6t w ps pc s n t p u h1 h2 h3 h4 h5 h6
end Go.Proofs.YtjpafmkmpnibgabDoor
