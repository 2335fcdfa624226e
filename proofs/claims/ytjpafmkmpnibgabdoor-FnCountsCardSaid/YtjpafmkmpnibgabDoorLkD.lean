/- Chapter 3: the drawing of a lock. -/
import Derived.Test.YtjpafmkmpnibgabDoorLckD
import Derived.Test.YtjpafmkmpnibgabDoorPla
import Derived.Test.YtjpafmkmpnibgabDoorTryA
namespace Go.Proofs.YtjpafmkmpnibgabDoor
open Go.RowKit
set_option linter.unusedVariables false

def DrL (s n t p u : Int) : Prop := (1 ≤ s ∧ s ≤ 100000) ∧ (0 ≤ n ∧ n ≤ 999999) ∧ (0 ≤ t ∧ t ≤ 2) ∧ (0 ≤ p ∧ p ≤ 6) ∧ (0 ≤ u ∧ u ≤ 29)
theorem DrL.lock {s n t p u : Int} (h : DrL s n t p u) : lockB s n t p u = true := by unfold DrL at h; rw [lockB_iff]; omega
theorem Cur.bel {w w' : World} {B g : Nat} (h : Cur w B g) (hb : Below w.heap.size w w') : Cur w' B g := h.only fun k hk _ => hb.block k hk
theorem only_setn {a w : World} {g k : Nat} (h : Only a g w) (hk : a.heap.size ≤ k) (i : Nat) (u : Value) : Only a g (w.setCell ⟨k, i, none⟩ u) :=
  ⟨h.os, h.tape, h.output, by rw [size_set]; exact h.size, fun j hj hne => (Below.heap_setCell w ⟨k, i, none⟩ u j (by show j ≠ k; omega)).trans (h.block j hj hne)⟩
theorem Cur.setn {w : World} {B g k : Nat} (h : Cur w B g) (hk : B ≤ k) (hne : k ≠ g) (i : Nat) (u : Value) : Cur (w.setCell ⟨k, i, none⟩ u) B g := h.only fun j hj hjg => Below.heap_setCell w ⟨k, i, none⟩ u j (by show j ≠ k; omega)
set_option maxRecDepth 100000 in
set_option maxHeartbeats 4000000 in
theorem lkD_any (w : World) (B g : Nat) (hC : Cur w B g) :
    Calls Tryd.prog 21 #[.pointer (some ⟨g, 0, none⟩)] w fun e w' => ∃ s n t p u : Int, e = .returned (.agg #[.int .i64 s, .int .i64 n, .int .i64 t, .int .i64 p, .int .i64 u]) ∧ DrL s n t p u ∧ Cur w' B g ∧ Only w g w' := by
  have hlt := hC.lt
  obtain ⟨hB, hg⟩ := hlt
  have HC := Lib.hid hC; clear hC
  go_enter Tryd.func21, Tryd.ntmps21
  go_wp2_with fail
  generalize hW0 : (w.alloc _) = w0
  have C0 := Lib.hid (show Cur w0 B g by rw [← hW0]; exact HC.out.alloc hB _)
  have O0 := Lib.hid (show Only w g w0 by rw [← hW0]; exact only_alloc g _)
  have R0 := Lib.hid (show Has w0 w.heap.size 25 #[.int .i64 0, .int .i64 0, .int .i64 0, .int .i64 0, .int .i64 0] by rw [← hW0]; exact has_new _ _ _)
  have z0 : w0.heap.size = w.heap.size + 1 := by rw [← hW0]; simp
  clear hW0
  refine (below_any w0 B g 100000 (by omega) (by omega) C0.out).mono ?_
  rintro e w1 ⟨x, hx0, hx1, rfl, hC1, ho1⟩
  have C1 := Lib.hid hC1; have O1 := Lib.hid (only_trans O0.out ho1); have R1 := Lib.hid (has_only R0.out ho1 (by omega)); have z1 := ho1.size
  clear hC1 ho1 C0 O0 R0
  have hsec : secB (1 + x) = true := secB_iff.2 ⟨by omega, by omega⟩
  have HN := Lib.hid (newK_yes hsec); clear hsec
  go_wp2_with fail
  refine (newKS_any w1 (1 + x)).mono ?_
  rintro e w2 ⟨rfl, hb2⟩
  rw [HN.out]
  have C2 := Lib.hid (C1.out.bel hb2); have O2 := Lib.hid (only_trans O1.out (only_of_below hb2)); have R2 := Lib.hid (has_call R1.out hb2); have z2 := hb2.size
  clear hb2 C1 O1 R1
  go_wp2_with fail
  generalize hW3 : (w2.alloc (.cells #[.int .i64 (1 + x), .int .i64 0, .int .i64 0, .int .i64 0, .int .i64 0] 25)) = w3
  have hb3 : Below w2.heap.size w2 w3 := by rw [← hW3]; exact balloc _ _
  have K3 := Lib.hid (show Has w3 w2.heap.size 25 #[.int .i64 (1 + x), .int .i64 0, .int .i64 0, .int .i64 0, .int .i64 0] by rw [← hW3]; exact has_new _ _ _)
  have z3 : w3.heap.size = w2.heap.size + 1 := by rw [← hW3]; simp
  clear hW3
  have C3 := Lib.hid (C2.out.bel hb3); have O3 := Lib.hid (only_trans O2.out (only_of_below hb3)); have R3 := Lib.hid (has_call R2.out hb3)
  clear hb3 C2 O2 R2
  generalize hW4 : (w3.alloc _) = w4
  have hb4 : Below w3.heap.size w3 w4 := by rw [← hW4]; exact balloc _ _
  have L4 := Lib.hid (show Has w4 w3.heap.size 3 #[.int .i64 0, .int .i64 0, .int .i64 3, .int .i64 10, .int .i64 999990, .int .i64 999999] by rw [← hW4]; exact has_new _ _ _)
  clear hW4
  have C4 := Lib.hid (C3.out.bel hb4); have O4 := Lib.hid (only_trans O3.out (only_of_below hb4)); have R4 := Lib.hid (has_call R3.out hb4); have K4 := Lib.hid (has_call K3.out hb4); have z4 := hb4.size
  clear hb4 C3 O3 R3 K3
  try rw [← z3]
  refine (pickInt_any w4 B g w3.heap.size 6 _ 0 999999 C4.out L4.out rfl (by omega) (by omega) (by omega) ?_).mono ?_
  · intro k hk
    rcases k with _ | _ | _ | _ | _ | _ | k
    all_goals first | exact ⟨_, by decide, by decide, rfl⟩ | omega
  rintro e w5 ⟨y, hy0, hy1, rfl, hC5, ho5⟩
  have C5 := Lib.hid hC5; have O5 := Lib.hid (only_trans O4.out ho5); have R5 := Lib.hid (has_only R4.out ho5 (by omega)); have k5 := has_only K4.out ho5 (by omega); have z5 := ho5.size
  clear hC5 ho5 C4 O4 R4 K4 L4
  have e1 := has_cell k5 1 rfl; have f1 := has_free k5 1; have lt5 := has_lt k5
  have K5 := Lib.hid (show Has (w5.setCell ⟨w2.heap.size, 1, none⟩ (.int .i64 y)) w2.heap.size 25 #[.int .i64 (1 + x), .int .i64 y, .int .i64 0, .int .i64 0, .int .i64 0] by simpa using has_set k5 1 (.int .i64 y))
  clear k5
  go_wp2_with fail
  clear e1 f1
  generalize hW6 : w5.setCell ⟨w2.heap.size, 1, none⟩ (.int .i64 y) = w6 at *
  have C6 := Lib.hid (show Cur w6 B g by rw [← hW6]; exact C5.out.setn (by omega) (by omega) _ _)
  have O6 := Lib.hid (show Only w g w6 by rw [← hW6]; exact only_setn O5.out (by omega) _ _)
  have R6 := Lib.hid (show Has w6 w.heap.size 25 #[.int .i64 0, .int .i64 0, .int .i64 0, .int .i64 0, .int .i64 0] by rw [← hW6]; exact has_far R5.out (by show w.heap.size ≠ w2.heap.size; omega) _)
  have z6 : w6.heap.size = w5.heap.size := by rw [← hW6]; exact size_set _ _ _
  clear hW6 C5 O5 R5
  refine (below_any w6 B g 3 (by omega) (by omega) C6.out).mono ?_
  rintro e w7 ⟨a, ha0, ha1, rfl, hC7, ho7⟩
  have C7 := Lib.hid hC7; have O7 := Lib.hid (only_trans O6.out ho7); have R7 := Lib.hid (has_only R6.out ho7 (by omega)); have k7 := has_only K5.out ho7 (by omega); have z7 := ho7.size
  clear hC7 ho7 C6 O6 R6 K5
  have e1 := has_cell k7 2 rfl; have f1 := has_free k7 2
  have K7 := Lib.hid (show Has (w7.setCell ⟨w2.heap.size, 2, none⟩ (.int .i64 a)) w2.heap.size 25 #[.int .i64 (1 + x), .int .i64 y, .int .i64 a, .int .i64 0, .int .i64 0] by simpa using has_set k7 2 (.int .i64 a))
  clear k7
  go_wp2_with fail
  clear e1 f1
  generalize hW8 : w7.setCell ⟨w2.heap.size, 2, none⟩ (.int .i64 a) = w8 at *
  have C8 := Lib.hid (show Cur w8 B g by rw [← hW8]; exact C7.out.setn (by omega) (by omega) _ _)
  have O8 := Lib.hid (show Only w g w8 by rw [← hW8]; exact only_setn O7.out (by omega) _ _)
  have R8 := Lib.hid (show Has w8 w.heap.size 25 #[.int .i64 0, .int .i64 0, .int .i64 0, .int .i64 0, .int .i64 0] by rw [← hW8]; exact has_far R7.out (by show w.heap.size ≠ w2.heap.size; omega) _)
  have z8 : w8.heap.size = w7.heap.size := by rw [← hW8]; exact size_set _ _ _
  clear hW8 C7 O7 R7
  refine (below_any w8 B g 7 (by omega) (by omega) C8.out).mono ?_
  rintro e w9 ⟨b, hb0, hb1, rfl, hC9, ho9⟩
  have C9 := Lib.hid hC9; have O9 := Lib.hid (only_trans O8.out ho9); have R9 := Lib.hid (has_only R8.out ho9 (by omega)); have k9 := has_only K7.out ho9 (by omega); have z9 := ho9.size
  clear hC9 ho9 C8 O8 R8 K7
  have e1 := has_cell k9 3 rfl; have f1 := has_free k9 3
  have K9 := Lib.hid (show Has (w9.setCell ⟨w2.heap.size, 3, none⟩ (.int .i64 b)) w2.heap.size 25 #[.int .i64 (1 + x), .int .i64 y, .int .i64 a, .int .i64 b, .int .i64 0] by simpa using has_set k9 3 (.int .i64 b))
  clear k9
  go_wp2_with fail
  clear e1 f1
  generalize hW10 : w9.setCell ⟨w2.heap.size, 3, none⟩ (.int .i64 b) = w10 at *
  have C10 := Lib.hid (show Cur w10 B g by rw [← hW10]; exact C9.out.setn (by omega) (by omega) _ _)
  have O10 := Lib.hid (show Only w g w10 by rw [← hW10]; exact only_setn O9.out (by omega) _ _)
  have R10 := Lib.hid (show Has w10 w.heap.size 25 #[.int .i64 0, .int .i64 0, .int .i64 0, .int .i64 0, .int .i64 0] by rw [← hW10]; exact has_far R9.out (by show w.heap.size ≠ w2.heap.size; omega) _)
  have z10 : w10.heap.size = w9.heap.size := by rw [← hW10]; exact size_set _ _ _
  clear hW10 C9 O9 R9
  refine (once_any w10 B g 3 (by omega) (by omega) C10.out).mono ?_
  rintro e w11 ⟨q, rfl, hC11, ho11⟩
  have C11 := Lib.hid hC11; have O11 := Lib.hid (only_trans O10.out ho11); have R11 := Lib.hid (has_only R10.out ho11 (by omega)); have k11 := has_only K9.out ho11 (by omega); have z11 := ho11.size
  clear hC11 ho11 C10 O10 R10 K9
  cases q
  · have e0 := has_cell k11 0 rfl; have e1 := has_cell k11 1 rfl; have e2 := has_cell k11 2 rfl; have e3 := has_cell k11 3 rfl; have e4 := has_cell k11 4 rfl
    have lt11 := has_lt k11
    have r0 := has_cell R11.out 0 rfl; have r1 := has_cell R11.out 1 rfl; have r2 := has_cell R11.out 2 rfl; have r3 := has_cell R11.out 3 rfl; have r4 := has_cell R11.out 4 rfl
    have f0 := has_free R11.out 0; have f1 := has_free R11.out 1; have f2 := has_free R11.out 2; have f3 := has_free R11.out 3; have f4 := has_free R11.out 4
    have ltr := has_lt R11.out
    have X := Lib.hid (show Has (((((w11.setCell ⟨w.heap.size, 0, none⟩ (.int .i64 (1 + x))).setCell ⟨w.heap.size, 1, none⟩ (.int .i64 y)).setCell ⟨w.heap.size, 2, none⟩ (.int .i64 a)).setCell ⟨w.heap.size, 3, none⟩ (.int .i64 b)).setCell ⟨w.heap.size, 4, none⟩ (.int .i64 0)) w.heap.size 25 #[.int .i64 (1 + x), .int .i64 y, .int .i64 a, .int .i64 b, .int .i64 0] by simpa using has_set (has_set (has_set (has_set (has_set R11.out 0 (.int .i64 (1 + x))) 1 (.int .i64 y)) 2 (.int .i64 a)) 3 (.int .i64 b)) 4 (.int .i64 0))
    clear k11
    go_wp2_with fail
    have g0 := has_cell X.out 0 rfl; have g1 := has_cell X.out 1 rfl; have g2 := has_cell X.out 2 rfl; have g3 := has_cell X.out 3 rfl; have g4 := has_cell X.out 4 rfl
    refine bodyPost_ret (v := .agg #[.int .i64 (1 + x), .int .i64 y, .int .i64 a, .int .i64 b, .int .i64 0]) (by simp [results, Tryd.results21, go_sem, g0, g1, g2, g3, g4]) rfl ⟨_, _, _, _, _, rfl, by unfold DrL; omega, ?_, ?_⟩
    · exact ((((C11.out.setn hB (by omega) _ _).setn hB (by omega) _ _).setn hB (by omega) _ _).setn hB (by omega) _ _).setn hB (by omega) _ _
    · exact only_setn (only_setn (only_setn (only_setn (only_setn O11.out (Nat.le_refl _) _ _) (Nat.le_refl _) _ _) (Nat.le_refl _) _ _) (Nat.le_refl _) _ _) (Nat.le_refl _) _ _
  · have K11 := Lib.hid k11; clear k11
    go_wp2_with fail
    refine (below_any w11 B g 30 (by omega) (by omega) C11.out).mono ?_
    rintro e w12 ⟨d, hd0, hd1, rfl, hC12, ho12⟩
    have C12 := Lib.hid hC12; have O12 := Lib.hid (only_trans O11.out ho12); have R12 := Lib.hid (has_only R11.out ho12 (by omega)); have k12 := has_only K11.out ho12 (by omega); have z12 := ho12.size
    clear hC12 ho12 C11 O11 R11 K11
    have e1 := has_cell k12 4 rfl; have f1 := has_free k12 4
    have k13 : Has (w12.setCell ⟨w2.heap.size, 4, none⟩ (.int .i64 d)) w2.heap.size 25 #[.int .i64 (1 + x), .int .i64 y, .int .i64 a, .int .i64 b, .int .i64 d] := by simpa using has_set k12 4 (.int .i64 d)
    have R13 := has_far R12.out (p := ⟨w2.heap.size, 4, none⟩) (by show w.heap.size ≠ w2.heap.size; omega) (.int .i64 d)
    have lt12 := has_lt k12
    clear k12
    have e0 := has_cell k13 0 rfl; have e1' := has_cell k13 1 rfl; have e2 := has_cell k13 2 rfl; have e3 := has_cell k13 3 rfl; have e4 := has_cell k13 4 rfl
    have r0 := has_cell R13 0 rfl; have r1 := has_cell R13 1 rfl; have r2 := has_cell R13 2 rfl; have r3 := has_cell R13 3 rfl; have r4 := has_cell R13 4 rfl
    have f0 := has_free R13 0; have f1' := has_free R13 1; have f2 := has_free R13 2; have f3 := has_free R13 3; have f4 := has_free R13 4
    have ltr := has_lt R13
    have X := Lib.hid (show Has ((((((w12.setCell ⟨w2.heap.size, 4, none⟩ (.int .i64 d)).setCell ⟨w.heap.size, 0, none⟩ (.int .i64 (1 + x))).setCell ⟨w.heap.size, 1, none⟩ (.int .i64 y)).setCell ⟨w.heap.size, 2, none⟩ (.int .i64 a)).setCell ⟨w.heap.size, 3, none⟩ (.int .i64 b)).setCell ⟨w.heap.size, 4, none⟩ (.int .i64 d)) w.heap.size 25 #[.int .i64 (1 + x), .int .i64 y, .int .i64 a, .int .i64 b, .int .i64 d] by simpa using has_set (has_set (has_set (has_set (has_set R13 0 (.int .i64 (1 + x))) 1 (.int .i64 y)) 2 (.int .i64 a)) 3 (.int .i64 b)) 4 (.int .i64 d))
    have HR := Lib.hid R13
    clear k13 R13
    go_wp2_with fail
    have g0 := has_cell X.out 0 rfl; have g1 := has_cell X.out 1 rfl; have g2 := has_cell X.out 2 rfl; have g3 := has_cell X.out 3 rfl; have g4 := has_cell X.out 4 rfl
    refine bodyPost_ret (v := .agg #[.int .i64 (1 + x), .int .i64 y, .int .i64 a, .int .i64 b, .int .i64 d]) (by simp [results, Tryd.results21, go_sem, g0, g1, g2, g3, g4]) rfl ⟨_, _, _, _, _, rfl, by unfold DrL; omega, ?_, ?_⟩
    · exact (((((C12.out.setn (by omega) (by omega) _ _).setn hB (by omega) _ _).setn hB (by omega) _ _).setn hB (by omega) _ _).setn hB (by omega) _ _).setn hB (by omega) _ _
    · exact only_setn (only_setn (only_setn (only_setn (only_setn (only_setn O12.out (by omega) _ _) (Nat.le_refl _) _ _) (Nat.le_refl _) _ _) (Nat.le_refl _) _ _) (Nat.le_refl _) _ _) (Nat.le_refl _) _ _

set_option maxRecDepth 100000 in
set_option maxHeartbeats 1000000 in
theorem drawLock_any (w : World) (A : Option Addr) (n c : Nat) (hn : n ≤ maxLen) (hS : BS w w.heap.size A n) :
    Calls Tryd.prog 7 #[.slice A n c] w fun e w' => ∃ s m t p u : Int, e = .returned (.agg #[.int .i64 s, .int .i64 m, .int .i64 t, .int .i64 p, .int .i64 u]) ∧ DrL s m t p u ∧ Below w.heap.size w w' := by
  have HS := Lib.hid hS; clear hS
  go_enter Tryd.func7, Tryd.ntmps7
  go_wp2_with fail
  generalize hW0 : (w.alloc _) = w0
  have hb0 : Below w.heap.size w w0 := by rw [← hW0]; exact balloc _ _
  have R0 := Lib.hid (show Has w0 w.heap.size 25 #[.int .i64 0, .int .i64 0, .int .i64 0, .int .i64 0, .int .i64 0] by rw [← hW0]; exact has_new _ _ _)
  clear hW0
  refine (new_any w0 w.heap.size A n c hn hb0.size (HS.out.below hb0)).mono ?_
  rintro e w1 ⟨rfl, hC1, hb1⟩
  have R1 := Lib.hid (has_call R0.out hb1); have B1 := Lib.hid (bthen hb0 hb1); have C1 := Lib.hid hC1; have z0 := has_lt R0.out
  clear hb0 hb1 hC1 R0
  go_wp2_with fail
  refine (lkD_any w1 w.heap.size w0.heap.size C1.out).mono ?_
  rintro e w2 ⟨s, m, t, p, u, rfl, hD, hC2, ho2⟩
  have HD := Lib.hid hD; have R2 := Lib.hid (has_only R1.out ho2 (by omega)); have B2 := Lib.hid (B1.out.trans (only_below ho2 B1.out.size (by omega)))
  clear hD hC2 ho2 R1 B1 C1
  have r0 := has_cell R2.out 0 rfl; have r1 := has_cell R2.out 1 rfl; have r2 := has_cell R2.out 2 rfl; have r3 := has_cell R2.out 3 rfl; have r4 := has_cell R2.out 4 rfl
  have f0 := has_free R2.out 0; have f1 := has_free R2.out 1; have f2 := has_free R2.out 2; have f3 := has_free R2.out 3; have f4 := has_free R2.out 4
  have ltr := has_lt R2.out
  have X := Lib.hid (show Has (((((w2.setCell ⟨w.heap.size, 0, none⟩ (.int .i64 s)).setCell ⟨w.heap.size, 1, none⟩ (.int .i64 m)).setCell ⟨w.heap.size, 2, none⟩ (.int .i64 t)).setCell ⟨w.heap.size, 3, none⟩ (.int .i64 p)).setCell ⟨w.heap.size, 4, none⟩ (.int .i64 u)) w.heap.size 25 #[.int .i64 s, .int .i64 m, .int .i64 t, .int .i64 p, .int .i64 u] by simpa using has_set (has_set (has_set (has_set (has_set R2.out 0 (.int .i64 s)) 1 (.int .i64 m)) 2 (.int .i64 t)) 3 (.int .i64 p)) 4 (.int .i64 u))
  go_wp2_with fail
  have g0 := has_cell X.out 0 rfl; have g1 := has_cell X.out 1 rfl; have g2 := has_cell X.out 2 rfl; have g3 := has_cell X.out 3 rfl; have g4 := has_cell X.out 4 rfl
  refine bodyPost_ret (v := .agg #[.int .i64 s, .int .i64 m, .int .i64 t, .int .i64 p, .int .i64 u]) (by simp [results, Tryd.results7, go_sem, g0, g1, g2, g3, g4]) rfl ⟨_, _, _, _, _, rfl, HD.out, ?_⟩
  exact ((((B2.out.setCell (Nat.le_refl _) _).setCell (Nat.le_refl _) _).setCell (Nat.le_refl _) _).setCell (Nat.le_refl _) _).setCell (Nat.le_refl _) _
end Go.Proofs.YtjpafmkmpnibgabDoor
