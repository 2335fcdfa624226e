
/- Chapter 8: contracts of EventOk, mayFollow and JournalOk, both sides (gen_eva.py). -/
import Derived.Test.YtjpkpfmpjgeeiaaGreatQ14
import Derived.Test.YtjpkpfmpjgeeiaaGreatQ27
namespace Go.Proofs.YtjpkpfmpjgeeiaaGreat
open Go.RowKit
set_option linter.unusedVariables false

theorem nodI_any (w : World) (x : Int) : Calls Tryz.prog 139 #[.int .i64 x] w fun e w' => e = .returned (.bool (inR x 0 5)) ∧ w' = w := by
  go_enter Tryz.func139, Tryz.ntmps139
  go_wp2
  all_goals (go_ret; exact ⟨rbool (by simp_all [inR] <;> omega), rfl⟩)
theorem evB_iff {e : Ev} : evB e = true ↔ (0 ≤ e.nod ∧ e.nod ≤ 5) ∧ (1 ≤ e.seq ∧ e.seq ≤ 999) ∧ (1 ≤ e.stm ∧ e.stm ≤ 100000) ∧ (1 ≤ e.knd ∧ e.knd ≤ 4) ∧ (1 ≤ e.par ∧ e.par ≤ 999) ∧ (0 ≤ e.aa ∧ e.aa ≤ 20000) ∧ (0 ≤ e.bb ∧ e.bb ≤ 20000) := by
  simp only [evB, Bool.and_eq_true, inR_iff, and_assoc]
set_option maxRecDepth 100000 in
set_option maxHeartbeats 2000000 in
theorem evI_any_1f (w : World) (x0 : Int) (x1 : Int) (x2 : Int) (x3 : Int) (x4 : Int) (x5 : Int) (x6 : Int) (h1 : (inR x0 0 5) = false) :
    Calls Tryz.prog 111 #[.agg #[.int .i64 x0, .int .i64 x1, .int .i64 x2, .int .i64 x3, .int .i64 x4, .int .i64 x5, .int .i64 x6]] w fun e w' => e = .returned (.bool ((evB ⟨x0, x1, x2, x3, x4, x5, x6⟩))) ∧ Below w.heap.size w w' := by
  have hv : ((evB ⟨x0, x1, x2, x3, x4, x5, x6⟩)) = false := by
    clear w; rw [Bool.eq_false_iff]; intro hv; rw [evB_iff] at hv; simp [inR, timB] at h1 hv; omega
  have HV := Lib.hid hv; clear hv
  have H1 := Lib.hid h1; clear h1
  go_enter Tryz.func111, Tryz.ntmps111
  go_wp2_with (first | (go_at_call 139; refine (nodI_any _ _).mono ?_; rintro e w1 ⟨rfl, hw⟩; rw [hw]; clear hw; rw [H1.out]))
  go_ret
  exact ⟨rbool (by have hv := HV.out; first | exact hv.symm | (rw [hv]; simp; omega) | (rw [hv]; simp)), balloc _ _⟩
set_option maxRecDepth 100000 in
set_option maxHeartbeats 2000000 in
theorem evI_any_2f (w : World) (x0 : Int) (x1 : Int) (x2 : Int) (x3 : Int) (x4 : Int) (x5 : Int) (x6 : Int) (h1 : (inR x0 0 5) = true) (h2 : (decide (1 ≤ x1)) = false) :
    Calls Tryz.prog 111 #[.agg #[.int .i64 x0, .int .i64 x1, .int .i64 x2, .int .i64 x3, .int .i64 x4, .int .i64 x5, .int .i64 x6]] w fun e w' => e = .returned (.bool ((evB ⟨x0, x1, x2, x3, x4, x5, x6⟩))) ∧ Below w.heap.size w w' := by
  have hv : ((evB ⟨x0, x1, x2, x3, x4, x5, x6⟩)) = false := by
    clear w; rw [Bool.eq_false_iff]; intro hv; rw [evB_iff] at hv; simp [inR, timB] at h1 h2 hv; omega
  have HV := Lib.hid hv; clear hv
  have H1 := Lib.hid h1; clear h1
  have g2 : ¬ (1 ≤ x1) := by simpa using h2
  clear h2
  go_enter Tryz.func111, Tryz.ntmps111
  go_wp2_with (first | (go_at_call 139; refine (nodI_any _ _).mono ?_; rintro e w1 ⟨rfl, hw⟩; rw [hw]; clear hw; rw [H1.out]))
  go_ret
  exact ⟨rbool (by have hv := HV.out; first | exact hv.symm | (rw [hv]; simp; omega) | (rw [hv]; simp)), balloc _ _⟩
set_option maxRecDepth 100000 in
set_option maxHeartbeats 2000000 in
theorem evI_any_3f (w : World) (x0 : Int) (x1 : Int) (x2 : Int) (x3 : Int) (x4 : Int) (x5 : Int) (x6 : Int) (h1 : (inR x0 0 5) = true) (h2 : (decide (1 ≤ x1)) = true) (h3 : (decide (x1 ≤ 999)) = false) :
    Calls Tryz.prog 111 #[.agg #[.int .i64 x0, .int .i64 x1, .int .i64 x2, .int .i64 x3, .int .i64 x4, .int .i64 x5, .int .i64 x6]] w fun e w' => e = .returned (.bool ((evB ⟨x0, x1, x2, x3, x4, x5, x6⟩))) ∧ Below w.heap.size w w' := by
  have hv : ((evB ⟨x0, x1, x2, x3, x4, x5, x6⟩)) = false := by
    clear w; rw [Bool.eq_false_iff]; intro hv; rw [evB_iff] at hv; simp [inR, timB] at h1 h2 h3 hv; omega
  have HV := Lib.hid hv; clear hv
  have H1 := Lib.hid h1; clear h1
  have g2 : (1 ≤ x1) := by simpa using h2
  clear h2
  have g3 : ¬ (x1 ≤ 999) := by simpa using h3
  clear h3
  go_enter Tryz.func111, Tryz.ntmps111
  go_wp2_with (first | (go_at_call 139; refine (nodI_any _ _).mono ?_; rintro e w1 ⟨rfl, hw⟩; rw [hw]; clear hw; rw [H1.out]))
  go_ret
  exact ⟨rbool (by have hv := HV.out; first | exact hv.symm | (rw [hv]; simp; omega) | (rw [hv]; simp)), balloc _ _⟩
set_option maxRecDepth 100000 in
set_option maxHeartbeats 2000000 in
theorem evI_any_4f (w : World) (x0 : Int) (x1 : Int) (x2 : Int) (x3 : Int) (x4 : Int) (x5 : Int) (x6 : Int) (h1 : (inR x0 0 5) = true) (h2 : (decide (1 ≤ x1)) = true) (h3 : (decide (x1 ≤ 999)) = true) (h4 : (decide (1 ≤ x2)) = false) :
    Calls Tryz.prog 111 #[.agg #[.int .i64 x0, .int .i64 x1, .int .i64 x2, .int .i64 x3, .int .i64 x4, .int .i64 x5, .int .i64 x6]] w fun e w' => e = .returned (.bool ((evB ⟨x0, x1, x2, x3, x4, x5, x6⟩))) ∧ Below w.heap.size w w' := by
  have hv : ((evB ⟨x0, x1, x2, x3, x4, x5, x6⟩)) = false := by
    clear w; rw [Bool.eq_false_iff]; intro hv; rw [evB_iff] at hv; simp [inR, timB] at h1 h2 h3 h4 hv; omega
  have HV := Lib.hid hv; clear hv
  have H1 := Lib.hid h1; clear h1
  have g2 : (1 ≤ x1) := by simpa using h2
  clear h2
  have g3 : (x1 ≤ 999) := by simpa using h3
  clear h3
  have g4 : ¬ (1 ≤ x2) := by simpa using h4
  clear h4
  go_enter Tryz.func111, Tryz.ntmps111
  go_wp2_with (first | (go_at_call 139; refine (nodI_any _ _).mono ?_; rintro e w1 ⟨rfl, hw⟩; rw [hw]; clear hw; rw [H1.out]))
  go_ret
  exact ⟨rbool (by have hv := HV.out; first | exact hv.symm | (rw [hv]; simp; omega) | (rw [hv]; simp)), balloc _ _⟩
set_option maxRecDepth 100000 in
set_option maxHeartbeats 2000000 in
theorem evI_any_5f (w : World) (x0 : Int) (x1 : Int) (x2 : Int) (x3 : Int) (x4 : Int) (x5 : Int) (x6 : Int) (h1 : (inR x0 0 5) = true) (h2 : (decide (1 ≤ x1)) = true) (h3 : (decide (x1 ≤ 999)) = true) (h4 : (decide (1 ≤ x2)) = true) (h5 : (decide (x2 ≤ 100000)) = false) :
    Calls Tryz.prog 111 #[.agg #[.int .i64 x0, .int .i64 x1, .int .i64 x2, .int .i64 x3, .int .i64 x4, .int .i64 x5, .int .i64 x6]] w fun e w' => e = .returned (.bool ((evB ⟨x0, x1, x2, x3, x4, x5, x6⟩))) ∧ Below w.heap.size w w' := by
  have hv : ((evB ⟨x0, x1, x2, x3, x4, x5, x6⟩)) = false := by
    clear w; rw [Bool.eq_false_iff]; intro hv; rw [evB_iff] at hv; simp [inR, timB] at h1 h2 h3 h4 h5 hv; omega
  have HV := Lib.hid hv; clear hv
  have H1 := Lib.hid h1; clear h1
  have g2 : (1 ≤ x1) := by simpa using h2
  clear h2
  have g3 : (x1 ≤ 999) := by simpa using h3
  clear h3
  have g4 : (1 ≤ x2) := by simpa using h4
  clear h4
  have g5 : ¬ (x2 ≤ 100000) := by simpa using h5
  clear h5
  go_enter Tryz.func111, Tryz.ntmps111
  go_wp2_with (first | (go_at_call 139; refine (nodI_any _ _).mono ?_; rintro e w1 ⟨rfl, hw⟩; rw [hw]; clear hw; rw [H1.out]))
  go_ret
  exact ⟨rbool (by have hv := HV.out; first | exact hv.symm | (rw [hv]; simp; omega) | (rw [hv]; simp)), balloc _ _⟩
set_option maxRecDepth 100000 in
set_option maxHeartbeats 2000000 in
theorem evI_any_6f (w : World) (x0 : Int) (x1 : Int) (x2 : Int) (x3 : Int) (x4 : Int) (x5 : Int) (x6 : Int) (h1 : (inR x0 0 5) = true) (h2 : (decide (1 ≤ x1)) = true) (h3 : (decide (x1 ≤ 999)) = true) (h4 : (decide (1 ≤ x2)) = true) (h5 : (decide (x2 ≤ 100000)) = true) (h6 : (decide (1 ≤ x3)) = false) :
    Calls Tryz.prog 111 #[.agg #[.int .i64 x0, .int .i64 x1, .int .i64 x2, .int .i64 x3, .int .i64 x4, .int .i64 x5, .int .i64 x6]] w fun e w' => e = .returned (.bool ((evB ⟨x0, x1, x2, x3, x4, x5, x6⟩))) ∧ Below w.heap.size w w' := by
  have hv : ((evB ⟨x0, x1, x2, x3, x4, x5, x6⟩)) = false := by
    clear w; rw [Bool.eq_false_iff]; intro hv; rw [evB_iff] at hv; simp [inR, timB] at h1 h2 h3 h4 h5 h6 hv; omega
  have HV := Lib.hid hv; clear hv
  have H1 := Lib.hid h1; clear h1
  have g2 : (1 ≤ x1) := by simpa using h2
  clear h2
  have g3 : (x1 ≤ 999) := by simpa using h3
  clear h3
  have g4 : (1 ≤ x2) := by simpa using h4
  clear h4
  have g5 : (x2 ≤ 100000) := by simpa using h5
  clear h5
  have g6 : ¬ (1 ≤ x3) := by simpa using h6
  clear h6
  go_enter Tryz.func111, Tryz.ntmps111
  go_wp2_with (first | (go_at_call 139; refine (nodI_any _ _).mono ?_; rintro e w1 ⟨rfl, hw⟩; rw [hw]; clear hw; rw [H1.out]))
  go_ret
  exact ⟨rbool (by have hv := HV.out; first | exact hv.symm | (rw [hv]; simp; omega) | (rw [hv]; simp)), balloc _ _⟩
set_option maxRecDepth 100000 in
set_option maxHeartbeats 2000000 in
theorem evI_any_7f (w : World) (x0 : Int) (x1 : Int) (x2 : Int) (x3 : Int) (x4 : Int) (x5 : Int) (x6 : Int) (h1 : (inR x0 0 5) = true) (h2 : (decide (1 ≤ x1)) = true) (h3 : (decide (x1 ≤ 999)) = true) (h4 : (decide (1 ≤ x2)) = true) (h5 : (decide (x2 ≤ 100000)) = true) (h6 : (decide (1 ≤ x3)) = true) (h7 : (decide (x3 ≤ 4)) = false) :
    Calls Tryz.prog 111 #[.agg #[.int .i64 x0, .int .i64 x1, .int .i64 x2, .int .i64 x3, .int .i64 x4, .int .i64 x5, .int .i64 x6]] w fun e w' => e = .returned (.bool ((evB ⟨x0, x1, x2, x3, x4, x5, x6⟩))) ∧ Below w.heap.size w w' := by
  have hv : ((evB ⟨x0, x1, x2, x3, x4, x5, x6⟩)) = false := by
    clear w; rw [Bool.eq_false_iff]; intro hv; rw [evB_iff] at hv; simp [inR, timB] at h1 h2 h3 h4 h5 h6 h7 hv; omega
  have HV := Lib.hid hv; clear hv
  have H1 := Lib.hid h1; clear h1
  have g2 : (1 ≤ x1) := by simpa using h2
  clear h2
  have g3 : (x1 ≤ 999) := by simpa using h3
  clear h3
  have g4 : (1 ≤ x2) := by simpa using h4
  clear h4
  have g5 : (x2 ≤ 100000) := by simpa using h5
  clear h5
  have g6 : (1 ≤ x3) := by simpa using h6
  clear h6
  have g7 : ¬ (x3 ≤ 4) := by simpa using h7
  clear h7
  go_enter Tryz.func111, Tryz.ntmps111
  go_wp2_with (first | (go_at_call 139; refine (nodI_any _ _).mono ?_; rintro e w1 ⟨rfl, hw⟩; rw [hw]; clear hw; rw [H1.out]))
  go_ret
  exact ⟨rbool (by have hv := HV.out; first | exact hv.symm | (rw [hv]; simp; omega) | (rw [hv]; simp)), balloc _ _⟩
set_option maxRecDepth 100000 in
set_option maxHeartbeats 2000000 in
theorem evI_any_8f (w : World) (x0 : Int) (x1 : Int) (x2 : Int) (x3 : Int) (x4 : Int) (x5 : Int) (x6 : Int) (h1 : (inR x0 0 5) = true) (h2 : (decide (1 ≤ x1)) = true) (h3 : (decide (x1 ≤ 999)) = true) (h4 : (decide (1 ≤ x2)) = true) (h5 : (decide (x2 ≤ 100000)) = true) (h6 : (decide (1 ≤ x3)) = true) (h7 : (decide (x3 ≤ 4)) = true) (h8 : (inR x4 1 999) = false) :
    Calls Tryz.prog 111 #[.agg #[.int .i64 x0, .int .i64 x1, .int .i64 x2, .int .i64 x3, .int .i64 x4, .int .i64 x5, .int .i64 x6]] w fun e w' => e = .returned (.bool ((evB ⟨x0, x1, x2, x3, x4, x5, x6⟩))) ∧ Below w.heap.size w w' := by
  have hv : ((evB ⟨x0, x1, x2, x3, x4, x5, x6⟩)) = false := by
    clear w; rw [Bool.eq_false_iff]; intro hv; rw [evB_iff] at hv; simp [inR, timB] at h1 h2 h3 h4 h5 h6 h7 h8 hv; omega
  have HV := Lib.hid hv; clear hv
  have H1 := Lib.hid h1; clear h1
  have g2 : (1 ≤ x1) := by simpa using h2
  clear h2
  have g3 : (x1 ≤ 999) := by simpa using h3
  clear h3
  have g4 : (1 ≤ x2) := by simpa using h4
  clear h4
  have g5 : (x2 ≤ 100000) := by simpa using h5
  clear h5
  have g6 : (1 ≤ x3) := by simpa using h6
  clear h6
  have g7 : (x3 ≤ 4) := by simpa using h7
  clear h7
  have H8 := Lib.hid h8; clear h8
  go_enter Tryz.func111, Tryz.ntmps111
  go_wp2_with (first | (go_at_call 139; refine (nodI_any _ _).mono ?_; rintro e w1 ⟨rfl, hw⟩; rw [hw]; clear hw; rw [H1.out]) | (go_at_call 140; refine (parI_any _ _).mono ?_; rintro e w1 ⟨rfl, hw⟩; rw [hw]; clear hw; rw [H8.out]))
  go_ret
  exact ⟨rbool (by have hv := HV.out; first | exact hv.symm | (rw [hv]; simp; omega) | (rw [hv]; simp)), balloc _ _⟩
set_option maxRecDepth 100000 in
set_option maxHeartbeats 2000000 in
theorem evI_any_9f (w : World) (x0 : Int) (x1 : Int) (x2 : Int) (x3 : Int) (x4 : Int) (x5 : Int) (x6 : Int) (h1 : (inR x0 0 5) = true) (h2 : (decide (1 ≤ x1)) = true) (h3 : (decide (x1 ≤ 999)) = true) (h4 : (decide (1 ≤ x2)) = true) (h5 : (decide (x2 ≤ 100000)) = true) (h6 : (decide (1 ≤ x3)) = true) (h7 : (decide (x3 ≤ 4)) = true) (h8 : (inR x4 1 999) = true) (h9 : (timB x5) = false) :
    Calls Tryz.prog 111 #[.agg #[.int .i64 x0, .int .i64 x1, .int .i64 x2, .int .i64 x3, .int .i64 x4, .int .i64 x5, .int .i64 x6]] w fun e w' => e = .returned (.bool ((evB ⟨x0, x1, x2, x3, x4, x5, x6⟩))) ∧ Below w.heap.size w w' := by
  have hv : ((evB ⟨x0, x1, x2, x3, x4, x5, x6⟩)) = false := by
    clear w; rw [Bool.eq_false_iff]; intro hv; rw [evB_iff] at hv; simp [inR, timB] at h1 h2 h3 h4 h5 h6 h7 h8 h9 hv; omega
  have HV := Lib.hid hv; clear hv
  have H1 := Lib.hid h1; clear h1
  have g2 : (1 ≤ x1) := by simpa using h2
  clear h2
  have g3 : (x1 ≤ 999) := by simpa using h3
  clear h3
  have g4 : (1 ≤ x2) := by simpa using h4
  clear h4
  have g5 : (x2 ≤ 100000) := by simpa using h5
  clear h5
  have g6 : (1 ≤ x3) := by simpa using h6
  clear h6
  have g7 : (x3 ≤ 4) := by simpa using h7
  clear h7
  have H8 := Lib.hid h8; clear h8
  have H9 := Lib.hid h9; clear h9
  go_enter Tryz.func111, Tryz.ntmps111
  go_wp2_with (first | (go_at_call 139; refine (nodI_any _ _).mono ?_; rintro e w1 ⟨rfl, hw⟩; rw [hw]; clear hw; rw [H1.out]) | (go_at_call 140; refine (parI_any _ _).mono ?_; rintro e w1 ⟨rfl, hw⟩; rw [hw]; clear hw; rw [H8.out]) | (go_at_call 76; refine (timI_any _ _).mono ?_; rintro e w1 ⟨rfl, hw⟩; rw [hw]; clear hw; rw [H9.out]))
  go_ret
  exact ⟨rbool (by have hv := HV.out; first | exact hv.symm | (rw [hv]; simp; omega) | (rw [hv]; simp)), balloc _ _⟩
set_option maxRecDepth 100000 in
set_option maxHeartbeats 2000000 in
theorem evI_any_10f (w : World) (x0 : Int) (x1 : Int) (x2 : Int) (x3 : Int) (x4 : Int) (x5 : Int) (x6 : Int) (h1 : (inR x0 0 5) = true) (h2 : (decide (1 ≤ x1)) = true) (h3 : (decide (x1 ≤ 999)) = true) (h4 : (decide (1 ≤ x2)) = true) (h5 : (decide (x2 ≤ 100000)) = true) (h6 : (decide (1 ≤ x3)) = true) (h7 : (decide (x3 ≤ 4)) = true) (h8 : (inR x4 1 999) = true) (h9 : (timB x5) = true) (h10 : (timB x6) = false) :
    Calls Tryz.prog 111 #[.agg #[.int .i64 x0, .int .i64 x1, .int .i64 x2, .int .i64 x3, .int .i64 x4, .int .i64 x5, .int .i64 x6]] w fun e w' => e = .returned (.bool ((evB ⟨x0, x1, x2, x3, x4, x5, x6⟩))) ∧ Below w.heap.size w w' := by
  have hv : ((evB ⟨x0, x1, x2, x3, x4, x5, x6⟩)) = false := by
    clear w; rw [Bool.eq_false_iff]; intro hv; rw [evB_iff] at hv; simp [inR, timB] at h1 h2 h3 h4 h5 h6 h7 h8 h9 h10 hv; omega
  have HV := Lib.hid hv; clear hv
  have H1 := Lib.hid h1; clear h1
  have g2 : (1 ≤ x1) := by simpa using h2
  clear h2
  have g3 : (x1 ≤ 999) := by simpa using h3
  clear h3
  have g4 : (1 ≤ x2) := by simpa using h4
  clear h4
  have g5 : (x2 ≤ 100000) := by simpa using h5
  clear h5
  have g6 : (1 ≤ x3) := by simpa using h6
  clear h6
  have g7 : (x3 ≤ 4) := by simpa using h7
  clear h7
  have H8 := Lib.hid h8; clear h8
  have H9 := Lib.hid h9; clear h9
  have H10 := Lib.hid h10; clear h10
  go_enter Tryz.func111, Tryz.ntmps111
  go_wp2_with (first | (go_at_call 139; refine (nodI_any _ _).mono ?_; rintro e w1 ⟨rfl, hw⟩; rw [hw]; clear hw; rw [H1.out]) | (go_at_call 140; refine (parI_any _ _).mono ?_; rintro e w1 ⟨rfl, hw⟩; rw [hw]; clear hw; rw [H8.out]) | (go_at_call 76; refine (timI_any _ _).mono ?_; rintro e w1 ⟨rfl, hw⟩; rw [hw]; clear hw; first | rw [H9.out] | rw [H10.out]))
  go_ret
  exact ⟨rbool (by have hv := HV.out; first | exact hv.symm | (rw [hv]; simp; omega) | (rw [hv]; simp)), balloc _ _⟩
set_option maxRecDepth 100000 in
set_option maxHeartbeats 2000000 in
theorem evI_any_10t (w : World) (x0 : Int) (x1 : Int) (x2 : Int) (x3 : Int) (x4 : Int) (x5 : Int) (x6 : Int) (h1 : (inR x0 0 5) = true) (h2 : (decide (1 ≤ x1)) = true) (h3 : (decide (x1 ≤ 999)) = true) (h4 : (decide (1 ≤ x2)) = true) (h5 : (decide (x2 ≤ 100000)) = true) (h6 : (decide (1 ≤ x3)) = true) (h7 : (decide (x3 ≤ 4)) = true) (h8 : (inR x4 1 999) = true) (h9 : (timB x5) = true) (h10 : (timB x6) = true) :
    Calls Tryz.prog 111 #[.agg #[.int .i64 x0, .int .i64 x1, .int .i64 x2, .int .i64 x3, .int .i64 x4, .int .i64 x5, .int .i64 x6]] w fun e w' => e = .returned (.bool ((evB ⟨x0, x1, x2, x3, x4, x5, x6⟩))) ∧ Below w.heap.size w w' := by
  have hv : ((evB ⟨x0, x1, x2, x3, x4, x5, x6⟩)) = true := by
    clear w; rw [evB_iff]; simp [inR, timB] at h1 h2 h3 h4 h5 h6 h7 h8 h9 h10 ⊢; omega
  have HV := Lib.hid hv; clear hv
  have H1 := Lib.hid h1; clear h1
  have g2 : (1 ≤ x1) := by simpa using h2
  clear h2
  have g3 : (x1 ≤ 999) := by simpa using h3
  clear h3
  have g4 : (1 ≤ x2) := by simpa using h4
  clear h4
  have g5 : (x2 ≤ 100000) := by simpa using h5
  clear h5
  have g6 : (1 ≤ x3) := by simpa using h6
  clear h6
  have g7 : (x3 ≤ 4) := by simpa using h7
  clear h7
  have H8 := Lib.hid h8; clear h8
  have H9 := Lib.hid h9; clear h9
  have H10 := Lib.hid h10; clear h10
  go_enter Tryz.func111, Tryz.ntmps111
  go_wp2_with (first | (go_at_call 139; refine (nodI_any _ _).mono ?_; rintro e w1 ⟨rfl, hw⟩; rw [hw]; clear hw; rw [H1.out]) | (go_at_call 140; refine (parI_any _ _).mono ?_; rintro e w1 ⟨rfl, hw⟩; rw [hw]; clear hw; rw [H8.out]) | (go_at_call 76; refine (timI_any _ _).mono ?_; rintro e w1 ⟨rfl, hw⟩; rw [hw]; clear hw; first | rw [H9.out] | rw [H10.out]))
  go_ret
  exact ⟨rbool (by have hv := HV.out; first | exact hv.symm | (rw [hv]; simp; omega) | (rw [hv]; simp)), balloc _ _⟩
theorem evI_any (w : World) (x0 : Int) (x1 : Int) (x2 : Int) (x3 : Int) (x4 : Int) (x5 : Int) (x6 : Int) : Calls Tryz.prog 111 #[.agg #[.int .i64 x0, .int .i64 x1, .int .i64 x2, .int .i64 x3, .int .i64 x4, .int .i64 x5, .int .i64 x6]] w fun e w' => e = .returned (.bool ((evB ⟨x0, x1, x2, x3, x4, x5, x6⟩))) ∧ Below w.heap.size w w' := by
  cases h1 : inR x0 0 5
  · exact evI_any_1f w x0 x1 x2 x3 x4 x5 x6 h1
  cases h2 : decide (1 ≤ x1)
  · exact evI_any_2f w x0 x1 x2 x3 x4 x5 x6 h1 h2
  cases h3 : decide (x1 ≤ 999)
  · exact evI_any_3f w x0 x1 x2 x3 x4 x5 x6 h1 h2 h3
  cases h4 : decide (1 ≤ x2)
  · exact evI_any_4f w x0 x1 x2 x3 x4 x5 x6 h1 h2 h3 h4
  cases h5 : decide (x2 ≤ 100000)
  · exact evI_any_5f w x0 x1 x2 x3 x4 x5 x6 h1 h2 h3 h4 h5
  cases h6 : decide (1 ≤ x3)
  · exact evI_any_6f w x0 x1 x2 x3 x4 x5 x6 h1 h2 h3 h4 h5 h6
  cases h7 : decide (x3 ≤ 4)
  · exact evI_any_7f w x0 x1 x2 x3 x4 x5 x6 h1 h2 h3 h4 h5 h6 h7
  cases h8 : inR x4 1 999
  · exact evI_any_8f w x0 x1 x2 x3 x4 x5 x6 h1 h2 h3 h4 h5 h6 h7 h8
  cases h9 : timB x5
  · exact evI_any_9f w x0 x1 x2 x3 x4 x5 x6 h1 h2 h3 h4 h5 h6 h7 h8 h9
  cases h10 : timB x6
  · exact evI_any_10f w x0 x1 x2 x3 x4 x5 x6 h1 h2 h3 h4 h5 h6 h7 h8 h9 h10
  · exact evI_any_10t w x0 x1 x2 x3 x4 x5 x6 h1 h2 h3 h4 h5 h6 h7 h8 h9 h10
set_option maxRecDepth 100000 in
set_option maxHeartbeats 2000000 in
theorem evS_any_1f (w : World) (x0 : Int) (x1 : Int) (x2 : Int) (x3 : Int) (x4 : Int) (x5 : Int) (x6 : Int) (h1 : (inR x0 0 5) = false) :
    Calls Tryz.prog 61 #[.agg #[.int .i64 x0, .int .i64 x1, .int .i64 x2, .int .i64 x3, .int .i64 x4, .int .i64 x5, .int .i64 x6]] w fun e w' => e = .returned (.bool ((evB ⟨x0, x1, x2, x3, x4, x5, x6⟩))) ∧ Below w.heap.size w w' := by
  have hv : ((evB ⟨x0, x1, x2, x3, x4, x5, x6⟩)) = false := by
    clear w; rw [Bool.eq_false_iff]; intro hv; rw [evB_iff] at hv; simp [inR, timB] at h1 hv; omega
  have HV := Lib.hid hv; clear hv
  have H1 := Lib.hid h1; clear h1
  go_enter Tryz.func61, Tryz.ntmps61
  go_wp2_with (first | (go_at_call 33; refine (inR_any _ _ _ _).mono ?_; rintro e w1 ⟨rfl, hw⟩; rw [hw]; clear hw; rw [H1.out]))
  go_ret
  exact ⟨rbool (by have hv := HV.out; first | exact hv.symm | (rw [hv]; simp; omega) | (rw [hv]; simp)), balloc _ _⟩
set_option maxRecDepth 100000 in
set_option maxHeartbeats 2000000 in
theorem evS_any_2f (w : World) (x0 : Int) (x1 : Int) (x2 : Int) (x3 : Int) (x4 : Int) (x5 : Int) (x6 : Int) (h1 : (inR x0 0 5) = true) (h2 : (inR x1 1 999) = false) :
    Calls Tryz.prog 61 #[.agg #[.int .i64 x0, .int .i64 x1, .int .i64 x2, .int .i64 x3, .int .i64 x4, .int .i64 x5, .int .i64 x6]] w fun e w' => e = .returned (.bool ((evB ⟨x0, x1, x2, x3, x4, x5, x6⟩))) ∧ Below w.heap.size w w' := by
  have hv : ((evB ⟨x0, x1, x2, x3, x4, x5, x6⟩)) = false := by
    clear w; rw [Bool.eq_false_iff]; intro hv; rw [evB_iff] at hv; simp [inR, timB] at h1 h2 hv; omega
  have HV := Lib.hid hv; clear hv
  have H1 := Lib.hid h1; clear h1
  have H2 := Lib.hid h2; clear h2
  go_enter Tryz.func61, Tryz.ntmps61
  go_wp2_with (first | (go_at_call 33; refine (inR_any _ _ _ _).mono ?_; rintro e w1 ⟨rfl, hw⟩; rw [hw]; clear hw; first | rw [H1.out] | rw [H2.out]))
  go_ret
  exact ⟨rbool (by have hv := HV.out; first | exact hv.symm | (rw [hv]; simp; omega) | (rw [hv]; simp)), balloc _ _⟩
set_option maxRecDepth 100000 in
set_option maxHeartbeats 2000000 in
theorem evS_any_3f (w : World) (x0 : Int) (x1 : Int) (x2 : Int) (x3 : Int) (x4 : Int) (x5 : Int) (x6 : Int) (h1 : (inR x0 0 5) = true) (h2 : (inR x1 1 999) = true) (h3 : (inR x2 1 100000) = false) :
    Calls Tryz.prog 61 #[.agg #[.int .i64 x0, .int .i64 x1, .int .i64 x2, .int .i64 x3, .int .i64 x4, .int .i64 x5, .int .i64 x6]] w fun e w' => e = .returned (.bool ((evB ⟨x0, x1, x2, x3, x4, x5, x6⟩))) ∧ Below w.heap.size w w' := by
  have hv : ((evB ⟨x0, x1, x2, x3, x4, x5, x6⟩)) = false := by
    clear w; rw [Bool.eq_false_iff]; intro hv; rw [evB_iff] at hv; simp [inR, timB] at h1 h2 h3 hv; omega
  have HV := Lib.hid hv; clear hv
  have H1 := Lib.hid h1; clear h1
  have H2 := Lib.hid h2; clear h2
  have H3 := Lib.hid h3; clear h3
  go_enter Tryz.func61, Tryz.ntmps61
  go_wp2_with (first | (go_at_call 33; refine (inR_any _ _ _ _).mono ?_; rintro e w1 ⟨rfl, hw⟩; rw [hw]; clear hw; first | rw [H1.out] | rw [H2.out] | rw [H3.out]))
  go_ret
  exact ⟨rbool (by have hv := HV.out; first | exact hv.symm | (rw [hv]; simp; omega) | (rw [hv]; simp)), balloc _ _⟩
set_option maxRecDepth 100000 in
set_option maxHeartbeats 2000000 in
theorem evS_any_4f (w : World) (x0 : Int) (x1 : Int) (x2 : Int) (x3 : Int) (x4 : Int) (x5 : Int) (x6 : Int) (h1 : (inR x0 0 5) = true) (h2 : (inR x1 1 999) = true) (h3 : (inR x2 1 100000) = true) (h4 : (inR x3 1 4) = false) :
    Calls Tryz.prog 61 #[.agg #[.int .i64 x0, .int .i64 x1, .int .i64 x2, .int .i64 x3, .int .i64 x4, .int .i64 x5, .int .i64 x6]] w fun e w' => e = .returned (.bool ((evB ⟨x0, x1, x2, x3, x4, x5, x6⟩))) ∧ Below w.heap.size w w' := by
  have hv : ((evB ⟨x0, x1, x2, x3, x4, x5, x6⟩)) = false := by
    clear w; rw [Bool.eq_false_iff]; intro hv; rw [evB_iff] at hv; simp [inR, timB] at h1 h2 h3 h4 hv; omega
  have HV := Lib.hid hv; clear hv
  have H1 := Lib.hid h1; clear h1
  have H2 := Lib.hid h2; clear h2
  have H3 := Lib.hid h3; clear h3
  have H4 := Lib.hid h4; clear h4
  go_enter Tryz.func61, Tryz.ntmps61
  go_wp2_with (first | (go_at_call 33; refine (inR_any _ _ _ _).mono ?_; rintro e w1 ⟨rfl, hw⟩; rw [hw]; clear hw; first | rw [H1.out] | rw [H2.out] | rw [H3.out] | rw [H4.out]))
  go_ret
  exact ⟨rbool (by have hv := HV.out; first | exact hv.symm | (rw [hv]; simp; omega) | (rw [hv]; simp)), balloc _ _⟩
set_option maxRecDepth 100000 in
set_option maxHeartbeats 2000000 in
theorem evS_any_5f (w : World) (x0 : Int) (x1 : Int) (x2 : Int) (x3 : Int) (x4 : Int) (x5 : Int) (x6 : Int) (h1 : (inR x0 0 5) = true) (h2 : (inR x1 1 999) = true) (h3 : (inR x2 1 100000) = true) (h4 : (inR x3 1 4) = true) (h5 : (inR x4 1 999) = false) :
    Calls Tryz.prog 61 #[.agg #[.int .i64 x0, .int .i64 x1, .int .i64 x2, .int .i64 x3, .int .i64 x4, .int .i64 x5, .int .i64 x6]] w fun e w' => e = .returned (.bool ((evB ⟨x0, x1, x2, x3, x4, x5, x6⟩))) ∧ Below w.heap.size w w' := by
  have hv : ((evB ⟨x0, x1, x2, x3, x4, x5, x6⟩)) = false := by
    clear w; rw [Bool.eq_false_iff]; intro hv; rw [evB_iff] at hv; simp [inR, timB] at h1 h2 h3 h4 h5 hv; omega
  have HV := Lib.hid hv; clear hv
  have H1 := Lib.hid h1; clear h1
  have H2 := Lib.hid h2; clear h2
  have H3 := Lib.hid h3; clear h3
  have H4 := Lib.hid h4; clear h4
  have H5 := Lib.hid h5; clear h5
  go_enter Tryz.func61, Tryz.ntmps61
  go_wp2_with (first | (go_at_call 33; refine (inR_any _ _ _ _).mono ?_; rintro e w1 ⟨rfl, hw⟩; rw [hw]; clear hw; first | rw [H1.out] | rw [H2.out] | rw [H3.out] | rw [H4.out] | rw [H5.out]))
  go_ret
  exact ⟨rbool (by have hv := HV.out; first | exact hv.symm | (rw [hv]; simp; omega) | (rw [hv]; simp)), balloc _ _⟩
set_option maxRecDepth 100000 in
set_option maxHeartbeats 2000000 in
theorem evS_any_6f (w : World) (x0 : Int) (x1 : Int) (x2 : Int) (x3 : Int) (x4 : Int) (x5 : Int) (x6 : Int) (h1 : (inR x0 0 5) = true) (h2 : (inR x1 1 999) = true) (h3 : (inR x2 1 100000) = true) (h4 : (inR x3 1 4) = true) (h5 : (inR x4 1 999) = true) (h6 : (inR x5 0 20000) = false) :
    Calls Tryz.prog 61 #[.agg #[.int .i64 x0, .int .i64 x1, .int .i64 x2, .int .i64 x3, .int .i64 x4, .int .i64 x5, .int .i64 x6]] w fun e w' => e = .returned (.bool ((evB ⟨x0, x1, x2, x3, x4, x5, x6⟩))) ∧ Below w.heap.size w w' := by
  have hv : ((evB ⟨x0, x1, x2, x3, x4, x5, x6⟩)) = false := by
    clear w; rw [Bool.eq_false_iff]; intro hv; rw [evB_iff] at hv; simp [inR, timB] at h1 h2 h3 h4 h5 h6 hv; omega
  have HV := Lib.hid hv; clear hv
  have H1 := Lib.hid h1; clear h1
  have H2 := Lib.hid h2; clear h2
  have H3 := Lib.hid h3; clear h3
  have H4 := Lib.hid h4; clear h4
  have H5 := Lib.hid h5; clear h5
  have H6 := Lib.hid h6; clear h6
  go_enter Tryz.func61, Tryz.ntmps61
  go_wp2_with (first | (go_at_call 33; refine (inR_any _ _ _ _).mono ?_; rintro e w1 ⟨rfl, hw⟩; rw [hw]; clear hw; first | rw [H1.out] | rw [H2.out] | rw [H3.out] | rw [H4.out] | rw [H5.out] | rw [H6.out]))
  go_ret
  exact ⟨rbool (by have hv := HV.out; first | exact hv.symm | (rw [hv]; simp; omega) | (rw [hv]; simp)), balloc _ _⟩
set_option maxRecDepth 100000 in
set_option maxHeartbeats 2000000 in
theorem evS_any_7f (w : World) (x0 : Int) (x1 : Int) (x2 : Int) (x3 : Int) (x4 : Int) (x5 : Int) (x6 : Int) (h1 : (inR x0 0 5) = true) (h2 : (inR x1 1 999) = true) (h3 : (inR x2 1 100000) = true) (h4 : (inR x3 1 4) = true) (h5 : (inR x4 1 999) = true) (h6 : (inR x5 0 20000) = true) (h7 : (inR x6 0 20000) = false) :
    Calls Tryz.prog 61 #[.agg #[.int .i64 x0, .int .i64 x1, .int .i64 x2, .int .i64 x3, .int .i64 x4, .int .i64 x5, .int .i64 x6]] w fun e w' => e = .returned (.bool ((evB ⟨x0, x1, x2, x3, x4, x5, x6⟩))) ∧ Below w.heap.size w w' := by
  have hv : ((evB ⟨x0, x1, x2, x3, x4, x5, x6⟩)) = false := by
    clear w; rw [Bool.eq_false_iff]; intro hv; rw [evB_iff] at hv; simp [inR, timB] at h1 h2 h3 h4 h5 h6 h7 hv; omega
  have HV := Lib.hid hv; clear hv
  have H1 := Lib.hid h1; clear h1
  have H2 := Lib.hid h2; clear h2
  have H3 := Lib.hid h3; clear h3
  have H4 := Lib.hid h4; clear h4
  have H5 := Lib.hid h5; clear h5
  have H6 := Lib.hid h6; clear h6
  have H7 := Lib.hid h7; clear h7
  go_enter Tryz.func61, Tryz.ntmps61
  go_wp2_with (first | (go_at_call 33; refine (inR_any _ _ _ _).mono ?_; rintro e w1 ⟨rfl, hw⟩; rw [hw]; clear hw; first | rw [H1.out] | rw [H2.out] | rw [H3.out] | rw [H4.out] | rw [H5.out] | rw [H6.out] | rw [H7.out]))
  go_ret
  exact ⟨rbool (by have hv := HV.out; first | exact hv.symm | (rw [hv]; simp; omega) | (rw [hv]; simp)), balloc _ _⟩
set_option maxRecDepth 100000 in
set_option maxHeartbeats 2000000 in
theorem evS_any_7t (w : World) (x0 : Int) (x1 : Int) (x2 : Int) (x3 : Int) (x4 : Int) (x5 : Int) (x6 : Int) (h1 : (inR x0 0 5) = true) (h2 : (inR x1 1 999) = true) (h3 : (inR x2 1 100000) = true) (h4 : (inR x3 1 4) = true) (h5 : (inR x4 1 999) = true) (h6 : (inR x5 0 20000) = true) (h7 : (inR x6 0 20000) = true) :
    Calls Tryz.prog 61 #[.agg #[.int .i64 x0, .int .i64 x1, .int .i64 x2, .int .i64 x3, .int .i64 x4, .int .i64 x5, .int .i64 x6]] w fun e w' => e = .returned (.bool ((evB ⟨x0, x1, x2, x3, x4, x5, x6⟩))) ∧ Below w.heap.size w w' := by
  have hv : ((evB ⟨x0, x1, x2, x3, x4, x5, x6⟩)) = true := by
    clear w; rw [evB_iff]; simp [inR, timB] at h1 h2 h3 h4 h5 h6 h7 ⊢; omega
  have HV := Lib.hid hv; clear hv
  have H1 := Lib.hid h1; clear h1
  have H2 := Lib.hid h2; clear h2
  have H3 := Lib.hid h3; clear h3
  have H4 := Lib.hid h4; clear h4
  have H5 := Lib.hid h5; clear h5
  have H6 := Lib.hid h6; clear h6
  have H7 := Lib.hid h7; clear h7
  go_enter Tryz.func61, Tryz.ntmps61
  go_wp2_with (first | (go_at_call 33; refine (inR_any _ _ _ _).mono ?_; rintro e w1 ⟨rfl, hw⟩; rw [hw]; clear hw; first | rw [H1.out] | rw [H2.out] | rw [H3.out] | rw [H4.out] | rw [H5.out] | rw [H6.out] | rw [H7.out]))
  go_ret
  exact ⟨rbool (by have hv := HV.out; first | exact hv.symm | (rw [hv]; simp; omega) | (rw [hv]; simp)), balloc _ _⟩
theorem evS_any (w : World) (x0 : Int) (x1 : Int) (x2 : Int) (x3 : Int) (x4 : Int) (x5 : Int) (x6 : Int) : Calls Tryz.prog 61 #[.agg #[.int .i64 x0, .int .i64 x1, .int .i64 x2, .int .i64 x3, .int .i64 x4, .int .i64 x5, .int .i64 x6]] w fun e w' => e = .returned (.bool ((evB ⟨x0, x1, x2, x3, x4, x5, x6⟩))) ∧ Below w.heap.size w w' := by
  cases h1 : inR x0 0 5
  · exact evS_any_1f w x0 x1 x2 x3 x4 x5 x6 h1
  cases h2 : inR x1 1 999
  · exact evS_any_2f w x0 x1 x2 x3 x4 x5 x6 h1 h2
  cases h3 : inR x2 1 100000
  · exact evS_any_3f w x0 x1 x2 x3 x4 x5 x6 h1 h2 h3
  cases h4 : inR x3 1 4
  · exact evS_any_4f w x0 x1 x2 x3 x4 x5 x6 h1 h2 h3 h4
  cases h5 : inR x4 1 999
  · exact evS_any_5f w x0 x1 x2 x3 x4 x5 x6 h1 h2 h3 h4 h5
  cases h6 : inR x5 0 20000
  · exact evS_any_6f w x0 x1 x2 x3 x4 x5 x6 h1 h2 h3 h4 h5 h6
  cases h7 : inR x6 0 20000
  · exact evS_any_7f w x0 x1 x2 x3 x4 x5 x6 h1 h2 h3 h4 h5 h6 h7
  · exact evS_any_7t w x0 x1 x2 x3 x4 x5 x6 h1 h2 h3 h4 h5 h6 h7
set_option maxRecDepth 100000 in
set_option maxHeartbeats 2000000 in
theorem folI_any (w : World) (y0 y1 y2 y3 y4 y5 y6 x0 x1 x2 x3 x4 x5 x6 : Int) : Calls Tryz.prog 112 #[.agg #[.int .i64 y0, .int .i64 y1, .int .i64 y2, .int .i64 y3, .int .i64 y4, .int .i64 y5, .int .i64 y6], .agg #[.int .i64 x0, .int .i64 x1, .int .i64 x2, .int .i64 x3, .int .i64 x4, .int .i64 x5, .int .i64 x6]] w fun e w' => e = .returned (.bool (folB ⟨y0, y1, y2, y3, y4, y5, y6⟩ ⟨x0, x1, x2, x3, x4, x5, x6⟩)) ∧ Below w.heap.size w w' := by
  go_enter Tryz.func112, Tryz.ntmps112
  go_wp2
  all_goals (go_ret; exact ⟨rbool (by rw [Bool.eq_iff_iff, folB_iff]; dsimp only; (try simp only [decide_eq_true_eq, Bool.false_eq_true, true_iff, false_iff]); omega), (balloc _ _).alloc (by simp) _⟩)
theorem evL.two {w : World} {B : Nat} {A : Option Addr} {l : List Ev} (h : evL w B A l) {k j : Nat} (hk : k < l.length) (hj : j < l.length) :
    ∃ b off x y, A = some ⟨b, off, none⟩ ∧ b < B ∧ l[k]? = some x ∧ l[j]? = some y ∧ (w.cell? ⟨b, off + k * 7, none⟩ = some (.int .i64 x.nod) ∧ w.cell? ⟨b, off + k * 7 + 1, none⟩ = some (.int .i64 x.seq) ∧ w.cell? ⟨b, off + k * 7 + 2, none⟩ = some (.int .i64 x.stm) ∧ w.cell? ⟨b, off + k * 7 + 3, none⟩ = some (.int .i64 x.knd) ∧ w.cell? ⟨b, off + k * 7 + 4, none⟩ = some (.int .i64 x.par) ∧ w.cell? ⟨b, off + k * 7 + 5, none⟩ = some (.int .i64 x.aa) ∧ w.cell? ⟨b, off + k * 7 + 6, none⟩ = some (.int .i64 x.bb)) ∧ (w.cell? ⟨b, off + j * 7, none⟩ = some (.int .i64 y.nod) ∧ w.cell? ⟨b, off + j * 7 + 1, none⟩ = some (.int .i64 y.seq) ∧ w.cell? ⟨b, off + j * 7 + 2, none⟩ = some (.int .i64 y.stm) ∧ w.cell? ⟨b, off + j * 7 + 3, none⟩ = some (.int .i64 y.knd) ∧ w.cell? ⟨b, off + j * 7 + 4, none⟩ = some (.int .i64 y.par) ∧ w.cell? ⟨b, off + j * 7 + 5, none⟩ = some (.int .i64 y.aa) ∧ w.cell? ⟨b, off + j * 7 + 6, none⟩ = some (.int .i64 y.bb)) := by
  rcases h with h | ⟨b, off, rfl, hlt, hc⟩
  · subst h; simp at hk
  · exact ⟨b, off, _, _, rfl, hlt, List.getElem?_eq_getElem hk, List.getElem?_eq_getElem hj, hc k _ (List.getElem?_eq_getElem hk), hc j _ (List.getElem?_eq_getElem hj)⟩
end Go.Proofs.YtjpkpfmpjgeeiaaGreat
