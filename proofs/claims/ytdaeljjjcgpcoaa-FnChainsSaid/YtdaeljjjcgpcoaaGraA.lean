/- Chapter 5: contracts of the functions that ask whether a grant is valid or applies, both sides (gen_gra.py). -/
import Derived.Test.YtdaeljjjcgpcoaaGraR
namespace Go.Proofs.Ytdaeljjjcgpcoaa
open Go.RowKit
set_option linter.unusedVariables false

set_option maxHeartbeats 1000000 in
theorem inR_any (w : World) (x a b : Int) : Calls Try.prog 37 #[.int .i64 x, .int .i64 a, .int .i64 b] w fun e w' => e = .returned (.bool (inR x a b)) ∧ w' = w := by
  go_enter Try.func37, Try.ntmps37
  go_wp2
  all_goals (go_ret; exact ⟨rbool (by simp_all [inR] <;> omega), rfl⟩)
set_option maxHeartbeats 1000000 in
theorem perI_any (w : World) (x : Int) : Calls Try.prog 15 #[.int .i64 x] w fun e w' => e = .returned (.bool (perB x)) ∧ w' = w := by
  go_enter Try.func15, Try.ntmps15
  go_wp2
  all_goals (go_ret; exact ⟨rbool (by simp_all [perB, inR] <;> omega), rfl⟩)
set_option maxHeartbeats 1000000 in
theorem timI_any (w : World) (x : Int) : Calls Try.prog 17 #[.int .i64 x] w fun e w' => e = .returned (.bool (timB x)) ∧ w' = w := by
  go_enter Try.func17, Try.ntmps17
  go_wp2
  all_goals (go_ret; exact ⟨rbool (by simp_all [timB, inR] <;> omega), rfl⟩)
set_option maxHeartbeats 1000000 in
theorem parI_any (w : World) (x : Int) : Calls Try.prog 16 #[.int .i64 x] w fun e w' => e = .returned (.bool (inR x 1 999)) ∧ w' = w := by
  go_enter Try.func16, Try.ntmps16
  go_wp2
  all_goals (go_ret; exact ⟨rbool (by simp_all [inR] <;> omega), rfl⟩)
theorem perS_any (w : World) (x : Int) : Calls Try.prog 36 #[.int .i64 x] w fun e w' => e = .returned (.bool (perB x)) ∧ w' = w := by
  go_enter Try.func36, Try.ntmps36
  go_wp2_with (refine (inR_any _ _ _ _).mono ?_; rintro e w1 ⟨rfl, hw⟩; rw [hw]; clear hw)
  go_ret
  exact ⟨rfl, rfl⟩
theorem timS_any (w : World) (x : Int) : Calls Try.prog 38 #[.int .i64 x] w fun e w' => e = .returned (.bool (timB x)) ∧ w' = w := by
  go_enter Try.func38, Try.ntmps38
  go_wp2_with (refine (inR_any _ _ _ _).mono ?_; rintro e w1 ⟨rfl, hw⟩; rw [hw]; clear hw)
  go_ret
  exact ⟨rfl, rfl⟩
set_option maxRecDepth 100000 in
set_option maxHeartbeats 2000000 in
theorem grantI_any_1f (w : World) (f : Int) (t : Int) (p : Int) (d : Int) (s : Int) (u : Int) (o : Bool) (h1 : (perB f) = false) :
    Calls Try.prog 27 #[.agg #[.int .i64 f, .int .i64 t, .int .i64 p, .int .i64 d, .int .i64 s, .int .i64 u, .bool o]] w fun e w' => e = .returned (.bool ((grantB ⟨f, t, p, d, s, u, o⟩))) ∧ Below w.heap.size w w' := by
  have hv : ((grantB ⟨f, t, p, d, s, u, o⟩)) = false := by simp [grantB, inR, h1]
  have HV := Lib.hid hv; clear hv
  have H1 := Lib.hid h1; clear h1
  go_enter Try.func27, Try.ntmps27
  go_wp2_with (first | (go_at_call 15; refine (perI_any _ _).mono ?_; rintro e w1 ⟨rfl, hw⟩; rw [hw]; clear hw; rw [H1.out]))
  go_ret
  exact ⟨rbool (by have hv := HV.out; first | exact hv.symm | (rw [hv]; simp; omega) | (rw [hv]; simp)), balloc _ _⟩
set_option maxRecDepth 100000 in
set_option maxHeartbeats 2000000 in
theorem grantI_any_2f (w : World) (f : Int) (t : Int) (p : Int) (d : Int) (s : Int) (u : Int) (o : Bool) (h1 : (perB f) = true) (h2 : (perB t) = false) :
    Calls Try.prog 27 #[.agg #[.int .i64 f, .int .i64 t, .int .i64 p, .int .i64 d, .int .i64 s, .int .i64 u, .bool o]] w fun e w' => e = .returned (.bool ((grantB ⟨f, t, p, d, s, u, o⟩))) ∧ Below w.heap.size w w' := by
  have hv : ((grantB ⟨f, t, p, d, s, u, o⟩)) = false := by simp [grantB, inR, h1, h2]
  have HV := Lib.hid hv; clear hv
  have H1 := Lib.hid h1; clear h1
  have H2 := Lib.hid h2; clear h2
  go_enter Try.func27, Try.ntmps27
  go_wp2_with (first | (go_at_call 15; refine (perI_any _ _).mono ?_; rintro e w1 ⟨rfl, hw⟩; rw [hw]; clear hw; first | rw [H1.out] | rw [H2.out]))
  go_ret
  exact ⟨rbool (by have hv := HV.out; first | exact hv.symm | (rw [hv]; simp; omega) | (rw [hv]; simp)), balloc _ _⟩
set_option maxRecDepth 100000 in
set_option maxHeartbeats 2000000 in
theorem grantI_any_3f (w : World) (f : Int) (t : Int) (p : Int) (d : Int) (s : Int) (u : Int) (o : Bool) (h1 : (perB f) = true) (h2 : (perB t) = true) (h3 : (f != t) = false) :
    Calls Try.prog 27 #[.agg #[.int .i64 f, .int .i64 t, .int .i64 p, .int .i64 d, .int .i64 s, .int .i64 u, .bool o]] w fun e w' => e = .returned (.bool ((grantB ⟨f, t, p, d, s, u, o⟩))) ∧ Below w.heap.size w w' := by
  have hv : ((grantB ⟨f, t, p, d, s, u, o⟩)) = false := by simp [grantB, inR, h1, h2, h3]
  have HV := Lib.hid hv; clear hv
  have H1 := Lib.hid h1; clear h1
  have H2 := Lib.hid h2; clear h2
  go_enter Try.func27, Try.ntmps27
  go_wp2_with (first | (go_at_call 15; refine (perI_any _ _).mono ?_; rintro e w1 ⟨rfl, hw⟩; rw [hw]; clear hw; first | rw [H1.out] | rw [H2.out]))
  go_ret
  exact ⟨rbool (by have hv := HV.out; first | exact hv.symm | (rw [hv]; simp; omega) | (rw [hv]; simp)), balloc _ _⟩
set_option maxRecDepth 100000 in
set_option maxHeartbeats 2000000 in
theorem grantI_any_4f (w : World) (f : Int) (t : Int) (p : Int) (d : Int) (s : Int) (u : Int) (o : Bool) (h1 : (perB f) = true) (h2 : (perB t) = true) (h3 : (f != t) = true) (h4 : (decide (0 ≤ p)) = false) :
    Calls Try.prog 27 #[.agg #[.int .i64 f, .int .i64 t, .int .i64 p, .int .i64 d, .int .i64 s, .int .i64 u, .bool o]] w fun e w' => e = .returned (.bool ((grantB ⟨f, t, p, d, s, u, o⟩))) ∧ Below w.heap.size w w' := by
  have hv : ((grantB ⟨f, t, p, d, s, u, o⟩)) = false := by simp [grantB, inR, h1, h2, h3, h4]
  have HV := Lib.hid hv; clear hv
  have H1 := Lib.hid h1; clear h1
  have H2 := Lib.hid h2; clear h2
  have g4 : ¬ (0 ≤ p) := by simpa using h4
  clear h4
  go_enter Try.func27, Try.ntmps27
  go_wp2_with (first | (go_at_call 15; refine (perI_any _ _).mono ?_; rintro e w1 ⟨rfl, hw⟩; rw [hw]; clear hw; first | rw [H1.out] | rw [H2.out]))
  go_ret
  exact ⟨rbool (by have hv := HV.out; first | exact hv.symm | (rw [hv]; simp; omega) | (rw [hv]; simp)), balloc _ _⟩
set_option maxRecDepth 100000 in
set_option maxHeartbeats 2000000 in
theorem grantI_any_5f (w : World) (f : Int) (t : Int) (p : Int) (d : Int) (s : Int) (u : Int) (o : Bool) (h1 : (perB f) = true) (h2 : (perB t) = true) (h3 : (f != t) = true) (h4 : (decide (0 ≤ p)) = true) (h5 : (decide (p ≤ 999)) = false) :
    Calls Try.prog 27 #[.agg #[.int .i64 f, .int .i64 t, .int .i64 p, .int .i64 d, .int .i64 s, .int .i64 u, .bool o]] w fun e w' => e = .returned (.bool ((grantB ⟨f, t, p, d, s, u, o⟩))) ∧ Below w.heap.size w w' := by
  have hv : ((grantB ⟨f, t, p, d, s, u, o⟩)) = false := by simp [grantB, inR, h1, h2, h3, h4, h5]
  have HV := Lib.hid hv; clear hv
  have H1 := Lib.hid h1; clear h1
  have H2 := Lib.hid h2; clear h2
  have g4 : (0 ≤ p) := by simpa using h4
  clear h4
  have g5 : ¬ (p ≤ 999) := by simpa using h5
  clear h5
  go_enter Try.func27, Try.ntmps27
  go_wp2_with (first | (go_at_call 15; refine (perI_any _ _).mono ?_; rintro e w1 ⟨rfl, hw⟩; rw [hw]; clear hw; first | rw [H1.out] | rw [H2.out]))
  go_ret
  exact ⟨rbool (by have hv := HV.out; first | exact hv.symm | (rw [hv]; simp; omega) | (rw [hv]; simp)), balloc _ _⟩
set_option maxRecDepth 100000 in
set_option maxHeartbeats 2000000 in
theorem grantI_any_6f (w : World) (f : Int) (t : Int) (p : Int) (d : Int) (s : Int) (u : Int) (o : Bool) (h1 : (perB f) = true) (h2 : (perB t) = true) (h3 : (f != t) = true) (h4 : (decide (0 ≤ p)) = true) (h5 : (decide (p ≤ 999)) = true) (h6 : (decide (0 ≤ d)) = false) :
    Calls Try.prog 27 #[.agg #[.int .i64 f, .int .i64 t, .int .i64 p, .int .i64 d, .int .i64 s, .int .i64 u, .bool o]] w fun e w' => e = .returned (.bool ((grantB ⟨f, t, p, d, s, u, o⟩))) ∧ Below w.heap.size w w' := by
  have hv : ((grantB ⟨f, t, p, d, s, u, o⟩)) = false := by simp [grantB, inR, h1, h2, h3, h4, h5, h6]
  have HV := Lib.hid hv; clear hv
  have H1 := Lib.hid h1; clear h1
  have H2 := Lib.hid h2; clear h2
  have g4 : (0 ≤ p) := by simpa using h4
  clear h4
  have g5 : (p ≤ 999) := by simpa using h5
  clear h5
  have g6 : ¬ (0 ≤ d) := by simpa using h6
  clear h6
  go_enter Try.func27, Try.ntmps27
  go_wp2_with (first | (go_at_call 15; refine (perI_any _ _).mono ?_; rintro e w1 ⟨rfl, hw⟩; rw [hw]; clear hw; first | rw [H1.out] | rw [H2.out]))
  go_ret
  exact ⟨rbool (by have hv := HV.out; first | exact hv.symm | (rw [hv]; simp; omega) | (rw [hv]; simp)), balloc _ _⟩
set_option maxRecDepth 100000 in
set_option maxHeartbeats 2000000 in
theorem grantI_any_7f (w : World) (f : Int) (t : Int) (p : Int) (d : Int) (s : Int) (u : Int) (o : Bool) (h1 : (perB f) = true) (h2 : (perB t) = true) (h3 : (f != t) = true) (h4 : (decide (0 ≤ p)) = true) (h5 : (decide (p ≤ 999)) = true) (h6 : (decide (0 ≤ d)) = true) (h7 : (decide (d ≤ 5)) = false) :
    Calls Try.prog 27 #[.agg #[.int .i64 f, .int .i64 t, .int .i64 p, .int .i64 d, .int .i64 s, .int .i64 u, .bool o]] w fun e w' => e = .returned (.bool ((grantB ⟨f, t, p, d, s, u, o⟩))) ∧ Below w.heap.size w w' := by
  have hv : ((grantB ⟨f, t, p, d, s, u, o⟩)) = false := by simp [grantB, inR, h1, h2, h3, h4, h5, h6, h7]
  have HV := Lib.hid hv; clear hv
  have H1 := Lib.hid h1; clear h1
  have H2 := Lib.hid h2; clear h2
  have g4 : (0 ≤ p) := by simpa using h4
  clear h4
  have g5 : (p ≤ 999) := by simpa using h5
  clear h5
  have g6 : (0 ≤ d) := by simpa using h6
  clear h6
  have g7 : ¬ (d ≤ 5) := by simpa using h7
  clear h7
  go_enter Try.func27, Try.ntmps27
  go_wp2_with (first | (go_at_call 15; refine (perI_any _ _).mono ?_; rintro e w1 ⟨rfl, hw⟩; rw [hw]; clear hw; first | rw [H1.out] | rw [H2.out]))
  go_ret
  exact ⟨rbool (by have hv := HV.out; first | exact hv.symm | (rw [hv]; simp; omega) | (rw [hv]; simp)), balloc _ _⟩
set_option maxRecDepth 100000 in
set_option maxHeartbeats 2000000 in
theorem grantI_any_8f (w : World) (f : Int) (t : Int) (p : Int) (d : Int) (s : Int) (u : Int) (o : Bool) (h1 : (perB f) = true) (h2 : (perB t) = true) (h3 : (f != t) = true) (h4 : (decide (0 ≤ p)) = true) (h5 : (decide (p ≤ 999)) = true) (h6 : (decide (0 ≤ d)) = true) (h7 : (decide (d ≤ 5)) = true) (h8 : (timB s) = false) :
    Calls Try.prog 27 #[.agg #[.int .i64 f, .int .i64 t, .int .i64 p, .int .i64 d, .int .i64 s, .int .i64 u, .bool o]] w fun e w' => e = .returned (.bool ((grantB ⟨f, t, p, d, s, u, o⟩))) ∧ Below w.heap.size w w' := by
  have hv : ((grantB ⟨f, t, p, d, s, u, o⟩)) = false := by simp [grantB, inR, h1, h2, h3, h4, h5, h6, h7, h8]
  have HV := Lib.hid hv; clear hv
  have H1 := Lib.hid h1; clear h1
  have H2 := Lib.hid h2; clear h2
  have g4 : (0 ≤ p) := by simpa using h4
  clear h4
  have g5 : (p ≤ 999) := by simpa using h5
  clear h5
  have g6 : (0 ≤ d) := by simpa using h6
  clear h6
  have g7 : (d ≤ 5) := by simpa using h7
  clear h7
  have H8 := Lib.hid h8; clear h8
  go_enter Try.func27, Try.ntmps27
  go_wp2_with (first | (go_at_call 15; refine (perI_any _ _).mono ?_; rintro e w1 ⟨rfl, hw⟩; rw [hw]; clear hw; first | rw [H1.out] | rw [H2.out]) | (go_at_call 17; refine (timI_any _ _).mono ?_; rintro e w1 ⟨rfl, hw⟩; rw [hw]; clear hw; rw [H8.out]))
  go_ret
  exact ⟨rbool (by have hv := HV.out; first | exact hv.symm | (rw [hv]; simp; omega) | (rw [hv]; simp)), balloc _ _⟩
set_option maxRecDepth 100000 in
set_option maxHeartbeats 2000000 in
theorem grantI_any_9f (w : World) (f : Int) (t : Int) (p : Int) (d : Int) (s : Int) (u : Int) (o : Bool) (h1 : (perB f) = true) (h2 : (perB t) = true) (h3 : (f != t) = true) (h4 : (decide (0 ≤ p)) = true) (h5 : (decide (p ≤ 999)) = true) (h6 : (decide (0 ≤ d)) = true) (h7 : (decide (d ≤ 5)) = true) (h8 : (timB s) = true) (h9 : (timB u) = false) :
    Calls Try.prog 27 #[.agg #[.int .i64 f, .int .i64 t, .int .i64 p, .int .i64 d, .int .i64 s, .int .i64 u, .bool o]] w fun e w' => e = .returned (.bool ((grantB ⟨f, t, p, d, s, u, o⟩))) ∧ Below w.heap.size w w' := by
  have hv : ((grantB ⟨f, t, p, d, s, u, o⟩)) = false := by simp [grantB, inR, h1, h2, h3, h4, h5, h6, h7, h8, h9]
  have HV := Lib.hid hv; clear hv
  have H1 := Lib.hid h1; clear h1
  have H2 := Lib.hid h2; clear h2
  have g4 : (0 ≤ p) := by simpa using h4
  clear h4
  have g5 : (p ≤ 999) := by simpa using h5
  clear h5
  have g6 : (0 ≤ d) := by simpa using h6
  clear h6
  have g7 : (d ≤ 5) := by simpa using h7
  clear h7
  have H8 := Lib.hid h8; clear h8
  have H9 := Lib.hid h9; clear h9
  go_enter Try.func27, Try.ntmps27
  go_wp2_with (first | (go_at_call 15; refine (perI_any _ _).mono ?_; rintro e w1 ⟨rfl, hw⟩; rw [hw]; clear hw; first | rw [H1.out] | rw [H2.out]) | (go_at_call 17; refine (timI_any _ _).mono ?_; rintro e w1 ⟨rfl, hw⟩; rw [hw]; clear hw; first | rw [H8.out] | rw [H9.out]))
  go_ret
  exact ⟨rbool (by have hv := HV.out; first | exact hv.symm | (rw [hv]; simp; omega) | (rw [hv]; simp)), balloc _ _⟩
set_option maxRecDepth 100000 in
set_option maxHeartbeats 2000000 in
theorem grantI_any_10f (w : World) (f : Int) (t : Int) (p : Int) (d : Int) (s : Int) (u : Int) (o : Bool) (h1 : (perB f) = true) (h2 : (perB t) = true) (h3 : (f != t) = true) (h4 : (decide (0 ≤ p)) = true) (h5 : (decide (p ≤ 999)) = true) (h6 : (decide (0 ≤ d)) = true) (h7 : (decide (d ≤ 5)) = true) (h8 : (timB s) = true) (h9 : (timB u) = true) (h10 : (decide (s < u)) = false) :
    Calls Try.prog 27 #[.agg #[.int .i64 f, .int .i64 t, .int .i64 p, .int .i64 d, .int .i64 s, .int .i64 u, .bool o]] w fun e w' => e = .returned (.bool ((grantB ⟨f, t, p, d, s, u, o⟩))) ∧ Below w.heap.size w w' := by
  have hv : ((grantB ⟨f, t, p, d, s, u, o⟩)) = false := by simp [grantB, inR, h1, h2, h3, h4, h5, h6, h7, h8, h9, h10]
  have HV := Lib.hid hv; clear hv
  have H1 := Lib.hid h1; clear h1
  have H2 := Lib.hid h2; clear h2
  have g4 : (0 ≤ p) := by simpa using h4
  clear h4
  have g5 : (p ≤ 999) := by simpa using h5
  clear h5
  have g6 : (0 ≤ d) := by simpa using h6
  clear h6
  have g7 : (d ≤ 5) := by simpa using h7
  clear h7
  have H8 := Lib.hid h8; clear h8
  have H9 := Lib.hid h9; clear h9
  have g10 : ¬ (s < u) := by simpa using h10
  clear h10
  go_enter Try.func27, Try.ntmps27
  go_wp2_with (first | (go_at_call 15; refine (perI_any _ _).mono ?_; rintro e w1 ⟨rfl, hw⟩; rw [hw]; clear hw; first | rw [H1.out] | rw [H2.out]) | (go_at_call 17; refine (timI_any _ _).mono ?_; rintro e w1 ⟨rfl, hw⟩; rw [hw]; clear hw; first | rw [H8.out] | rw [H9.out]))
  go_ret
  exact ⟨rbool (by have hv := HV.out; first | exact hv.symm | (rw [hv]; simp; omega) | (rw [hv]; simp)), balloc _ _⟩
set_option maxRecDepth 100000 in
set_option maxHeartbeats 2000000 in
theorem grantI_any_10t (w : World) (f : Int) (t : Int) (p : Int) (d : Int) (s : Int) (u : Int) (o : Bool) (h1 : (perB f) = true) (h2 : (perB t) = true) (h3 : (f != t) = true) (h4 : (decide (0 ≤ p)) = true) (h5 : (decide (p ≤ 999)) = true) (h6 : (decide (0 ≤ d)) = true) (h7 : (decide (d ≤ 5)) = true) (h8 : (timB s) = true) (h9 : (timB u) = true) (h10 : (decide (s < u)) = true) :
    Calls Try.prog 27 #[.agg #[.int .i64 f, .int .i64 t, .int .i64 p, .int .i64 d, .int .i64 s, .int .i64 u, .bool o]] w fun e w' => e = .returned (.bool ((grantB ⟨f, t, p, d, s, u, o⟩))) ∧ Below w.heap.size w w' := by
  have hv : ((grantB ⟨f, t, p, d, s, u, o⟩)) = true := by simp [grantB, inR, h1, h2, h3, h4, h5, h6, h7, h8, h9, h10]
  have HV := Lib.hid hv; clear hv
  have H1 := Lib.hid h1; clear h1
  have H2 := Lib.hid h2; clear h2
  have g4 : (0 ≤ p) := by simpa using h4
  clear h4
  have g5 : (p ≤ 999) := by simpa using h5
  clear h5
  have g6 : (0 ≤ d) := by simpa using h6
  clear h6
  have g7 : (d ≤ 5) := by simpa using h7
  clear h7
  have H8 := Lib.hid h8; clear h8
  have H9 := Lib.hid h9; clear h9
  have g10 : (s < u) := by simpa using h10
  clear h10
  go_enter Try.func27, Try.ntmps27
  go_wp2_with (first | (go_at_call 15; refine (perI_any _ _).mono ?_; rintro e w1 ⟨rfl, hw⟩; rw [hw]; clear hw; first | rw [H1.out] | rw [H2.out]) | (go_at_call 17; refine (timI_any _ _).mono ?_; rintro e w1 ⟨rfl, hw⟩; rw [hw]; clear hw; first | rw [H8.out] | rw [H9.out]))
  go_ret
  exact ⟨rbool (by have hv := HV.out; first | exact hv.symm | (rw [hv]; simp; omega) | (rw [hv]; simp)), balloc _ _⟩
theorem grantI_any (w : World) (f : Int) (t : Int) (p : Int) (d : Int) (s : Int) (u : Int) (o : Bool) : Calls Try.prog 27 #[.agg #[.int .i64 f, .int .i64 t, .int .i64 p, .int .i64 d, .int .i64 s, .int .i64 u, .bool o]] w fun e w' => e = .returned (.bool ((grantB ⟨f, t, p, d, s, u, o⟩))) ∧ Below w.heap.size w w' := by
  cases h1 : perB f
  · exact grantI_any_1f w f t p d s u o h1
  cases h2 : perB t
  · exact grantI_any_2f w f t p d s u o h1 h2
  cases h3 : f != t
  · exact grantI_any_3f w f t p d s u o h1 h2 h3
  cases h4 : decide (0 ≤ p)
  · exact grantI_any_4f w f t p d s u o h1 h2 h3 h4
  cases h5 : decide (p ≤ 999)
  · exact grantI_any_5f w f t p d s u o h1 h2 h3 h4 h5
  cases h6 : decide (0 ≤ d)
  · exact grantI_any_6f w f t p d s u o h1 h2 h3 h4 h5 h6
  cases h7 : decide (d ≤ 5)
  · exact grantI_any_7f w f t p d s u o h1 h2 h3 h4 h5 h6 h7
  cases h8 : timB s
  · exact grantI_any_8f w f t p d s u o h1 h2 h3 h4 h5 h6 h7 h8
  cases h9 : timB u
  · exact grantI_any_9f w f t p d s u o h1 h2 h3 h4 h5 h6 h7 h8 h9
  cases h10 : decide (s < u)
  · exact grantI_any_10f w f t p d s u o h1 h2 h3 h4 h5 h6 h7 h8 h9 h10
  · exact grantI_any_10t w f t p d s u o h1 h2 h3 h4 h5 h6 h7 h8 h9 h10
set_option maxRecDepth 100000 in
set_option maxHeartbeats 2000000 in
theorem grantS_any_1f (w : World) (f : Int) (t : Int) (p : Int) (d : Int) (s : Int) (u : Int) (o : Bool) (h1 : (perB f) = false) :
    Calls Try.prog 26 #[.agg #[.int .i64 f, .int .i64 t, .int .i64 p, .int .i64 d, .int .i64 s, .int .i64 u, .bool o]] w fun e w' => e = .returned (.bool ((grantB ⟨f, t, p, d, s, u, o⟩))) ∧ Below w.heap.size w w' := by
  have hv : ((grantB ⟨f, t, p, d, s, u, o⟩)) = false := by simp [grantB, h1]
  have HV := Lib.hid hv; clear hv
  have H1 := Lib.hid h1; clear h1
  go_enter Try.func26, Try.ntmps26
  go_wp2_with (first | (go_at_call 36; refine (perS_any _ _).mono ?_; rintro e w1 ⟨rfl, hw⟩; rw [hw]; clear hw; rw [H1.out]))
  go_ret
  exact ⟨rbool (by have hv := HV.out; first | exact hv.symm | (rw [hv]; simp; omega) | (rw [hv]; simp)), balloc _ _⟩
set_option maxRecDepth 100000 in
set_option maxHeartbeats 2000000 in
theorem grantS_any_2f (w : World) (f : Int) (t : Int) (p : Int) (d : Int) (s : Int) (u : Int) (o : Bool) (h1 : (perB f) = true) (h2 : (perB t) = false) :
    Calls Try.prog 26 #[.agg #[.int .i64 f, .int .i64 t, .int .i64 p, .int .i64 d, .int .i64 s, .int .i64 u, .bool o]] w fun e w' => e = .returned (.bool ((grantB ⟨f, t, p, d, s, u, o⟩))) ∧ Below w.heap.size w w' := by
  have hv : ((grantB ⟨f, t, p, d, s, u, o⟩)) = false := by simp [grantB, h1, h2]
  have HV := Lib.hid hv; clear hv
  have H1 := Lib.hid h1; clear h1
  have H2 := Lib.hid h2; clear h2
  go_enter Try.func26, Try.ntmps26
  go_wp2_with (first | (go_at_call 36; refine (perS_any _ _).mono ?_; rintro e w1 ⟨rfl, hw⟩; rw [hw]; clear hw; first | rw [H1.out] | rw [H2.out]))
  go_ret
  exact ⟨rbool (by have hv := HV.out; first | exact hv.symm | (rw [hv]; simp; omega) | (rw [hv]; simp)), balloc _ _⟩
set_option maxRecDepth 100000 in
set_option maxHeartbeats 2000000 in
theorem grantS_any_3f (w : World) (f : Int) (t : Int) (p : Int) (d : Int) (s : Int) (u : Int) (o : Bool) (h1 : (perB f) = true) (h2 : (perB t) = true) (h3 : (f != t) = false) :
    Calls Try.prog 26 #[.agg #[.int .i64 f, .int .i64 t, .int .i64 p, .int .i64 d, .int .i64 s, .int .i64 u, .bool o]] w fun e w' => e = .returned (.bool ((grantB ⟨f, t, p, d, s, u, o⟩))) ∧ Below w.heap.size w w' := by
  have hv : ((grantB ⟨f, t, p, d, s, u, o⟩)) = false := by simp [grantB, h1, h2, h3]
  have HV := Lib.hid hv; clear hv
  have H1 := Lib.hid h1; clear h1
  have H2 := Lib.hid h2; clear h2
  go_enter Try.func26, Try.ntmps26
  go_wp2_with (first | (go_at_call 36; refine (perS_any _ _).mono ?_; rintro e w1 ⟨rfl, hw⟩; rw [hw]; clear hw; first | rw [H1.out] | rw [H2.out]))
  go_ret
  exact ⟨rbool (by have hv := HV.out; first | exact hv.symm | (rw [hv]; simp; omega) | (rw [hv]; simp)), balloc _ _⟩
set_option maxRecDepth 100000 in
set_option maxHeartbeats 2000000 in
theorem grantS_any_4f (w : World) (f : Int) (t : Int) (p : Int) (d : Int) (s : Int) (u : Int) (o : Bool) (h1 : (perB f) = true) (h2 : (perB t) = true) (h3 : (f != t) = true) (h4 : (inR p 0 999) = false) :
    Calls Try.prog 26 #[.agg #[.int .i64 f, .int .i64 t, .int .i64 p, .int .i64 d, .int .i64 s, .int .i64 u, .bool o]] w fun e w' => e = .returned (.bool ((grantB ⟨f, t, p, d, s, u, o⟩))) ∧ Below w.heap.size w w' := by
  have hv : ((grantB ⟨f, t, p, d, s, u, o⟩)) = false := by simp [grantB, h1, h2, h3, h4]
  have HV := Lib.hid hv; clear hv
  have H1 := Lib.hid h1; clear h1
  have H2 := Lib.hid h2; clear h2
  have H4 := Lib.hid h4; clear h4
  go_enter Try.func26, Try.ntmps26
  go_wp2_with (first | (go_at_call 36; refine (perS_any _ _).mono ?_; rintro e w1 ⟨rfl, hw⟩; rw [hw]; clear hw; first | rw [H1.out] | rw [H2.out]) | (go_at_call 37; refine (inR_any _ _ _ _).mono ?_; rintro e w1 ⟨rfl, hw⟩; rw [hw]; clear hw; rw [H4.out]))
  go_ret
  exact ⟨rbool (by have hv := HV.out; first | exact hv.symm | (rw [hv]; simp; omega) | (rw [hv]; simp)), balloc _ _⟩
set_option maxRecDepth 100000 in
set_option maxHeartbeats 2000000 in
theorem grantS_any_5f (w : World) (f : Int) (t : Int) (p : Int) (d : Int) (s : Int) (u : Int) (o : Bool) (h1 : (perB f) = true) (h2 : (perB t) = true) (h3 : (f != t) = true) (h4 : (inR p 0 999) = true) (h5 : (inR d 0 5) = false) :
    Calls Try.prog 26 #[.agg #[.int .i64 f, .int .i64 t, .int .i64 p, .int .i64 d, .int .i64 s, .int .i64 u, .bool o]] w fun e w' => e = .returned (.bool ((grantB ⟨f, t, p, d, s, u, o⟩))) ∧ Below w.heap.size w w' := by
  have hv : ((grantB ⟨f, t, p, d, s, u, o⟩)) = false := by simp [grantB, h1, h2, h3, h4, h5]
  have HV := Lib.hid hv; clear hv
  have H1 := Lib.hid h1; clear h1
  have H2 := Lib.hid h2; clear h2
  have H4 := Lib.hid h4; clear h4
  have H5 := Lib.hid h5; clear h5
  go_enter Try.func26, Try.ntmps26
  go_wp2_with (first | (go_at_call 36; refine (perS_any _ _).mono ?_; rintro e w1 ⟨rfl, hw⟩; rw [hw]; clear hw; first | rw [H1.out] | rw [H2.out]) | (go_at_call 37; refine (inR_any _ _ _ _).mono ?_; rintro e w1 ⟨rfl, hw⟩; rw [hw]; clear hw; first | rw [H4.out] | rw [H5.out]))
  go_ret
  exact ⟨rbool (by have hv := HV.out; first | exact hv.symm | (rw [hv]; simp; omega) | (rw [hv]; simp)), balloc _ _⟩
set_option maxRecDepth 100000 in
set_option maxHeartbeats 2000000 in
theorem grantS_any_6f (w : World) (f : Int) (t : Int) (p : Int) (d : Int) (s : Int) (u : Int) (o : Bool) (h1 : (perB f) = true) (h2 : (perB t) = true) (h3 : (f != t) = true) (h4 : (inR p 0 999) = true) (h5 : (inR d 0 5) = true) (h6 : (timB s) = false) :
    Calls Try.prog 26 #[.agg #[.int .i64 f, .int .i64 t, .int .i64 p, .int .i64 d, .int .i64 s, .int .i64 u, .bool o]] w fun e w' => e = .returned (.bool ((grantB ⟨f, t, p, d, s, u, o⟩))) ∧ Below w.heap.size w w' := by
  have hv : ((grantB ⟨f, t, p, d, s, u, o⟩)) = false := by simp [grantB, h1, h2, h3, h4, h5, h6]
  have HV := Lib.hid hv; clear hv
  have H1 := Lib.hid h1; clear h1
  have H2 := Lib.hid h2; clear h2
  have H4 := Lib.hid h4; clear h4
  have H5 := Lib.hid h5; clear h5
  have H6 := Lib.hid h6; clear h6
  go_enter Try.func26, Try.ntmps26
  go_wp2_with (first | (go_at_call 36; refine (perS_any _ _).mono ?_; rintro e w1 ⟨rfl, hw⟩; rw [hw]; clear hw; first | rw [H1.out] | rw [H2.out]) | (go_at_call 37; refine (inR_any _ _ _ _).mono ?_; rintro e w1 ⟨rfl, hw⟩; rw [hw]; clear hw; first | rw [H4.out] | rw [H5.out]) | (go_at_call 38; refine (timS_any _ _).mono ?_; rintro e w1 ⟨rfl, hw⟩; rw [hw]; clear hw; rw [H6.out]))
  go_ret
  exact ⟨rbool (by have hv := HV.out; first | exact hv.symm | (rw [hv]; simp; omega) | (rw [hv]; simp)), balloc _ _⟩
set_option maxRecDepth 100000 in
set_option maxHeartbeats 2000000 in
theorem grantS_any_7f (w : World) (f : Int) (t : Int) (p : Int) (d : Int) (s : Int) (u : Int) (o : Bool) (h1 : (perB f) = true) (h2 : (perB t) = true) (h3 : (f != t) = true) (h4 : (inR p 0 999) = true) (h5 : (inR d 0 5) = true) (h6 : (timB s) = true) (h7 : (timB u) = false) :
    Calls Try.prog 26 #[.agg #[.int .i64 f, .int .i64 t, .int .i64 p, .int .i64 d, .int .i64 s, .int .i64 u, .bool o]] w fun e w' => e = .returned (.bool ((grantB ⟨f, t, p, d, s, u, o⟩))) ∧ Below w.heap.size w w' := by
  have hv : ((grantB ⟨f, t, p, d, s, u, o⟩)) = false := by simp [grantB, h1, h2, h3, h4, h5, h6, h7]
  have HV := Lib.hid hv; clear hv
  have H1 := Lib.hid h1; clear h1
  have H2 := Lib.hid h2; clear h2
  have H4 := Lib.hid h4; clear h4
  have H5 := Lib.hid h5; clear h5
  have H6 := Lib.hid h6; clear h6
  have H7 := Lib.hid h7; clear h7
  go_enter Try.func26, Try.ntmps26
  go_wp2_with (first | (go_at_call 36; refine (perS_any _ _).mono ?_; rintro e w1 ⟨rfl, hw⟩; rw [hw]; clear hw; first | rw [H1.out] | rw [H2.out]) | (go_at_call 37; refine (inR_any _ _ _ _).mono ?_; rintro e w1 ⟨rfl, hw⟩; rw [hw]; clear hw; first | rw [H4.out] | rw [H5.out]) | (go_at_call 38; refine (timS_any _ _).mono ?_; rintro e w1 ⟨rfl, hw⟩; rw [hw]; clear hw; first | rw [H6.out] | rw [H7.out]))
  go_ret
  exact ⟨rbool (by have hv := HV.out; first | exact hv.symm | (rw [hv]; simp; omega) | (rw [hv]; simp)), balloc _ _⟩
set_option maxRecDepth 100000 in
set_option maxHeartbeats 2000000 in
theorem grantS_any_8f (w : World) (f : Int) (t : Int) (p : Int) (d : Int) (s : Int) (u : Int) (o : Bool) (h1 : (perB f) = true) (h2 : (perB t) = true) (h3 : (f != t) = true) (h4 : (inR p 0 999) = true) (h5 : (inR d 0 5) = true) (h6 : (timB s) = true) (h7 : (timB u) = true) (h8 : (decide (s < u)) = false) :
    Calls Try.prog 26 #[.agg #[.int .i64 f, .int .i64 t, .int .i64 p, .int .i64 d, .int .i64 s, .int .i64 u, .bool o]] w fun e w' => e = .returned (.bool ((grantB ⟨f, t, p, d, s, u, o⟩))) ∧ Below w.heap.size w w' := by
  have hv : ((grantB ⟨f, t, p, d, s, u, o⟩)) = false := by simp [grantB, h1, h2, h3, h4, h5, h6, h7, h8]
  have HV := Lib.hid hv; clear hv
  have H1 := Lib.hid h1; clear h1
  have H2 := Lib.hid h2; clear h2
  have H4 := Lib.hid h4; clear h4
  have H5 := Lib.hid h5; clear h5
  have H6 := Lib.hid h6; clear h6
  have H7 := Lib.hid h7; clear h7
  have g8 : ¬ (s < u) := by simpa using h8
  clear h8
  go_enter Try.func26, Try.ntmps26
  go_wp2_with (first | (go_at_call 36; refine (perS_any _ _).mono ?_; rintro e w1 ⟨rfl, hw⟩; rw [hw]; clear hw; first | rw [H1.out] | rw [H2.out]) | (go_at_call 37; refine (inR_any _ _ _ _).mono ?_; rintro e w1 ⟨rfl, hw⟩; rw [hw]; clear hw; first | rw [H4.out] | rw [H5.out]) | (go_at_call 38; refine (timS_any _ _).mono ?_; rintro e w1 ⟨rfl, hw⟩; rw [hw]; clear hw; first | rw [H6.out] | rw [H7.out]))
  go_ret
  exact ⟨rbool (by have hv := HV.out; first | exact hv.symm | (rw [hv]; simp; omega) | (rw [hv]; simp)), balloc _ _⟩
set_option maxRecDepth 100000 in
set_option maxHeartbeats 2000000 in
theorem grantS_any_8t (w : World) (f : Int) (t : Int) (p : Int) (d : Int) (s : Int) (u : Int) (o : Bool) (h1 : (perB f) = true) (h2 : (perB t) = true) (h3 : (f != t) = true) (h4 : (inR p 0 999) = true) (h5 : (inR d 0 5) = true) (h6 : (timB s) = true) (h7 : (timB u) = true) (h8 : (decide (s < u)) = true) :
    Calls Try.prog 26 #[.agg #[.int .i64 f, .int .i64 t, .int .i64 p, .int .i64 d, .int .i64 s, .int .i64 u, .bool o]] w fun e w' => e = .returned (.bool ((grantB ⟨f, t, p, d, s, u, o⟩))) ∧ Below w.heap.size w w' := by
  have hv : ((grantB ⟨f, t, p, d, s, u, o⟩)) = true := by simp [grantB, h1, h2, h3, h4, h5, h6, h7, h8]
  have HV := Lib.hid hv; clear hv
  have H1 := Lib.hid h1; clear h1
  have H2 := Lib.hid h2; clear h2
  have H4 := Lib.hid h4; clear h4
  have H5 := Lib.hid h5; clear h5
  have H6 := Lib.hid h6; clear h6
  have H7 := Lib.hid h7; clear h7
  have g8 : (s < u) := by simpa using h8
  clear h8
  go_enter Try.func26, Try.ntmps26
  go_wp2_with (first | (go_at_call 36; refine (perS_any _ _).mono ?_; rintro e w1 ⟨rfl, hw⟩; rw [hw]; clear hw; first | rw [H1.out] | rw [H2.out]) | (go_at_call 37; refine (inR_any _ _ _ _).mono ?_; rintro e w1 ⟨rfl, hw⟩; rw [hw]; clear hw; first | rw [H4.out] | rw [H5.out]) | (go_at_call 38; refine (timS_any _ _).mono ?_; rintro e w1 ⟨rfl, hw⟩; rw [hw]; clear hw; first | rw [H6.out] | rw [H7.out]))
  go_ret
  exact ⟨rbool (by have hv := HV.out; first | exact hv.symm | (rw [hv]; simp; omega) | (rw [hv]; simp)), balloc _ _⟩
theorem grantS_any (w : World) (f : Int) (t : Int) (p : Int) (d : Int) (s : Int) (u : Int) (o : Bool) : Calls Try.prog 26 #[.agg #[.int .i64 f, .int .i64 t, .int .i64 p, .int .i64 d, .int .i64 s, .int .i64 u, .bool o]] w fun e w' => e = .returned (.bool ((grantB ⟨f, t, p, d, s, u, o⟩))) ∧ Below w.heap.size w w' := by
  cases h1 : perB f
  · exact grantS_any_1f w f t p d s u o h1
  cases h2 : perB t
  · exact grantS_any_2f w f t p d s u o h1 h2
  cases h3 : f != t
  · exact grantS_any_3f w f t p d s u o h1 h2 h3
  cases h4 : inR p 0 999
  · exact grantS_any_4f w f t p d s u o h1 h2 h3 h4
  cases h5 : inR d 0 5
  · exact grantS_any_5f w f t p d s u o h1 h2 h3 h4 h5
  cases h6 : timB s
  · exact grantS_any_6f w f t p d s u o h1 h2 h3 h4 h5 h6
  cases h7 : timB u
  · exact grantS_any_7f w f t p d s u o h1 h2 h3 h4 h5 h6 h7
  cases h8 : decide (s < u)
  · exact grantS_any_8f w f t p d s u o h1 h2 h3 h4 h5 h6 h7 h8
  · exact grantS_any_8t w f t p d s u o h1 h2 h3 h4 h5 h6 h7 h8
set_option maxRecDepth 100000 in
set_option maxHeartbeats 2000000 in
theorem appI_any_a (w : World) (f t p d s u : Int) (o : Bool) (pp now : Int) (hg : grantB ⟨f, t, p, d, s, u, o⟩ = false) : Calls Try.prog 12 #[.agg #[.int .i64 f, .int .i64 t, .int .i64 p, .int .i64 d, .int .i64 s, .int .i64 u, .bool o], .int .i64 pp, .int .i64 now] w fun e w' => e = .returned (.bool (appB pp now ⟨f, t, p, d, s, u, o⟩)) ∧ Below w.heap.size w w' := by
  have hv : (appB pp now ⟨f, t, p, d, s, u, o⟩) = false := by simp [appB, hg]
  have HV := Lib.hid hv; clear hv
  have HG := Lib.hid hg; clear hg
  go_enter Try.func12, Try.ntmps12
  go_wp2_with fail
  generalize hW0 : (w.alloc (.cells #[.int .i64 f, .int .i64 t, .int .i64 p, .int .i64 d, .int .i64 s, .int .i64 u, .bool o] 35)) = w0
  have b0 : Below w.heap.size w w0 := by rw [← hW0]; exact balloc _ _
  have k0 : Has w0 w.heap.size 35 #[.int .i64 f, .int .i64 t, .int .i64 p, .int .i64 d, .int .i64 s, .int .i64 u, .bool o] := by rw [← hW0]; exact has_new _ _ _
  clear hW0
  refine (grantI_any w0 f t p d s u o).mono ?_
  rintro e w1 ⟨rfl, hb1⟩
  rw [HG.out]
  have k1 := has_call k0 hb1
  have e2 := has_cell k1 2 rfl; have e4 := has_cell k1 4 rfl; have e5 := has_cell k1 5 rfl; have e6 := has_cell k1 6 rfl
  have B1 := Lib.hid (bthen b0 hb1); clear b0 hb1 k0 k1
  go_wp2_with fail
  go_ret
  exact ⟨rbool (by have hv := HV.out; first | exact hv.symm | (rw [hv]; simp; omega) | (rw [hv]; simp)), B1.out⟩
set_option maxRecDepth 100000 in
set_option maxHeartbeats 2000000 in
theorem appI_any_b (w : World) (f t p d s u : Int) (o : Bool) (pp now : Int) (hg : grantB ⟨f, t, p, d, s, u, o⟩ = true) (ho : o = true) : Calls Try.prog 12 #[.agg #[.int .i64 f, .int .i64 t, .int .i64 p, .int .i64 d, .int .i64 s, .int .i64 u, .bool o], .int .i64 pp, .int .i64 now] w fun e w' => e = .returned (.bool (appB pp now ⟨f, t, p, d, s, u, o⟩)) ∧ Below w.heap.size w w' := by
  subst ho
  have hv : (appB pp now ⟨f, t, p, d, s, u, true⟩) = false := by simp [appB, hg]
  have HV := Lib.hid hv; clear hv
  have HG := Lib.hid hg; clear hg
  go_enter Try.func12, Try.ntmps12
  go_wp2_with fail
  generalize hW0 : (w.alloc (.cells #[.int .i64 f, .int .i64 t, .int .i64 p, .int .i64 d, .int .i64 s, .int .i64 u, .bool true] 35)) = w0
  have b0 : Below w.heap.size w w0 := by rw [← hW0]; exact balloc _ _
  have k0 : Has w0 w.heap.size 35 #[.int .i64 f, .int .i64 t, .int .i64 p, .int .i64 d, .int .i64 s, .int .i64 u, .bool true] := by rw [← hW0]; exact has_new _ _ _
  clear hW0
  refine (grantI_any w0 f t p d s u true).mono ?_
  rintro e w1 ⟨rfl, hb1⟩
  rw [HG.out]
  have k1 := has_call k0 hb1
  have e2 := has_cell k1 2 rfl; have e4 := has_cell k1 4 rfl; have e5 := has_cell k1 5 rfl; have e6 := has_cell k1 6 rfl
  have B1 := Lib.hid (bthen b0 hb1); clear b0 hb1 k0 k1
  go_wp2_with fail
  go_ret
  exact ⟨rbool (by have hv := HV.out; first | exact hv.symm | (rw [hv]; simp; omega) | (rw [hv]; simp)), B1.out⟩
set_option maxRecDepth 100000 in
set_option maxHeartbeats 2000000 in
theorem appI_any_c (w : World) (f t p d s u : Int) (o : Bool) (pp now : Int) (hg : grantB ⟨f, t, p, d, s, u, o⟩ = true) (ho : o = false) (hz : (p == 0) = false) (hq : (p == pp) = false) : Calls Try.prog 12 #[.agg #[.int .i64 f, .int .i64 t, .int .i64 p, .int .i64 d, .int .i64 s, .int .i64 u, .bool o], .int .i64 pp, .int .i64 now] w fun e w' => e = .returned (.bool (appB pp now ⟨f, t, p, d, s, u, o⟩)) ∧ Below w.heap.size w w' := by
  subst ho
  have hv : (appB pp now ⟨f, t, p, d, s, u, false⟩) = false := by simp [appB, hg, hz, hq]
  have HV := Lib.hid hv; clear hv
  have HG := Lib.hid hg; clear hg
  go_enter Try.func12, Try.ntmps12
  go_wp2_with fail
  generalize hW0 : (w.alloc (.cells #[.int .i64 f, .int .i64 t, .int .i64 p, .int .i64 d, .int .i64 s, .int .i64 u, .bool false] 35)) = w0
  have b0 : Below w.heap.size w w0 := by rw [← hW0]; exact balloc _ _
  have k0 : Has w0 w.heap.size 35 #[.int .i64 f, .int .i64 t, .int .i64 p, .int .i64 d, .int .i64 s, .int .i64 u, .bool false] := by rw [← hW0]; exact has_new _ _ _
  clear hW0
  refine (grantI_any w0 f t p d s u false).mono ?_
  rintro e w1 ⟨rfl, hb1⟩
  rw [HG.out]
  have k1 := has_call k0 hb1
  have e2 := has_cell k1 2 rfl; have e4 := has_cell k1 4 rfl; have e5 := has_cell k1 5 rfl; have e6 := has_cell k1 6 rfl
  have B1 := Lib.hid (bthen b0 hb1); clear b0 hb1 k0 k1
  go_wp2_with fail
  go_ret
  exact ⟨rbool (by have hv := HV.out; first | exact hv.symm | (rw [hv]; simp; omega) | (rw [hv]; simp)), B1.out⟩
set_option maxRecDepth 100000 in
set_option maxHeartbeats 2000000 in
theorem appI_any_d0 (w : World) (f t p d s u : Int) (o : Bool) (pp now : Int) (hg : grantB ⟨f, t, p, d, s, u, o⟩ = true) (ho : o = false) (hz : (p == 0) = true) (hs : ¬ s ≤ now) : Calls Try.prog 12 #[.agg #[.int .i64 f, .int .i64 t, .int .i64 p, .int .i64 d, .int .i64 s, .int .i64 u, .bool o], .int .i64 pp, .int .i64 now] w fun e w' => e = .returned (.bool (appB pp now ⟨f, t, p, d, s, u, o⟩)) ∧ Below w.heap.size w w' := by
  subst ho
  have hv : (appB pp now ⟨f, t, p, d, s, u, false⟩) = false := by simp [appB, hg, hz, hs]
  have HV := Lib.hid hv; clear hv
  have HG := Lib.hid hg; clear hg
  go_enter Try.func12, Try.ntmps12
  go_wp2_with fail
  generalize hW0 : (w.alloc (.cells #[.int .i64 f, .int .i64 t, .int .i64 p, .int .i64 d, .int .i64 s, .int .i64 u, .bool false] 35)) = w0
  have b0 : Below w.heap.size w w0 := by rw [← hW0]; exact balloc _ _
  have k0 : Has w0 w.heap.size 35 #[.int .i64 f, .int .i64 t, .int .i64 p, .int .i64 d, .int .i64 s, .int .i64 u, .bool false] := by rw [← hW0]; exact has_new _ _ _
  clear hW0
  refine (grantI_any w0 f t p d s u false).mono ?_
  rintro e w1 ⟨rfl, hb1⟩
  rw [HG.out]
  have k1 := has_call k0 hb1
  have e2 := has_cell k1 2 rfl; have e4 := has_cell k1 4 rfl; have e5 := has_cell k1 5 rfl; have e6 := has_cell k1 6 rfl
  have B1 := Lib.hid (bthen b0 hb1); clear b0 hb1 k0 k1
  go_wp2_with fail
  go_ret
  exact ⟨rbool (by have hv := HV.out; first | exact hv.symm | (rw [hv]; simp; omega) | (rw [hv]; simp)), B1.out⟩
set_option maxRecDepth 100000 in
set_option maxHeartbeats 2000000 in
theorem appI_any_e0 (w : World) (f t p d s u : Int) (o : Bool) (pp now : Int) (hg : grantB ⟨f, t, p, d, s, u, o⟩ = true) (ho : o = false) (hz : (p == 0) = true) (hs : s ≤ now) (hu : ¬ now < u) : Calls Try.prog 12 #[.agg #[.int .i64 f, .int .i64 t, .int .i64 p, .int .i64 d, .int .i64 s, .int .i64 u, .bool o], .int .i64 pp, .int .i64 now] w fun e w' => e = .returned (.bool (appB pp now ⟨f, t, p, d, s, u, o⟩)) ∧ Below w.heap.size w w' := by
  subst ho
  have hv : (appB pp now ⟨f, t, p, d, s, u, false⟩) = false := by simp [appB, hg, hz, hs, hu]
  have HV := Lib.hid hv; clear hv
  have HG := Lib.hid hg; clear hg
  go_enter Try.func12, Try.ntmps12
  go_wp2_with fail
  generalize hW0 : (w.alloc (.cells #[.int .i64 f, .int .i64 t, .int .i64 p, .int .i64 d, .int .i64 s, .int .i64 u, .bool false] 35)) = w0
  have b0 : Below w.heap.size w w0 := by rw [← hW0]; exact balloc _ _
  have k0 : Has w0 w.heap.size 35 #[.int .i64 f, .int .i64 t, .int .i64 p, .int .i64 d, .int .i64 s, .int .i64 u, .bool false] := by rw [← hW0]; exact has_new _ _ _
  clear hW0
  refine (grantI_any w0 f t p d s u false).mono ?_
  rintro e w1 ⟨rfl, hb1⟩
  rw [HG.out]
  have k1 := has_call k0 hb1
  have e2 := has_cell k1 2 rfl; have e4 := has_cell k1 4 rfl; have e5 := has_cell k1 5 rfl; have e6 := has_cell k1 6 rfl
  have B1 := Lib.hid (bthen b0 hb1); clear b0 hb1 k0 k1
  go_wp2_with fail
  go_ret
  exact ⟨rbool (by have hv := HV.out; first | exact hv.symm | (rw [hv]; simp; omega) | (rw [hv]; simp)), B1.out⟩
set_option maxRecDepth 100000 in
set_option maxHeartbeats 2000000 in
theorem appI_any_f0 (w : World) (f t p d s u : Int) (o : Bool) (pp now : Int) (hg : grantB ⟨f, t, p, d, s, u, o⟩ = true) (ho : o = false) (hz : (p == 0) = true) (hs : s ≤ now) (hu : now < u) : Calls Try.prog 12 #[.agg #[.int .i64 f, .int .i64 t, .int .i64 p, .int .i64 d, .int .i64 s, .int .i64 u, .bool o], .int .i64 pp, .int .i64 now] w fun e w' => e = .returned (.bool (appB pp now ⟨f, t, p, d, s, u, o⟩)) ∧ Below w.heap.size w w' := by
  subst ho
  have hv : (appB pp now ⟨f, t, p, d, s, u, false⟩) = true := by simp [appB, hg, hz, hs, hu]
  have HV := Lib.hid hv; clear hv
  have HG := Lib.hid hg; clear hg
  go_enter Try.func12, Try.ntmps12
  go_wp2_with fail
  generalize hW0 : (w.alloc (.cells #[.int .i64 f, .int .i64 t, .int .i64 p, .int .i64 d, .int .i64 s, .int .i64 u, .bool false] 35)) = w0
  have b0 : Below w.heap.size w w0 := by rw [← hW0]; exact balloc _ _
  have k0 : Has w0 w.heap.size 35 #[.int .i64 f, .int .i64 t, .int .i64 p, .int .i64 d, .int .i64 s, .int .i64 u, .bool false] := by rw [← hW0]; exact has_new _ _ _
  clear hW0
  refine (grantI_any w0 f t p d s u false).mono ?_
  rintro e w1 ⟨rfl, hb1⟩
  rw [HG.out]
  have k1 := has_call k0 hb1
  have e2 := has_cell k1 2 rfl; have e4 := has_cell k1 4 rfl; have e5 := has_cell k1 5 rfl; have e6 := has_cell k1 6 rfl
  have B1 := Lib.hid (bthen b0 hb1); clear b0 hb1 k0 k1
  go_wp2_with fail
  go_ret
  exact ⟨rbool (by have hv := HV.out; first | exact hv.symm | (rw [hv]; simp; omega) | (rw [hv]; simp)), B1.out⟩
set_option maxRecDepth 100000 in
set_option maxHeartbeats 2000000 in
theorem appI_any_d1 (w : World) (f t p d s u : Int) (o : Bool) (pp now : Int) (hg : grantB ⟨f, t, p, d, s, u, o⟩ = true) (ho : o = false) (hz : (p == 0) = false) (hq : (p == pp) = true) (hs : ¬ s ≤ now) : Calls Try.prog 12 #[.agg #[.int .i64 f, .int .i64 t, .int .i64 p, .int .i64 d, .int .i64 s, .int .i64 u, .bool o], .int .i64 pp, .int .i64 now] w fun e w' => e = .returned (.bool (appB pp now ⟨f, t, p, d, s, u, o⟩)) ∧ Below w.heap.size w w' := by
  subst ho
  have hv : (appB pp now ⟨f, t, p, d, s, u, false⟩) = false := by simp [appB, hg, hz, hq, hs]
  have HV := Lib.hid hv; clear hv
  have HG := Lib.hid hg; clear hg
  go_enter Try.func12, Try.ntmps12
  go_wp2_with fail
  generalize hW0 : (w.alloc (.cells #[.int .i64 f, .int .i64 t, .int .i64 p, .int .i64 d, .int .i64 s, .int .i64 u, .bool false] 35)) = w0
  have b0 : Below w.heap.size w w0 := by rw [← hW0]; exact balloc _ _
  have k0 : Has w0 w.heap.size 35 #[.int .i64 f, .int .i64 t, .int .i64 p, .int .i64 d, .int .i64 s, .int .i64 u, .bool false] := by rw [← hW0]; exact has_new _ _ _
  clear hW0
  refine (grantI_any w0 f t p d s u false).mono ?_
  rintro e w1 ⟨rfl, hb1⟩
  rw [HG.out]
  have k1 := has_call k0 hb1
  have e2 := has_cell k1 2 rfl; have e4 := has_cell k1 4 rfl; have e5 := has_cell k1 5 rfl; have e6 := has_cell k1 6 rfl
  have B1 := Lib.hid (bthen b0 hb1); clear b0 hb1 k0 k1
  go_wp2_with fail
  go_ret
  exact ⟨rbool (by have hv := HV.out; first | exact hv.symm | (rw [hv]; simp; omega) | (rw [hv]; simp)), B1.out⟩
set_option maxRecDepth 100000 in
set_option maxHeartbeats 2000000 in
theorem appI_any_e1 (w : World) (f t p d s u : Int) (o : Bool) (pp now : Int) (hg : grantB ⟨f, t, p, d, s, u, o⟩ = true) (ho : o = false) (hz : (p == 0) = false) (hq : (p == pp) = true) (hs : s ≤ now) (hu : ¬ now < u) : Calls Try.prog 12 #[.agg #[.int .i64 f, .int .i64 t, .int .i64 p, .int .i64 d, .int .i64 s, .int .i64 u, .bool o], .int .i64 pp, .int .i64 now] w fun e w' => e = .returned (.bool (appB pp now ⟨f, t, p, d, s, u, o⟩)) ∧ Below w.heap.size w w' := by
  subst ho
  have hv : (appB pp now ⟨f, t, p, d, s, u, false⟩) = false := by simp [appB, hg, hz, hq, hs, hu]
  have HV := Lib.hid hv; clear hv
  have HG := Lib.hid hg; clear hg
  go_enter Try.func12, Try.ntmps12
  go_wp2_with fail
  generalize hW0 : (w.alloc (.cells #[.int .i64 f, .int .i64 t, .int .i64 p, .int .i64 d, .int .i64 s, .int .i64 u, .bool false] 35)) = w0
  have b0 : Below w.heap.size w w0 := by rw [← hW0]; exact balloc _ _
  have k0 : Has w0 w.heap.size 35 #[.int .i64 f, .int .i64 t, .int .i64 p, .int .i64 d, .int .i64 s, .int .i64 u, .bool false] := by rw [← hW0]; exact has_new _ _ _
  clear hW0
  refine (grantI_any w0 f t p d s u false).mono ?_
  rintro e w1 ⟨rfl, hb1⟩
  rw [HG.out]
  have k1 := has_call k0 hb1
  have e2 := has_cell k1 2 rfl; have e4 := has_cell k1 4 rfl; have e5 := has_cell k1 5 rfl; have e6 := has_cell k1 6 rfl
  have B1 := Lib.hid (bthen b0 hb1); clear b0 hb1 k0 k1
  go_wp2_with fail
  go_ret
  exact ⟨rbool (by have hv := HV.out; first | exact hv.symm | (rw [hv]; simp; omega) | (rw [hv]; simp)), B1.out⟩
set_option maxRecDepth 100000 in
set_option maxHeartbeats 2000000 in
theorem appI_any_f1 (w : World) (f t p d s u : Int) (o : Bool) (pp now : Int) (hg : grantB ⟨f, t, p, d, s, u, o⟩ = true) (ho : o = false) (hz : (p == 0) = false) (hq : (p == pp) = true) (hs : s ≤ now) (hu : now < u) : Calls Try.prog 12 #[.agg #[.int .i64 f, .int .i64 t, .int .i64 p, .int .i64 d, .int .i64 s, .int .i64 u, .bool o], .int .i64 pp, .int .i64 now] w fun e w' => e = .returned (.bool (appB pp now ⟨f, t, p, d, s, u, o⟩)) ∧ Below w.heap.size w w' := by
  subst ho
  have hv : (appB pp now ⟨f, t, p, d, s, u, false⟩) = true := by simp [appB, hg, hz, hq, hs, hu]
  have HV := Lib.hid hv; clear hv
  have HG := Lib.hid hg; clear hg
  go_enter Try.func12, Try.ntmps12
  go_wp2_with fail
  generalize hW0 : (w.alloc (.cells #[.int .i64 f, .int .i64 t, .int .i64 p, .int .i64 d, .int .i64 s, .int .i64 u, .bool false] 35)) = w0
  have b0 : Below w.heap.size w w0 := by rw [← hW0]; exact balloc _ _
  have k0 : Has w0 w.heap.size 35 #[.int .i64 f, .int .i64 t, .int .i64 p, .int .i64 d, .int .i64 s, .int .i64 u, .bool false] := by rw [← hW0]; exact has_new _ _ _
  clear hW0
  refine (grantI_any w0 f t p d s u false).mono ?_
  rintro e w1 ⟨rfl, hb1⟩
  rw [HG.out]
  have k1 := has_call k0 hb1
  have e2 := has_cell k1 2 rfl; have e4 := has_cell k1 4 rfl; have e5 := has_cell k1 5 rfl; have e6 := has_cell k1 6 rfl
  have B1 := Lib.hid (bthen b0 hb1); clear b0 hb1 k0 k1
  go_wp2_with fail
  go_ret
  exact ⟨rbool (by have hv := HV.out; first | exact hv.symm | (rw [hv]; simp; omega) | (rw [hv]; simp)), B1.out⟩
theorem appI_any (w : World) (f t p d s u : Int) (o : Bool) (pp now : Int) : Calls Try.prog 12 #[.agg #[.int .i64 f, .int .i64 t, .int .i64 p, .int .i64 d, .int .i64 s, .int .i64 u, .bool o], .int .i64 pp, .int .i64 now] w fun e w' => e = .returned (.bool (appB pp now ⟨f, t, p, d, s, u, o⟩)) ∧ Below w.heap.size w w' := by
  cases hg : grantB ⟨f, t, p, d, s, u, o⟩
  · exact appI_any_a w f t p d s u o pp now hg
  cases ho : o
  · rw [ho] at hg
    cases hz : p == 0
    · cases hq : p == pp
      · exact appI_any_c w f t p d s u false pp now hg rfl hz hq
      · by_cases hs : s ≤ now
        · by_cases hu : now < u
          · exact appI_any_f1 w f t p d s u false pp now hg rfl hz hq hs hu
          · exact appI_any_e1 w f t p d s u false pp now hg rfl hz hq hs hu
        · exact appI_any_d1 w f t p d s u false pp now hg rfl hz hq hs
    · by_cases hs : s ≤ now
      · by_cases hu : now < u
        · exact appI_any_f0 w f t p d s u false pp now hg rfl hz hs hu
        · exact appI_any_e0 w f t p d s u false pp now hg rfl hz hs hu
      · exact appI_any_d0 w f t p d s u false pp now hg rfl hz hs
  · rw [ho] at hg; exact appI_any_b w f t p d s u true pp now hg rfl
set_option maxRecDepth 100000 in
set_option maxHeartbeats 2000000 in
theorem appS_any_a (w : World) (f t p d s u : Int) (o : Bool) (pp now : Int) (hg : grantB ⟨f, t, p, d, s, u, o⟩ = false) : Calls Try.prog 25 #[.agg #[.int .i64 f, .int .i64 t, .int .i64 p, .int .i64 d, .int .i64 s, .int .i64 u, .bool o], .int .i64 pp, .int .i64 now] w fun e w' => e = .returned (.bool (appB pp now ⟨f, t, p, d, s, u, o⟩)) ∧ Below w.heap.size w w' := by
  have hv : (appB pp now ⟨f, t, p, d, s, u, o⟩) = false := by simp [appB, hg]
  have HV := Lib.hid hv; clear hv
  have HG := Lib.hid hg; clear hg
  go_enter Try.func25, Try.ntmps25
  go_wp2_with fail
  generalize hW0 : (w.alloc (.cells #[.int .i64 f, .int .i64 t, .int .i64 p, .int .i64 d, .int .i64 s, .int .i64 u, .bool o] 35)) = w0
  have b0 : Below w.heap.size w w0 := by rw [← hW0]; exact balloc _ _
  have k0 : Has w0 w.heap.size 35 #[.int .i64 f, .int .i64 t, .int .i64 p, .int .i64 d, .int .i64 s, .int .i64 u, .bool o] := by rw [← hW0]; exact has_new _ _ _
  clear hW0
  refine (grantS_any w0 f t p d s u o).mono ?_
  rintro e w1 ⟨rfl, hb1⟩
  rw [HG.out]
  have k1 := has_call k0 hb1
  have e2 := has_cell k1 2 rfl; have e4 := has_cell k1 4 rfl; have e5 := has_cell k1 5 rfl; have e6 := has_cell k1 6 rfl
  have B1 := Lib.hid (bthen b0 hb1); clear b0 hb1 k0 k1
  go_wp2_with fail
  go_ret
  exact ⟨rbool (by have hv := HV.out; first | exact hv.symm | (rw [hv]; simp; omega) | (rw [hv]; simp)), B1.out⟩
set_option maxRecDepth 100000 in
set_option maxHeartbeats 2000000 in
theorem appS_any_b (w : World) (f t p d s u : Int) (o : Bool) (pp now : Int) (hg : grantB ⟨f, t, p, d, s, u, o⟩ = true) (ho : o = true) : Calls Try.prog 25 #[.agg #[.int .i64 f, .int .i64 t, .int .i64 p, .int .i64 d, .int .i64 s, .int .i64 u, .bool o], .int .i64 pp, .int .i64 now] w fun e w' => e = .returned (.bool (appB pp now ⟨f, t, p, d, s, u, o⟩)) ∧ Below w.heap.size w w' := by
  subst ho
  have hv : (appB pp now ⟨f, t, p, d, s, u, true⟩) = false := by simp [appB, hg]
  have HV := Lib.hid hv; clear hv
  have HG := Lib.hid hg; clear hg
  go_enter Try.func25, Try.ntmps25
  go_wp2_with fail
  generalize hW0 : (w.alloc (.cells #[.int .i64 f, .int .i64 t, .int .i64 p, .int .i64 d, .int .i64 s, .int .i64 u, .bool true] 35)) = w0
  have b0 : Below w.heap.size w w0 := by rw [← hW0]; exact balloc _ _
  have k0 : Has w0 w.heap.size 35 #[.int .i64 f, .int .i64 t, .int .i64 p, .int .i64 d, .int .i64 s, .int .i64 u, .bool true] := by rw [← hW0]; exact has_new _ _ _
  clear hW0
  refine (grantS_any w0 f t p d s u true).mono ?_
  rintro e w1 ⟨rfl, hb1⟩
  rw [HG.out]
  have k1 := has_call k0 hb1
  have e2 := has_cell k1 2 rfl; have e4 := has_cell k1 4 rfl; have e5 := has_cell k1 5 rfl; have e6 := has_cell k1 6 rfl
  have B1 := Lib.hid (bthen b0 hb1); clear b0 hb1 k0 k1
  go_wp2_with fail
  go_ret
  exact ⟨rbool (by have hv := HV.out; first | exact hv.symm | (rw [hv]; simp; omega) | (rw [hv]; simp)), B1.out⟩
set_option maxRecDepth 100000 in
set_option maxHeartbeats 2000000 in
theorem appS_any_c (w : World) (f t p d s u : Int) (o : Bool) (pp now : Int) (hg : grantB ⟨f, t, p, d, s, u, o⟩ = true) (ho : o = false) (hz : (p == 0) = false) (hq : (p == pp) = false) : Calls Try.prog 25 #[.agg #[.int .i64 f, .int .i64 t, .int .i64 p, .int .i64 d, .int .i64 s, .int .i64 u, .bool o], .int .i64 pp, .int .i64 now] w fun e w' => e = .returned (.bool (appB pp now ⟨f, t, p, d, s, u, o⟩)) ∧ Below w.heap.size w w' := by
  subst ho
  have hv : (appB pp now ⟨f, t, p, d, s, u, false⟩) = false := by simp [appB, hg, hz, hq]
  have HV := Lib.hid hv; clear hv
  have HG := Lib.hid hg; clear hg
  go_enter Try.func25, Try.ntmps25
  go_wp2_with fail
  generalize hW0 : (w.alloc (.cells #[.int .i64 f, .int .i64 t, .int .i64 p, .int .i64 d, .int .i64 s, .int .i64 u, .bool false] 35)) = w0
  have b0 : Below w.heap.size w w0 := by rw [← hW0]; exact balloc _ _
  have k0 : Has w0 w.heap.size 35 #[.int .i64 f, .int .i64 t, .int .i64 p, .int .i64 d, .int .i64 s, .int .i64 u, .bool false] := by rw [← hW0]; exact has_new _ _ _
  clear hW0
  refine (grantS_any w0 f t p d s u false).mono ?_
  rintro e w1 ⟨rfl, hb1⟩
  rw [HG.out]
  have k1 := has_call k0 hb1
  have e2 := has_cell k1 2 rfl; have e4 := has_cell k1 4 rfl; have e5 := has_cell k1 5 rfl; have e6 := has_cell k1 6 rfl
  have B1 := Lib.hid (bthen b0 hb1); clear b0 hb1 k0 k1
  go_wp2_with fail
  go_ret
  exact ⟨rbool (by have hv := HV.out; first | exact hv.symm | (rw [hv]; simp; omega) | (rw [hv]; simp)), B1.out⟩
set_option maxRecDepth 100000 in
set_option maxHeartbeats 2000000 in
theorem appS_any_d0 (w : World) (f t p d s u : Int) (o : Bool) (pp now : Int) (hg : grantB ⟨f, t, p, d, s, u, o⟩ = true) (ho : o = false) (hz : (p == 0) = true) (hs : ¬ s ≤ now) : Calls Try.prog 25 #[.agg #[.int .i64 f, .int .i64 t, .int .i64 p, .int .i64 d, .int .i64 s, .int .i64 u, .bool o], .int .i64 pp, .int .i64 now] w fun e w' => e = .returned (.bool (appB pp now ⟨f, t, p, d, s, u, o⟩)) ∧ Below w.heap.size w w' := by
  subst ho
  have hv : (appB pp now ⟨f, t, p, d, s, u, false⟩) = false := by simp [appB, hg, hz, hs]
  have HV := Lib.hid hv; clear hv
  have HG := Lib.hid hg; clear hg
  go_enter Try.func25, Try.ntmps25
  go_wp2_with fail
  generalize hW0 : (w.alloc (.cells #[.int .i64 f, .int .i64 t, .int .i64 p, .int .i64 d, .int .i64 s, .int .i64 u, .bool false] 35)) = w0
  have b0 : Below w.heap.size w w0 := by rw [← hW0]; exact balloc _ _
  have k0 : Has w0 w.heap.size 35 #[.int .i64 f, .int .i64 t, .int .i64 p, .int .i64 d, .int .i64 s, .int .i64 u, .bool false] := by rw [← hW0]; exact has_new _ _ _
  clear hW0
  refine (grantS_any w0 f t p d s u false).mono ?_
  rintro e w1 ⟨rfl, hb1⟩
  rw [HG.out]
  have k1 := has_call k0 hb1
  have e2 := has_cell k1 2 rfl; have e4 := has_cell k1 4 rfl; have e5 := has_cell k1 5 rfl; have e6 := has_cell k1 6 rfl
  have B1 := Lib.hid (bthen b0 hb1); clear b0 hb1 k0 k1
  go_wp2_with fail
  go_ret
  exact ⟨rbool (by have hv := HV.out; first | exact hv.symm | (rw [hv]; simp; omega) | (rw [hv]; simp)), B1.out⟩
set_option maxRecDepth 100000 in
set_option maxHeartbeats 2000000 in
theorem appS_any_e0 (w : World) (f t p d s u : Int) (o : Bool) (pp now : Int) (hg : grantB ⟨f, t, p, d, s, u, o⟩ = true) (ho : o = false) (hz : (p == 0) = true) (hs : s ≤ now) (hu : ¬ now < u) : Calls Try.prog 25 #[.agg #[.int .i64 f, .int .i64 t, .int .i64 p, .int .i64 d, .int .i64 s, .int .i64 u, .bool o], .int .i64 pp, .int .i64 now] w fun e w' => e = .returned (.bool (appB pp now ⟨f, t, p, d, s, u, o⟩)) ∧ Below w.heap.size w w' := by
  subst ho
  have hv : (appB pp now ⟨f, t, p, d, s, u, false⟩) = false := by simp [appB, hg, hz, hs, hu]
  have HV := Lib.hid hv; clear hv
  have HG := Lib.hid hg; clear hg
  go_enter Try.func25, Try.ntmps25
  go_wp2_with fail
  generalize hW0 : (w.alloc (.cells #[.int .i64 f, .int .i64 t, .int .i64 p, .int .i64 d, .int .i64 s, .int .i64 u, .bool false] 35)) = w0
  have b0 : Below w.heap.size w w0 := by rw [← hW0]; exact balloc _ _
  have k0 : Has w0 w.heap.size 35 #[.int .i64 f, .int .i64 t, .int .i64 p, .int .i64 d, .int .i64 s, .int .i64 u, .bool false] := by rw [← hW0]; exact has_new _ _ _
  clear hW0
  refine (grantS_any w0 f t p d s u false).mono ?_
  rintro e w1 ⟨rfl, hb1⟩
  rw [HG.out]
  have k1 := has_call k0 hb1
  have e2 := has_cell k1 2 rfl; have e4 := has_cell k1 4 rfl; have e5 := has_cell k1 5 rfl; have e6 := has_cell k1 6 rfl
  have B1 := Lib.hid (bthen b0 hb1); clear b0 hb1 k0 k1
  go_wp2_with fail
  go_ret
  exact ⟨rbool (by have hv := HV.out; first | exact hv.symm | (rw [hv]; simp; omega) | (rw [hv]; simp)), B1.out⟩
set_option maxRecDepth 100000 in
set_option maxHeartbeats 2000000 in
theorem appS_any_f0 (w : World) (f t p d s u : Int) (o : Bool) (pp now : Int) (hg : grantB ⟨f, t, p, d, s, u, o⟩ = true) (ho : o = false) (hz : (p == 0) = true) (hs : s ≤ now) (hu : now < u) : Calls Try.prog 25 #[.agg #[.int .i64 f, .int .i64 t, .int .i64 p, .int .i64 d, .int .i64 s, .int .i64 u, .bool o], .int .i64 pp, .int .i64 now] w fun e w' => e = .returned (.bool (appB pp now ⟨f, t, p, d, s, u, o⟩)) ∧ Below w.heap.size w w' := by
  subst ho
  have hv : (appB pp now ⟨f, t, p, d, s, u, false⟩) = true := by simp [appB, hg, hz, hs, hu]
  have HV := Lib.hid hv; clear hv
  have HG := Lib.hid hg; clear hg
  go_enter Try.func25, Try.ntmps25
  go_wp2_with fail
  generalize hW0 : (w.alloc (.cells #[.int .i64 f, .int .i64 t, .int .i64 p, .int .i64 d, .int .i64 s, .int .i64 u, .bool false] 35)) = w0
  have b0 : Below w.heap.size w w0 := by rw [← hW0]; exact balloc _ _
  have k0 : Has w0 w.heap.size 35 #[.int .i64 f, .int .i64 t, .int .i64 p, .int .i64 d, .int .i64 s, .int .i64 u, .bool false] := by rw [← hW0]; exact has_new _ _ _
  clear hW0
  refine (grantS_any w0 f t p d s u false).mono ?_
  rintro e w1 ⟨rfl, hb1⟩
  rw [HG.out]
  have k1 := has_call k0 hb1
  have e2 := has_cell k1 2 rfl; have e4 := has_cell k1 4 rfl; have e5 := has_cell k1 5 rfl; have e6 := has_cell k1 6 rfl
  have B1 := Lib.hid (bthen b0 hb1); clear b0 hb1 k0 k1
  go_wp2_with fail
  go_ret
  exact ⟨rbool (by have hv := HV.out; first | exact hv.symm | (rw [hv]; simp; omega) | (rw [hv]; simp)), B1.out⟩
set_option maxRecDepth 100000 in
set_option maxHeartbeats 2000000 in
theorem appS_any_d1 (w : World) (f t p d s u : Int) (o : Bool) (pp now : Int) (hg : grantB ⟨f, t, p, d, s, u, o⟩ = true) (ho : o = false) (hz : (p == 0) = false) (hq : (p == pp) = true) (hs : ¬ s ≤ now) : Calls Try.prog 25 #[.agg #[.int .i64 f, .int .i64 t, .int .i64 p, .int .i64 d, .int .i64 s, .int .i64 u, .bool o], .int .i64 pp, .int .i64 now] w fun e w' => e = .returned (.bool (appB pp now ⟨f, t, p, d, s, u, o⟩)) ∧ Below w.heap.size w w' := by
  subst ho
  have hv : (appB pp now ⟨f, t, p, d, s, u, false⟩) = false := by simp [appB, hg, hz, hq, hs]
  have HV := Lib.hid hv; clear hv
  have HG := Lib.hid hg; clear hg
  go_enter Try.func25, Try.ntmps25
  go_wp2_with fail
  generalize hW0 : (w.alloc (.cells #[.int .i64 f, .int .i64 t, .int .i64 p, .int .i64 d, .int .i64 s, .int .i64 u, .bool false] 35)) = w0
  have b0 : Below w.heap.size w w0 := by rw [← hW0]; exact balloc _ _
  have k0 : Has w0 w.heap.size 35 #[.int .i64 f, .int .i64 t, .int .i64 p, .int .i64 d, .int .i64 s, .int .i64 u, .bool false] := by rw [← hW0]; exact has_new _ _ _
  clear hW0
  refine (grantS_any w0 f t p d s u false).mono ?_
  rintro e w1 ⟨rfl, hb1⟩
  rw [HG.out]
  have k1 := has_call k0 hb1
  have e2 := has_cell k1 2 rfl; have e4 := has_cell k1 4 rfl; have e5 := has_cell k1 5 rfl; have e6 := has_cell k1 6 rfl
  have B1 := Lib.hid (bthen b0 hb1); clear b0 hb1 k0 k1
  go_wp2_with fail
  go_ret
  exact ⟨rbool (by have hv := HV.out; first | exact hv.symm | (rw [hv]; simp; omega) | (rw [hv]; simp)), B1.out⟩
set_option maxRecDepth 100000 in
set_option maxHeartbeats 2000000 in
theorem appS_any_e1 (w : World) (f t p d s u : Int) (o : Bool) (pp now : Int) (hg : grantB ⟨f, t, p, d, s, u, o⟩ = true) (ho : o = false) (hz : (p == 0) = false) (hq : (p == pp) = true) (hs : s ≤ now) (hu : ¬ now < u) : Calls Try.prog 25 #[.agg #[.int .i64 f, .int .i64 t, .int .i64 p, .int .i64 d, .int .i64 s, .int .i64 u, .bool o], .int .i64 pp, .int .i64 now] w fun e w' => e = .returned (.bool (appB pp now ⟨f, t, p, d, s, u, o⟩)) ∧ Below w.heap.size w w' := by
  subst ho
  have hv : (appB pp now ⟨f, t, p, d, s, u, false⟩) = false := by simp [appB, hg, hz, hq, hs, hu]
  have HV := Lib.hid hv; clear hv
  have HG := Lib.hid hg; clear hg
  go_enter Try.func25, Try.ntmps25
  go_wp2_with fail
  generalize hW0 : (w.alloc (.cells #[.int .i64 f, .int .i64 t, .int .i64 p, .int .i64 d, .int .i64 s, .int .i64 u, .bool false] 35)) = w0
  have b0 : Below w.heap.size w w0 := by rw [← hW0]; exact balloc _ _
  have k0 : Has w0 w.heap.size 35 #[.int .i64 f, .int .i64 t, .int .i64 p, .int .i64 d, .int .i64 s, .int .i64 u, .bool false] := by rw [← hW0]; exact has_new _ _ _
  clear hW0
  refine (grantS_any w0 f t p d s u false).mono ?_
  rintro e w1 ⟨rfl, hb1⟩
  rw [HG.out]
  have k1 := has_call k0 hb1
  have e2 := has_cell k1 2 rfl; have e4 := has_cell k1 4 rfl; have e5 := has_cell k1 5 rfl; have e6 := has_cell k1 6 rfl
  have B1 := Lib.hid (bthen b0 hb1); clear b0 hb1 k0 k1
  go_wp2_with fail
  go_ret
  exact ⟨rbool (by have hv := HV.out; first | exact hv.symm | (rw [hv]; simp; omega) | (rw [hv]; simp)), B1.out⟩
set_option maxRecDepth 100000 in
set_option maxHeartbeats 2000000 in
theorem appS_any_f1 (w : World) (f t p d s u : Int) (o : Bool) (pp now : Int) (hg : grantB ⟨f, t, p, d, s, u, o⟩ = true) (ho : o = false) (hz : (p == 0) = false) (hq : (p == pp) = true) (hs : s ≤ now) (hu : now < u) : Calls Try.prog 25 #[.agg #[.int .i64 f, .int .i64 t, .int .i64 p, .int .i64 d, .int .i64 s, .int .i64 u, .bool o], .int .i64 pp, .int .i64 now] w fun e w' => e = .returned (.bool (appB pp now ⟨f, t, p, d, s, u, o⟩)) ∧ Below w.heap.size w w' := by
  subst ho
  have hv : (appB pp now ⟨f, t, p, d, s, u, false⟩) = true := by simp [appB, hg, hz, hq, hs, hu]
  have HV := Lib.hid hv; clear hv
  have HG := Lib.hid hg; clear hg
  go_enter Try.func25, Try.ntmps25
  go_wp2_with fail
  generalize hW0 : (w.alloc (.cells #[.int .i64 f, .int .i64 t, .int .i64 p, .int .i64 d, .int .i64 s, .int .i64 u, .bool false] 35)) = w0
  have b0 : Below w.heap.size w w0 := by rw [← hW0]; exact balloc _ _
  have k0 : Has w0 w.heap.size 35 #[.int .i64 f, .int .i64 t, .int .i64 p, .int .i64 d, .int .i64 s, .int .i64 u, .bool false] := by rw [← hW0]; exact has_new _ _ _
  clear hW0
  refine (grantS_any w0 f t p d s u false).mono ?_
  rintro e w1 ⟨rfl, hb1⟩
  rw [HG.out]
  have k1 := has_call k0 hb1
  have e2 := has_cell k1 2 rfl; have e4 := has_cell k1 4 rfl; have e5 := has_cell k1 5 rfl; have e6 := has_cell k1 6 rfl
  have B1 := Lib.hid (bthen b0 hb1); clear b0 hb1 k0 k1
  go_wp2_with fail
  go_ret
  exact ⟨rbool (by have hv := HV.out; first | exact hv.symm | (rw [hv]; simp; omega) | (rw [hv]; simp)), B1.out⟩
theorem appS_any (w : World) (f t p d s u : Int) (o : Bool) (pp now : Int) : Calls Try.prog 25 #[.agg #[.int .i64 f, .int .i64 t, .int .i64 p, .int .i64 d, .int .i64 s, .int .i64 u, .bool o], .int .i64 pp, .int .i64 now] w fun e w' => e = .returned (.bool (appB pp now ⟨f, t, p, d, s, u, o⟩)) ∧ Below w.heap.size w w' := by
  cases hg : grantB ⟨f, t, p, d, s, u, o⟩
  · exact appS_any_a w f t p d s u o pp now hg
  cases ho : o
  · rw [ho] at hg
    cases hz : p == 0
    · cases hq : p == pp
      · exact appS_any_c w f t p d s u false pp now hg rfl hz hq
      · by_cases hs : s ≤ now
        · by_cases hu : now < u
          · exact appS_any_f1 w f t p d s u false pp now hg rfl hz hq hs hu
          · exact appS_any_e1 w f t p d s u false pp now hg rfl hz hq hs hu
        · exact appS_any_d1 w f t p d s u false pp now hg rfl hz hq hs
    · by_cases hs : s ≤ now
      · by_cases hu : now < u
        · exact appS_any_f0 w f t p d s u false pp now hg rfl hz hs hu
        · exact appS_any_e0 w f t p d s u false pp now hg rfl hz hs hu
      · exact appS_any_d0 w f t p d s u false pp now hg rfl hz hs
  · rw [ho] at hg; exact appS_any_b w f t p d s u true pp now hg rfl
end Go.Proofs.Ytdaeljjjcgpcoaa
