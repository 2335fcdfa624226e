
/- Chapter 5: contracts of the functions that ask whether a grant is valid or applies, both sides (gen_gra.py). -/
import Derived.Test.YtjpkpfmpjgeeiaaGreatQ17
import Derived.Test.YtjpkpfmpjgeeiaaGreatQ19
import Derived.Test.YtjpkpfmpjgeeiaaGreatQ01
import Derived.Deep.RegionWith
import Derived.Deep.LoopGhost
import Derived.Deep.RegionHeld3
namespace Go.Proofs.YtjpkpfmpjgeeiaaGreat
open Go.RowKit
set_option linter.unusedVariables false

set_option maxHeartbeats 1000000 in
theorem perI_any (w : World) (x : Int) : Calls Tryz.prog 84 #[.int .i64 x] w fun e w' => e = .returned (.bool (perB x)) ∧ w' = w := by
  go_enter Tryz.func84, Tryz.ntmps84
  go_wp2
  all_goals (go_ret; exact ⟨rbool (by simp_all [perB, inR] <;> omega), rfl⟩)
set_option maxHeartbeats 1000000 in
theorem timI_any (w : World) (x : Int) : Calls Tryz.prog 76 #[.int .i64 x] w fun e w' => e = .returned (.bool (timB x)) ∧ w' = w := by
  go_enter Tryz.func76, Tryz.ntmps76
  go_wp2
  all_goals (go_ret; exact ⟨rbool (by simp_all [timB, inR] <;> omega), rfl⟩)
set_option maxHeartbeats 1000000 in
theorem parI_any (w : World) (x : Int) : Calls Tryz.prog 140 #[.int .i64 x] w fun e w' => e = .returned (.bool (inR x 1 999)) ∧ w' = w := by
  go_enter Tryz.func140, Tryz.ntmps140
  go_wp2
  all_goals (go_ret; exact ⟨rbool (by simp_all [inR] <;> omega), rfl⟩)
theorem perS_any (w : World) (x : Int) : Calls Tryz.prog 65 #[.int .i64 x] w fun e w' => e = .returned (.bool (perB x)) ∧ w' = w := by
  go_enter Tryz.func65, Tryz.ntmps65
  go_wp2_with (refine (inR_any _ _ _ _).mono ?_; rintro e w1 ⟨rfl, hw⟩; rw [hw]; clear hw)
  go_ret
  exact ⟨rfl, rfl⟩
theorem timS_any (w : World) (x : Int) : Calls Tryz.prog 103 #[.int .i64 x] w fun e w' => e = .returned (.bool (timB x)) ∧ w' = w := by
  go_enter Tryz.func103, Tryz.ntmps103
  go_wp2_with (refine (inR_any _ _ _ _).mono ?_; rintro e w1 ⟨rfl, hw⟩; rw [hw]; clear hw)
  go_ret
  exact ⟨rfl, rfl⟩
set_option maxRecDepth 100000 in
set_option maxHeartbeats 2000000 in
theorem grantI_any_1f (w : World) (f : Int) (t : Int) (p : Int) (d : Int) (s : Int) (u : Int) (o : Bool) (h1 : (perB f) = false) :
    Calls Tryz.prog 110 #[.agg #[.int .i64 f, .int .i64 t, .int .i64 p, .int .i64 d, .int .i64 s, .int .i64 u, .bool o]] w fun e w' => e = .returned (.bool ((grantB ⟨f, t, p, d, s, u, o⟩))) ∧ Below w.heap.size w w' := by
  have hv : ((grantB ⟨f, t, p, d, s, u, o⟩)) = false := by simp [grantB, inR, h1]
  have HV := Lib.hid hv; clear hv
  have H1 := Lib.hid h1; clear h1
  go_enter Tryz.func110, Tryz.ntmps110
  go_wp2_with (first | (go_at_call 84; refine (perI_any _ _).mono ?_; rintro e w1 ⟨rfl, hw⟩; rw [hw]; clear hw; rw [H1.out]))
  go_ret
  exact ⟨rbool (by have hv := HV.out; first | exact hv.symm | (rw [hv]; simp; omega) | (rw [hv]; simp)), balloc _ _⟩
set_option maxRecDepth 100000 in
set_option maxHeartbeats 2000000 in
theorem grantI_any_2f (w : World) (f : Int) (t : Int) (p : Int) (d : Int) (s : Int) (u : Int) (o : Bool) (h1 : (perB f) = true) (h2 : (perB t) = false) :
    Calls Tryz.prog 110 #[.agg #[.int .i64 f, .int .i64 t, .int .i64 p, .int .i64 d, .int .i64 s, .int .i64 u, .bool o]] w fun e w' => e = .returned (.bool ((grantB ⟨f, t, p, d, s, u, o⟩))) ∧ Below w.heap.size w w' := by
  have hv : ((grantB ⟨f, t, p, d, s, u, o⟩)) = false := by simp [grantB, inR, h1, h2]
  have HV := Lib.hid hv; clear hv
  have H1 := Lib.hid h1; clear h1
  have H2 := Lib.hid h2; clear h2
  go_enter Tryz.func110, Tryz.ntmps110
  go_wp2_with (first | (go_at_call 84; refine (perI_any _ _).mono ?_; rintro e w1 ⟨rfl, hw⟩; rw [hw]; clear hw; first | rw [H1.out] | rw [H2.out]))
  go_ret
  exact ⟨rbool (by have hv := HV.out; first | exact hv.symm | (rw [hv]; simp; omega) | (rw [hv]; simp)), balloc _ _⟩
set_option maxRecDepth 100000 in
set_option maxHeartbeats 2000000 in
theorem grantI_any_3f (w : World) (f : Int) (t : Int) (p : Int) (d : Int) (s : Int) (u : Int) (o : Bool) (h1 : (perB f) = true) (h2 : (perB t) = true) (h3 : (f != t) = false) :
    Calls Tryz.prog 110 #[.agg #[.int .i64 f, .int .i64 t, .int .i64 p, .int .i64 d, .int .i64 s, .int .i64 u, .bool o]] w fun e w' => e = .returned (.bool ((grantB ⟨f, t, p, d, s, u, o⟩))) ∧ Below w.heap.size w w' := by
  have hv : ((grantB ⟨f, t, p, d, s, u, o⟩)) = false := by simp [grantB, inR, h1, h2, h3]
  have HV := Lib.hid hv; clear hv
  have H1 := Lib.hid h1; clear h1
  have H2 := Lib.hid h2; clear h2
  go_enter Tryz.func110, Tryz.ntmps110
  go_wp2_with (first | (go_at_call 84; refine (perI_any _ _).mono ?_; rintro e w1 ⟨rfl, hw⟩; rw [hw]; clear hw; first | rw [H1.out] | rw [H2.out]))
  go_ret
  exact ⟨rbool (by have hv := HV.out; first | exact hv.symm | (rw [hv]; simp; omega) | (rw [hv]; simp)), balloc _ _⟩
set_option maxRecDepth 100000 in
set_option maxHeartbeats 2000000 in
theorem grantI_any_4f (w : World) (f : Int) (t : Int) (p : Int) (d : Int) (s : Int) (u : Int) (o : Bool) (h1 : (perB f) = true) (h2 : (perB t) = true) (h3 : (f != t) = true) (h4 : (decide (0 ≤ p)) = false) :
    Calls Tryz.prog 110 #[.agg #[.int .i64 f, .int .i64 t, .int .i64 p, .int .i64 d, .int .i64 s, .int .i64 u, .bool o]] w fun e w' => e = .returned (.bool ((grantB ⟨f, t, p, d, s, u, o⟩))) ∧ Below w.heap.size w w' := by
  have hv : ((grantB ⟨f, t, p, d, s, u, o⟩)) = false := by simp [grantB, inR, h1, h2, h3, h4]
  have HV := Lib.hid hv; clear hv
  have H1 := Lib.hid h1; clear h1
  have H2 := Lib.hid h2; clear h2
  have g4 : ¬ (0 ≤ p) := by simpa using h4
  clear h4
  go_enter Tryz.func110, Tryz.ntmps110
  go_wp2_with (first | (go_at_call 84; refine (perI_any _ _).mono ?_; rintro e w1 ⟨rfl, hw⟩; rw [hw]; clear hw; first | rw [H1.out] | rw [H2.out]))
  go_ret
  exact ⟨rbool (by have hv := HV.out; first | exact hv.symm | (rw [hv]; simp; omega) | (rw [hv]; simp)), balloc _ _⟩
set_option maxRecDepth 100000 in
set_option maxHeartbeats 2000000 in
theorem grantI_any_5f (w : World) (f : Int) (t : Int) (p : Int) (d : Int) (s : Int) (u : Int) (o : Bool) (h1 : (perB f) = true) (h2 : (perB t) = true) (h3 : (f != t) = true) (h4 : (decide (0 ≤ p)) = true) (h5 : (decide (p ≤ 999)) = false) :
    Calls Tryz.prog 110 #[.agg #[.int .i64 f, .int .i64 t, .int .i64 p, .int .i64 d, .int .i64 s, .int .i64 u, .bool o]] w fun e w' => e = .returned (.bool ((grantB ⟨f, t, p, d, s, u, o⟩))) ∧ Below w.heap.size w w' := by
  have hv : ((grantB ⟨f, t, p, d, s, u, o⟩)) = false := by simp [grantB, inR, h1, h2, h3, h4, h5]
  have HV := Lib.hid hv; clear hv
  have H1 := Lib.hid h1; clear h1
  have H2 := Lib.hid h2; clear h2
  have g4 : (0 ≤ p) := by simpa using h4
  clear h4
  have g5 : ¬ (p ≤ 999) := by simpa using h5
  clear h5
  go_enter Tryz.func110, Tryz.ntmps110
  go_wp2_with (first | (go_at_call 84; refine (perI_any _ _).mono ?_; rintro e w1 ⟨rfl, hw⟩; rw [hw]; clear hw; first | rw [H1.out] | rw [H2.out]))
  go_ret
  exact ⟨rbool (by have hv := HV.out; first | exact hv.symm | (rw [hv]; simp; omega) | (rw [hv]; simp)), balloc _ _⟩
set_option maxRecDepth 100000 in
set_option maxHeartbeats 2000000 in
theorem grantI_any_6f (w : World) (f : Int) (t : Int) (p : Int) (d : Int) (s : Int) (u : Int) (o : Bool) (h1 : (perB f) = true) (h2 : (perB t) = true) (h3 : (f != t) = true) (h4 : (decide (0 ≤ p)) = true) (h5 : (decide (p ≤ 999)) = true) (h6 : (decide (0 ≤ d)) = false) :
    Calls Tryz.prog 110 #[.agg #[.int .i64 f, .int .i64 t, .int .i64 p, .int .i64 d, .int .i64 s, .int .i64 u, .bool o]] w fun e w' => e = .returned (.bool ((grantB ⟨f, t, p, d, s, u, o⟩))) ∧ Below w.heap.size w w' := by
  have hv : ((grantB ⟨f, t, p, d, s, u, o⟩)) = false := by simp [grantB, inR, h1, h2, h3, h4, h5, h6]
  have HV := Lib.hid hv; clear hv
  have H1 := Lib.hid h1; clear h1
  have H2 := Lib.hid h2; clear h2
  have g4 : (0 ≤ p) := by simpa using h4
  clear h4
  have g5 : (p ≤ 999) := by simpa using h5
  clear h5
  have g6 : ¬ (0 ≤ d) := by simpa using h6
  clear h6
  go_enter Tryz.func110, Tryz.ntmps110
  go_wp2_with (first | (go_at_call 84; refine (perI_any _ _).mono ?_; rintro e w1 ⟨rfl, hw⟩; rw [hw]; clear hw; first | rw [H1.out] | rw [H2.out]))
  go_ret
  exact ⟨rbool (by have hv := HV.out; first | exact hv.symm | (rw [hv]; simp; omega) | (rw [hv]; simp)), balloc _ _⟩
set_option maxRecDepth 100000 in
set_option maxHeartbeats 2000000 in
theorem grantI_any_7f (w : World) (f : Int) (t : Int) (p : Int) (d : Int) (s : Int) (u : Int) (o : Bool) (h1 : (perB f) = true) (h2 : (perB t) = true) (h3 : (f != t) = true) (h4 : (decide (0 ≤ p)) = true) (h5 : (decide (p ≤ 999)) = true) (h6 : (decide (0 ≤ d)) = true) (h7 : (decide (d ≤ 5)) = false) :
    Calls Tryz.prog 110 #[.agg #[.int .i64 f, .int .i64 t, .int .i64 p, .int .i64 d, .int .i64 s, .int .i64 u, .bool o]] w fun e w' => e = .returned (.bool ((grantB ⟨f, t, p, d, s, u, o⟩))) ∧ Below w.heap.size w w' := by
  have hv : ((grantB ⟨f, t, p, d, s, u, o⟩)) = false := by simp [grantB, inR, h1, h2, h3, h4, h5, h6, h7]
  have HV := Lib.hid hv; clear hv
  have H1 := Lib.hid h1; clear h1
  have H2 := Lib.hid h2; clear h2
  have g4 : (0 ≤ p) := by simpa using h4
  clear h4
  have g5 : (p ≤ 999) := by simpa using h5
  clear h5
  have g6 : (0 ≤ d) := by simpa using h6
  clear h6
  have g7 : ¬ (d ≤ 5) := by simpa using h7
  clear h7
  go_enter Tryz.func110, Tryz.ntmps110
  go_wp2_with (first | (go_at_call 84; refine (perI_any _ _).mono ?_; rintro e w1 ⟨rfl, hw⟩; rw [hw]; clear hw; first | rw [H1.out] | rw [H2.out]))
  go_ret
  exact ⟨rbool (by have hv := HV.out; first | exact hv.symm | (rw [hv]; simp; omega) | (rw [hv]; simp)), balloc _ _⟩
set_option maxRecDepth 100000 in
set_option maxHeartbeats 2000000 in
theorem grantI_any_8f (w : World) (f : Int) (t : Int) (p : Int) (d : Int) (s : Int) (u : Int) (o : Bool) (h1 : (perB f) = true) (h2 : (perB t) = true) (h3 : (f != t) = true) (h4 : (decide (0 ≤ p)) = true) (h5 : (decide (p ≤ 999)) = true) (h6 : (decide (0 ≤ d)) = true) (h7 : (decide (d ≤ 5)) = true) (h8 : (timB s) = false) :
    Calls Tryz.prog 110 #[.agg #[.int .i64 f, .int .i64 t, .int .i64 p, .int .i64 d, .int .i64 s, .int .i64 u, .bool o]] w fun e w' => e = .returned (.bool ((grantB ⟨f, t, p, d, s, u, o⟩))) ∧ Below w.heap.size w w' := by
  have hv : ((grantB ⟨f, t, p, d, s, u, o⟩)) = false := by simp [grantB, inR, h1, h2, h3, h4, h5, h6, h7, h8]
  have HV := Lib.hid hv; clear hv
  have H1 := Lib.hid h1; clear h1
  have H2 := Lib.hid h2; clear h2
  have g4 : (0 ≤ p) := by simpa using h4
  clear h4
  have g5 : (p ≤ 999) := by simpa using h5
  clear h5
  have g6 : (0 ≤ d) := by simpa using h6
  clear h6
  have g7 : (d ≤ 5) := by simpa using h7
  clear h7
  have H8 := Lib.hid h8; clear h8
  go_enter Tryz.func110, Tryz.ntmps110
  go_wp2_with (first | (go_at_call 84; refine (perI_any _ _).mono ?_; rintro e w1 ⟨rfl, hw⟩; rw [hw]; clear hw; first | rw [H1.out] | rw [H2.out]) | (go_at_call 76; refine (timI_any _ _).mono ?_; rintro e w1 ⟨rfl, hw⟩; rw [hw]; clear hw; rw [H8.out]))
  go_ret
  exact ⟨rbool (by have hv := HV.out; first | exact hv.symm | (rw [hv]; simp; omega) | (rw [hv]; simp)), balloc _ _⟩
set_option maxRecDepth 100000 in
set_option maxHeartbeats 2000000 in
theorem grantI_any_9f (w : World) (f : Int) (t : Int) (p : Int) (d : Int) (s : Int) (u : Int) (o : Bool) (h1 : (perB f) = true) (h2 : (perB t) = true) (h3 : (f != t) = true) (h4 : (decide (0 ≤ p)) = true) (h5 : (decide (p ≤ 999)) = true) (h6 : (decide (0 ≤ d)) = true) (h7 : (decide (d ≤ 5)) = true) (h8 : (timB s) = true) (h9 : (timB u) = false) :
    Calls Tryz.prog 110 #[.agg #[.int .i64 f, .int .i64 t, .int .i64 p, .int .i64 d, .int .i64 s, .int .i64 u, .bool o]] w fun e w' => e = .returned (.bool ((grantB ⟨f, t, p, d, s, u, o⟩))) ∧ Below w.heap.size w w' := by
  have hv : ((grantB ⟨f, t, p, d, s, u, o⟩)) = false := by simp [grantB, inR, h1, h2, h3, h4, h5, h6, h7, h8, h9]
  have HV := Lib.hid hv; clear hv
  have H1 := Lib.hid h1; clear h1
  have H2 := Lib.hid h2; clear h2
  have g4 : (0 ≤ p) := by simpa using h4
  clear h4
  have g5 : (p ≤ 999) := by simpa using h5
  clear h5
  have g6 : (0 ≤ d) := by simpa using h6
  clear h6
  have g7 : (d ≤ 5) := by simpa using h7
  clear h7
  have H8 := Lib.hid h8; clear h8
  have H9 := Lib.hid h9; clear h9
  go_enter Tryz.func110, Tryz.ntmps110
  go_wp2_with (first | (go_at_call 84; refine (perI_any _ _).mono ?_; rintro e w1 ⟨rfl, hw⟩; rw [hw]; clear hw; first | rw [H1.out] | rw [H2.out]) | (go_at_call 76; refine (timI_any _ _).mono ?_; rintro e w1 ⟨rfl, hw⟩; rw [hw]; clear hw; first | rw [H8.out] | rw [H9.out]))
  go_ret
  exact ⟨rbool (by have hv := HV.out; first | exact hv.symm | (rw [hv]; simp; omega) | (rw [hv]; simp)), balloc _ _⟩
set_option maxRecDepth 100000 in
set_option maxHeartbeats 2000000 in
theorem grantI_any_10f (w : World) (f : Int) (t : Int) (p : Int) (d : Int) (s : Int) (u : Int) (o : Bool) (h1 : (perB f) = true) (h2 : (perB t) = true) (h3 : (f != t) = true) (h4 : (decide (0 ≤ p)) = true) (h5 : (decide (p ≤ 999)) = true) (h6 : (decide (0 ≤ d)) = true) (h7 : (decide (d ≤ 5)) = true) (h8 : (timB s) = true) (h9 : (timB u) = true) (h10 : (decide (s < u)) = false) :
    Calls Tryz.prog 110 #[.agg #[.int .i64 f, .int .i64 t, .int .i64 p, .int .i64 d, .int .i64 s, .int .i64 u, .bool o]] w fun e w' => e = .returned (.bool ((grantB ⟨f, t, p, d, s, u, o⟩))) ∧ Below w.heap.size w w' := by
  have hv : ((grantB ⟨f, t, p, d, s, u, o⟩)) = false := by simp [grantB, inR, h1, h2, h3, h4, h5, h6, h7, h8, h9, h10]
  have HV := Lib.hid hv; clear hv
  have H1 := Lib.hid h1; clear h1
  have H2 := Lib.hid h2; clear h2
  have g4 : (0 ≤ p) := by simpa using h4
  clear h4
  have g5 : (p ≤ 999) := by simpa using h5
  clear h5
  have g6 : (0 ≤ d) := by simpa using h6
  clear h6
  have g7 : (d ≤ 5) := by simpa using h7
  clear h7
  have H8 := Lib.hid h8; clear h8
  have H9 := Lib.hid h9; clear h9
  have g10 : ¬ (s < u) := by simpa using h10
  clear h10
  go_enter Tryz.func110, Tryz.ntmps110
  go_wp2_with (first | (go_at_call 84; refine (perI_any _ _).mono ?_; rintro e w1 ⟨rfl, hw⟩; rw [hw]; clear hw; first | rw [H1.out] | rw [H2.out]) | (go_at_call 76; refine (timI_any _ _).mono ?_; rintro e w1 ⟨rfl, hw⟩; rw [hw]; clear hw; first | rw [H8.out] | rw [H9.out]))
  go_ret
  exact ⟨rbool (by have hv := HV.out; first | exact hv.symm | (rw [hv]; simp; omega) | (rw [hv]; simp)), balloc _ _⟩
set_option maxRecDepth 100000 in
set_option maxHeartbeats 2000000 in
theorem grantI_any_10t (w : World) (f : Int) (t : Int) (p : Int) (d : Int) (s : Int) (u : Int) (o : Bool) (h1 : (perB f) = true) (h2 : (perB t) = true) (h3 : (f != t) = true) (h4 : (decide (0 ≤ p)) = true) (h5 : (decide (p ≤ 999)) = true) (h6 : (decide (0 ≤ d)) = true) (h7 : (decide (d ≤ 5)) = true) (h8 : (timB s) = true) (h9 : (timB u) = true) (h10 : (decide (s < u)) = true) :
    Calls Tryz.prog 110 #[.agg #[.int .i64 f, .int .i64 t, .int .i64 p, .int .i64 d, .int .i64 s, .int .i64 u, .bool o]] w fun e w' => e = .returned (.bool ((grantB ⟨f, t, p, d, s, u, o⟩))) ∧ Below w.heap.size w w' := by
  have hv : ((grantB ⟨f, t, p, d, s, u, o⟩)) = true := by simp [grantB, inR, h1, h2, h3, h4, h5, h6, h7, h8, h9, h10]
  have HV := Lib.hid hv; clear hv
  have H1 := Lib.hid h1; clear h1
  have H2 := Lib.hid h2; clear h2
  have g4 : (0 ≤ p) := by simpa using h4
  clear h4
  have g5 : (p ≤ 999) := by simpa using h5
  clear h5
  have g6 : (0 ≤ d) := by simpa using h6
  clear h6
  have g7 : (d ≤ 5) := by simpa using h7
  clear h7
  have H8 := Lib.hid h8; clear h8
  have H9 := Lib.hid h9; clear h9
  have g10 : (s < u) := by simpa using h10
  clear h10
  go_enter Tryz.func110, Tryz.ntmps110
  go_wp2_with (first | (go_at_call 84; refine (perI_any _ _).mono ?_; rintro e w1 ⟨rfl, hw⟩; rw [hw]; clear hw; first | rw [H1.out] | rw [H2.out]) | (go_at_call 76; refine (timI_any _ _).mono ?_; rintro e w1 ⟨rfl, hw⟩; rw [hw]; clear hw; first | rw [H8.out] | rw [H9.out]))
  go_ret
  exact ⟨rbool (by have hv := HV.out; first | exact hv.symm | (rw [hv]; simp; omega) | (rw [hv]; simp)), balloc _ _⟩
theorem grantI_any (w : World) (f : Int) (t : Int) (p : Int) (d : Int) (s : Int) (u : Int) (o : Bool) : Calls Tryz.prog 110 #[.agg #[.int .i64 f, .int .i64 t, .int .i64 p, .int .i64 d, .int .i64 s, .int .i64 u, .bool o]] w fun e w' => e = .returned (.bool ((grantB ⟨f, t, p, d, s, u, o⟩))) ∧ Below w.heap.size w w' := by
  cases h1 : perB f
  · exact grantI_any_1f w f t p d s u o h1
  cases h2 : perB t
  · exact grantI_any_2f w f t p d s u o h1 h2
  cases h3 : f != t
  · exact grantI_any_3f w f t p d s u o h1 h2 h3
  cases h4 : decide (0 ≤ p)
  · exact grantI_any_4f w f t p d s u o h1 h2 h3 h4
  cases h5 : decide (p ≤ 999)
  · exact grantI_any_5f w f t p d s u o h1 h2 h3 h4 h5
  cases h6 : decide (0 ≤ d)
  · exact grantI_any_6f w f t p d s u o h1 h2 h3 h4 h5 h6
  cases h7 : decide (d ≤ 5)
  · exact grantI_any_7f w f t p d s u o h1 h2 h3 h4 h5 h6 h7
  cases h8 : timB s
  · exact grantI_any_8f w f t p d s u o h1 h2 h3 h4 h5 h6 h7 h8
  cases h9 : timB u
  · exact grantI_any_9f w f t p d s u o h1 h2 h3 h4 h5 h6 h7 h8 h9
  cases h10 : decide (s < u)
  · exact grantI_any_10f w f t p d s u o h1 h2 h3 h4 h5 h6 h7 h8 h9 h10
  · exact grantI_any_10t w f t p d s u o h1 h2 h3 h4 h5 h6 h7 h8 h9 h10
set_option maxRecDepth 100000 in
set_option maxHeartbeats 2000000 in
theorem grantS_any_1f (w : World) (f : Int) (t : Int) (p : Int) (d : Int) (s : Int) (u : Int) (o : Bool) (h1 : (perB f) = false) :
    Calls Tryz.prog 60 #[.agg #[.int .i64 f, .int .i64 t, .int .i64 p, .int .i64 d, .int .i64 s, .int .i64 u, .bool o]] w fun e w' => e = .returned (.bool ((grantB ⟨f, t, p, d, s, u, o⟩))) ∧ Below w.heap.size w w' := by
  have hv : ((grantB ⟨f, t, p, d, s, u, o⟩)) = false := by simp [grantB, h1]
  have HV := Lib.hid hv; clear hv
  have H1 := Lib.hid h1; clear h1
  go_enter Tryz.func60, Tryz.ntmps60
  go_wp2_with (first | (go_at_call 65; refine (perS_any _ _).mono ?_; rintro e w1 ⟨rfl, hw⟩; rw [hw]; clear hw; rw [H1.out]))
  go_ret
  exact ⟨rbool (by have hv := HV.out; first | exact hv.symm | (rw [hv]; simp; omega) | (rw [hv]; simp)), balloc _ _⟩
set_option maxRecDepth 100000 in
set_option maxHeartbeats 2000000 in
theorem grantS_any_2f (w : World) (f : Int) (t : Int) (p : Int) (d : Int) (s : Int) (u : Int) (o : Bool) (h1 : (perB f) = true) (h2 : (perB t) = false) :
    Calls Tryz.prog 60 #[.agg #[.int .i64 f, .int .i64 t, .int .i64 p, .int .i64 d, .int .i64 s, .int .i64 u, .bool o]] w fun e w' => e = .returned (.bool ((grantB ⟨f, t, p, d, s, u, o⟩))) ∧ Below w.heap.size w w' := by
  have hv : ((grantB ⟨f, t, p, d, s, u, o⟩)) = false := by simp [grantB, h1, h2]
  have HV := Lib.hid hv; clear hv
  have H1 := Lib.hid h1; clear h1
  have H2 := Lib.hid h2; clear h2
  go_enter Tryz.func60, Tryz.ntmps60
  go_wp2_with (first | (go_at_call 65; refine (perS_any _ _).mono ?_; rintro e w1 ⟨rfl, hw⟩; rw [hw]; clear hw; first | rw [H1.out] | rw [H2.out]))
  go_ret
  exact ⟨rbool (by have hv := HV.out; first | exact hv.symm | (rw [hv]; simp; omega) | (rw [hv]; simp)), balloc _ _⟩
set_option maxRecDepth 100000 in
set_option maxHeartbeats 2000000 in
theorem grantS_any_3f (w : World) (f : Int) (t : Int) (p : Int) (d : Int) (s : Int) (u : Int) (o : Bool) (h1 : (perB f) = true) (h2 : (perB t) = true) (h3 : (f != t) = false) :
    Calls Tryz.prog 60 #[.agg #[.int .i64 f, .int .i64 t, .int .i64 p, .int .i64 d, .int .i64 s, .int .i64 u, .bool o]] w fun e w' => e = .returned (.bool ((grantB ⟨f, t, p, d, s, u, o⟩))) ∧ Below w.heap.size w w' := by
  have hv : ((grantB ⟨f, t, p, d, s, u, o⟩)) = false := by simp [grantB, h1, h2, h3]
  have HV := Lib.hid hv; clear hv
  have H1 := Lib.hid h1; clear h1
  have H2 := Lib.hid h2; clear h2
  go_enter Tryz.func60, Tryz.ntmps60
  go_wp2_with (first | (go_at_call 65; refine (perS_any _ _).mono ?_; rintro e w1 ⟨rfl, hw⟩; rw [hw]; clear hw; first | rw [H1.out] | rw [H2.out]))
  go_ret
  exact ⟨rbool (by have hv := HV.out; first | exact hv.symm | (rw [hv]; simp; omega) | (rw [hv]; simp)), balloc _ _⟩
set_option maxRecDepth 100000 in
set_option maxHeartbeats 2000000 in
theorem grantS_any_4f (w : World) (f : Int) (t : Int) (p : Int) (d : Int) (s : Int) (u : Int) (o : Bool) (h1 : (perB f) = true) (h2 : (perB t) = true) (h3 : (f != t) = true) (h4 : (inR p 0 999) = false) :
    Calls Tryz.prog 60 #[.agg #[.int .i64 f, .int .i64 t, .int .i64 p, .int .i64 d, .int .i64 s, .int .i64 u, .bool o]] w fun e w' => e = .returned (.bool ((grantB ⟨f, t, p, d, s, u, o⟩))) ∧ Below w.heap.size w w' := by
  have hv : ((grantB ⟨f, t, p, d, s, u, o⟩)) = false := by simp [grantB, h1, h2, h3, h4]
  have HV := Lib.hid hv; clear hv
  have H1 := Lib.hid h1; clear h1
  have H2 := Lib.hid h2; clear h2
  have H4 := Lib.hid h4; clear h4
  go_enter Tryz.func60, Tryz.ntmps60
  go_wp2_with (first | (go_at_call 65; refine (perS_any _ _).mono ?_; rintro e w1 ⟨rfl, hw⟩; rw [hw]; clear hw; first | rw [H1.out] | rw [H2.out]) | (go_at_call 33; refine (inR_any _ _ _ _).mono ?_; rintro e w1 ⟨rfl, hw⟩; rw [hw]; clear hw; rw [H4.out]))
  go_ret
  exact ⟨rbool (by have hv := HV.out; first | exact hv.symm | (rw [hv]; simp; omega) | (rw [hv]; simp)), balloc _ _⟩
set_option maxRecDepth 100000 in
set_option maxHeartbeats 2000000 in
theorem grantS_any_5f (w : World) (f : Int) (t : Int) (p : Int) (d : Int) (s : Int) (u : Int) (o : Bool) (h1 : (perB f) = true) (h2 : (perB t) = true) (h3 : (f != t) = true) (h4 : (inR p 0 999) = true) (h5 : (inR d 0 5) = false) :
    Calls Tryz.prog 60 #[.agg #[.int .i64 f, .int .i64 t, .int .i64 p, .int .i64 d, .int .i64 s, .int .i64 u, .bool o]] w fun e w' => e = .returned (.bool ((grantB ⟨f, t, p, d, s, u, o⟩))) ∧ Below w.heap.size w w' := by
  have hv : ((grantB ⟨f, t, p, d, s, u, o⟩)) = false := by simp [grantB, h1, h2, h3, h4, h5]
  have HV := Lib.hid hv; clear hv
  have H1 := Lib.hid h1; clear h1
  have H2 := Lib.hid h2; clear h2
  have H4 := Lib.hid h4; clear h4
  have H5 := Lib.hid h5; clear h5
  go_enter Tryz.func60, Tryz.ntmps60
  go_wp2_with (first | (go_at_call 65; refine (perS_any _ _).mono ?_; rintro e w1 ⟨rfl, hw⟩; rw [hw]; clear hw; first | rw [H1.out] | rw [H2.out]) | (go_at_call 33; refine (inR_any _ _ _ _).mono ?_; rintro e w1 ⟨rfl, hw⟩; rw [hw]; clear hw; first | rw [H4.out] | rw [H5.out]))
  go_ret
  exact ⟨rbool (by have hv := HV.out; first | exact hv.symm | (rw [hv]; simp; omega) | (rw [hv]; simp)), balloc _ _⟩
set_option maxRecDepth 100000 in
set_option maxHeartbeats 2000000 in
theorem grantS_any_6f (w : World) (f : Int) (t : Int) (p : Int) (d : Int) (s : Int) (u : Int) (o : Bool) (h1 : (perB f) = true) (h2 : (perB t) = true) (h3 : (f != t) = true) (h4 : (inR p 0 999) = true) (h5 : (inR d 0 5) = true) (h6 : (timB s) = false) :
    Calls Tryz.prog 60 #[.agg #[.int .i64 f, .int .i64 t, .int .i64 p, .int .i64 d, .int .i64 s, .int .i64 u, .bool o]] w fun e w' => e = .returned (.bool ((grantB ⟨f, t, p, d, s, u, o⟩))) ∧ Below w.heap.size w w' := by
  have hv : ((grantB ⟨f, t, p, d, s, u, o⟩)) = false := by simp [grantB, h1, h2, h3, h4, h5, h6]
  have HV := Lib.hid hv; clear hv
  have H1 := Lib.hid h1; clear h1
  have H2 := Lib.hid h2; clear h2
  have H4 := Lib.hid h4; clear h4
  have H5 := Lib.hid h5; clear h5
  have H6 := Lib.hid h6; clear h6
  go_enter Tryz.func60, Tryz.ntmps60
  go_wp2_with (first | (go_at_call 65; refine (perS_any _ _).mono ?_; rintro e w1 ⟨rfl, hw⟩; rw [hw]; clear hw; first | rw [H1.out] | rw [H2.out]) | (go_at_call 33; refine (inR_any _ _ _ _).mono ?_; rintro e w1 ⟨rfl, hw⟩; rw [hw]; clear hw; first | rw [H4.out] | rw [H5.out]) | (go_at_call 103; refine (timS_any _ _).mono ?_; rintro e w1 ⟨rfl, hw⟩; rw [hw]; clear hw; rw [H6.out]))
  go_ret
  exact ⟨rbool (by have hv := HV.out; first | exact hv.symm | (rw [hv]; simp; omega) | (rw [hv]; simp)), balloc _ _⟩
set_option maxRecDepth 100000 in
set_option maxHeartbeats 2000000 in
theorem grantS_any_7f (w : World) (f : Int) (t : Int) (p : Int) (d : Int) (s : Int) (u : Int) (o : Bool) (h1 : (perB f) = true) (h2 : (perB t) = true) (h3 : (f != t) = true) (h4 : (inR p 0 999) = true) (h5 : (inR d 0 5) = true) (h6 : (timB s) = true) (h7 : (timB u) = false) :
    Calls Tryz.prog 60 #[.agg #[.int .i64 f, .int .i64 t, .int .i64 p, .int .i64 d, .int .i64 s, .int .i64 u, .bool o]] w fun e w' => e = .returned (.bool ((grantB ⟨f, t, p, d, s, u, o⟩))) ∧ Below w.heap.size w w' := by
  have hv : ((grantB ⟨f, t, p, d, s, u, o⟩)) = false := by simp [grantB, h1, h2, h3, h4, h5, h6, h7]
  have HV := Lib.hid hv; clear hv
  have H1 := Lib.hid h1; clear h1
  have H2 := Lib.hid h2; clear h2
  have H4 := Lib.hid h4; clear h4
  have H5 := Lib.hid h5; clear h5
  have H6 := Lib.hid h6; clear h6
  have H7 := Lib.hid h7; clear h7
  go_enter Tryz.func60, Tryz.ntmps60
  go_wp2_with (first | (go_at_call 65; refine (perS_any _ _).mono ?_; rintro e w1 ⟨rfl, hw⟩; rw [hw]; clear hw; first | rw [H1.out] | rw [H2.out]) | (go_at_call 33; refine (inR_any _ _ _ _).mono ?_; rintro e w1 ⟨rfl, hw⟩; rw [hw]; clear hw; first | rw [H4.out] | rw [H5.out]) | (go_at_call 103; refine (timS_any _ _).mono ?_; rintro e w1 ⟨rfl, hw⟩; rw [hw]; clear hw; first | rw [H6.out] | rw [H7.out]))
  go_ret
  exact ⟨rbool (by have hv := HV.out; first | exact hv.symm | (rw [hv]; simp; omega) | (rw [hv]; simp)), balloc _ _⟩
set_option maxRecDepth 100000 in
set_option maxHeartbeats 2000000 in
theorem grantS_any_8f (w : World) (f : Int) (t : Int) (p : Int) (d : Int) (s : Int) (u : Int) (o : Bool) (h1 : (perB f) = true) (h2 : (perB t) = true) (h3 : (f != t) = true) (h4 : (inR p 0 999) = true) (h5 : (inR d 0 5) = true) (h6 : (timB s) = true) (h7 : (timB u) = true) (h8 : (decide (s < u)) = false) :
    Calls Tryz.prog 60 #[.agg #[.int .i64 f, .int .i64 t, .int .i64 p, .int .i64 d, .int .i64 s, .int .i64 u, .bool o]] w fun e w' => e = .returned (.bool ((grantB ⟨f, t, p, d, s, u, o⟩))) ∧ Below w.heap.size w w' := by
  have hv : ((grantB ⟨f, t, p, d, s, u, o⟩)) = false := by simp [grantB, h1, h2, h3, h4, h5, h6, h7, h8]
  have HV := Lib.hid hv; clear hv
  have H1 := Lib.hid h1; clear h1
  have H2 := Lib.hid h2; clear h2
  have H4 := Lib.hid h4; clear h4
  have H5 := Lib.hid h5; clear h5
  have H6 := Lib.hid h6; clear h6
  have H7 := Lib.hid h7; clear h7
  have g8 : ¬ (s < u) := by simpa using h8
  clear h8
  go_enter Tryz.func60, Tryz.ntmps60
  go_wp2_with (first | (go_at_call 65; refine (perS_any _ _).mono ?_; rintro e w1 ⟨rfl, hw⟩; rw [hw]; clear hw; first | rw [H1.out] | rw [H2.out]) | (go_at_call 33; refine (inR_any _ _ _ _).mono ?_; rintro e w1 ⟨rfl, hw⟩; rw [hw]; clear hw; first | rw [H4.out] | rw [H5.out]) | (go_at_call 103; refine (timS_any _ _).mono ?_; rintro e w1 ⟨rfl, hw⟩; rw [hw]; clear hw; first | rw [H6.out] | rw [H7.out]))
  go_ret
  exact ⟨rbool (by have hv := HV.out; first | exact hv.symm | (rw [hv]; simp; omega) | (rw [hv]; simp)), balloc _ _⟩
set_option maxRecDepth 100000 in
set_option maxHeartbeats 2000000 in
theorem grantS_any_8t (w : World) (f : Int) (t : Int) (p : Int) (d : Int) (s : Int) (u : Int) (o : Bool) (h1 : (perB f) = true) (h2 : (perB t) = true) (h3 : (f != t) = true) (h4 : (inR p 0 999) = true) (h5 : (inR d 0 5) = true) (h6 : (timB s) = true) (h7 : (timB u) = true) (h8 : (decide (s < u)) = true) :
    Calls Tryz.prog 60 #[.agg #[.int .i64 f, .int .i64 t, .int .i64 p, .int .i64 d, .int .i64 s, .int .i64 u, .bool o]] w fun e w' => e = .returned (.bool ((grantB ⟨f, t, p, d, s, u, o⟩))) ∧ Below w.heap.size w w' := by
  have hv : ((grantB ⟨f, t, p, d, s, u, o⟩)) = true := by simp [grantB, h1, h2, h3, h4, h5, h6, h7, h8]
  have HV := Lib.hid hv; clear hv
  have H1 := Lib.hid h1; clear h1
  have H2 := Lib.hid h2; clear h2
  have H4 := Lib.hid h4; clear h4
  have H5 := Lib.hid h5; clear h5
  have H6 := Lib.hid h6; clear h6
  have H7 := Lib.hid h7; clear h7
  have g8 : (s < u) := by simpa using h8
  clear h8
  go_enter Tryz.func60, Tryz.ntmps60
  go_wp2_with (first | (go_at_call 65; refine (perS_any _ _).mono ?_; rintro e w1 ⟨rfl, hw⟩; rw [hw]; clear hw; first | rw [H1.out] | rw [H2.out]) | (go_at_call 33; refine (inR_any _ _ _ _).mono ?_; rintro e w1 ⟨rfl, hw⟩; rw [hw]; clear hw; first | rw [H4.out] | rw [H5.out]) | (go_at_call 103; refine (timS_any _ _).mono ?_; rintro e w1 ⟨rfl, hw⟩; rw [hw]; clear hw; first | rw [H6.out] | rw [H7.out]))
  go_ret
  exact ⟨rbool (by have hv := HV.out; first | exact hv.symm | (rw [hv]; simp; omega) | (rw [hv]; simp)), balloc _ _⟩
theorem grantS_any (w : World) (f : Int) (t : Int) (p : Int) (d : Int) (s : Int) (u : Int) (o : Bool) : Calls Tryz.prog 60 #[.agg #[.int .i64 f, .int .i64 t, .int .i64 p, .int .i64 d, .int .i64 s, .int .i64 u, .bool o]] w fun e w' => e = .returned (.bool ((grantB ⟨f, t, p, d, s, u, o⟩))) ∧ Below w.heap.size w w' := by
  cases h1 : perB f
  · exact grantS_any_1f w f t p d s u o h1
  cases h2 : perB t
  · exact grantS_any_2f w f t p d s u o h1 h2
  cases h3 : f != t
  · exact grantS_any_3f w f t p d s u o h1 h2 h3
  cases h4 : inR p 0 999
  · exact grantS_any_4f w f t p d s u o h1 h2 h3 h4
  cases h5 : inR d 0 5
  · exact grantS_any_5f w f t p d s u o h1 h2 h3 h4 h5
  cases h6 : timB s
  · exact grantS_any_6f w f t p d s u o h1 h2 h3 h4 h5 h6
  cases h7 : timB u
  · exact grantS_any_7f w f t p d s u o h1 h2 h3 h4 h5 h6 h7
  cases h8 : decide (s < u)
  · exact grantS_any_8f w f t p d s u o h1 h2 h3 h4 h5 h6 h7 h8
  · exact grantS_any_8t w f t p d s u o h1 h2 h3 h4 h5 h6 h7 h8
end Go.Proofs.YtjpkpfmpjgeeiaaGreat
namespace Go.Proofs.YtjpkpfmpjgeeiaaGreat
open Go.RowKit
set_option linter.unusedVariables false
section
variable {P : Program} {ops : Array Oper} {Q : Exit → Act → World → Prop} {md : Region.Mode} {S : World → Prop}
theorem any_skip {i : Nat} {oi : Oper} (d : Option Tmp) {fuel : Nat} {listed : Array Bool} {a : Act} {w : World} (hi : ops[i]? = some oi) (hd : oi.dst = d)
    (hs : Region.noSelect ops = true) (hf : Region.free md ops listed i = true) (hr : (Region.ready md ops listed).contains i = true)
    (hQ : ∀ c a w, Q (.panic c) (a.put d undef) w → Q (.panic c) a w) (hy : Region.wanted oi (yielded ops a.tmps) = false) (hS : S w)
    (h : wpAnyH P md ops Q S fuel (listed.setIfInBounds i true) (a.put d undef) w) : wpAnyH P md ops Q S (fuel + 1) listed a w := by
  subst hd; exact wpAnyH_take hi hs hf hr hQ (Or.inr ⟨hy, rfl⟩) hS h
theorem any_take {i : Nat} {oi : Oper} (d : Option Tmp) (v : Value) {fuel : Nat} {listed : Array Bool} {a : Act} {w : World} (hi : ops[i]? = some oi) (hd : oi.dst = d)
    (hs : Region.noSelect ops = true) (hf : Region.free md ops listed i = true) (hr : (Region.ready md ops listed).contains i = true)
    (hQ : ∀ c a w, Q (.panic c) (a.put d v) w → Q (.panic c) a w) (hw : Region.wanted oi (yielded ops a.tmps) = true) (hy : ∀ w, S w → (execOp a.eval oi).run P w = .ok (.value v) w) (hS : S w)
    (h : wpAnyH P md ops Q S fuel (listed.setIfInBounds i true) (a.put d v) w) : wpAnyH P md ops Q S (fuel + 1) listed a w := by
  subst hd; exact wpAnyH_take hi hs hf hr hQ (Or.inl ⟨hw, hy⟩) hS h
theorem tk9 {i : Nat} {oi : Oper} (d : Option Tmp) (v : Value) {fuel : Nat} {listed : Array Bool} {a : Act} {w : World} (hi : ops[i]? = some oi) (hd : oi.dst = d)
    (hy : ∀ w, S w → (execOp a.eval oi).run P w = .ok (.value v) w) (hS : S w)
    (h : wpAnyH P md ops Q S fuel (listed.setIfInBounds i true) (a.put d v) w)
    (hs : Region.noSelect ops = true := by kernel_rfl) (hf : Region.free md ops listed i = true := by kernel_rfl) (hr : (Region.ready md ops listed).contains i = true := by kernel_rfl)
    (hQ : ∀ c a w, Q (.panic c) (a.put d v) w → Q (.panic c) a w := by exact fun _ _ _ h => h) (hw : Region.wanted oi (yielded ops a.tmps) = true := by exact rfl) : wpAnyH P md ops Q S (fuel + 1) listed a w :=
  any_take d v hi hd hs hf hr hQ hw hy hS h
theorem sk9 {i : Nat} {oi : Oper} (d : Option Tmp) {fuel : Nat} {listed : Array Bool} {a : Act} {w : World} (hi : ops[i]? = some oi) (hd : oi.dst = d) (hS : S w)
    (h : wpAnyH P md ops Q S fuel (listed.setIfInBounds i true) (a.put d undef) w)
    (hs : Region.noSelect ops = true := by kernel_rfl) (hf : Region.free md ops listed i = true := by kernel_rfl) (hr : (Region.ready md ops listed).contains i = true := by kernel_rfl)
    (hQ : ∀ c a w, Q (.panic c) (a.put d undef) w → Q (.panic c) a w := by exact fun _ _ _ h => h) (hy : Region.wanted oi (yielded ops a.tmps) = false := by exact rfl) : wpAnyH P md ops Q S (fuel + 1) listed a w :=
  any_skip d hi hd hs hf hr hQ hy hS h
end
end Go.Proofs.YtjpkpfmpjgeeiaaGreat
