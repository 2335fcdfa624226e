/- Chapter 7: contracts of the small functions over stops, legs and orders (gen_toua.py). -/
import Derived.Test.YtfimdhbcifjioaaTouR
namespace Go.Proofs.Ytfimdhbcifjioaa
open Go.RowKit
set_option linter.unusedVariables false

set_option maxHeartbeats 1000000 in
theorem inT_any (w : World) (x a b : Int) : Calls Try.prog 44 #[.int .i64 x, .int .i64 a, .int .i64 b] w fun e w' => e = .returned (.bool (inT x a b)) ∧ w' = w := by
  go_enter Try.func44, Try.ntmps44
  go_wp2
  all_goals (go_ret; exact ⟨ret_bool (by simp_all [inT] <;> omega), rfl⟩)
set_option maxHeartbeats 1000000 in
theorem timT_any (w : World) (x : Int) : Calls Try.prog 22 #[.int .i64 x] w fun e w' => e = .returned (.bool (inT x 0 20000)) ∧ w' = w := by
  go_enter Try.func22, Try.ntmps22
  go_wp2
  all_goals (go_ret; exact ⟨ret_bool (by simp_all [inT] <;> omega), rfl⟩)
set_option maxHeartbeats 1000000 in
theorem lodT_any (w : World) (x : Int) : Calls Try.prog 23 #[.int .i64 x] w fun e w' => e = .returned (.bool (inT x 0 1000)) ∧ w' = w := by
  go_enter Try.func23, Try.ntmps23
  go_wp2
  all_goals (go_ret; exact ⟨ret_bool (by simp_all [inT] <;> omega), rfl⟩)
set_option maxHeartbeats 1000000 in
theorem legT_any (w : World) (x : Int) : Calls Try.prog 36 #[.int .i64 x] w fun e w' => e = .returned (.bool (inT x 0 200)) ∧ w' = w := by
  go_enter Try.func36, Try.ntmps36
  go_wp2
  all_goals (go_ret; exact ⟨ret_bool (by simp_all [inT] <;> omega), rfl⟩)
theorem plcT_any (w : World) (x : Int) (h0 : 0 ≤ x) (h1 : x ≤ 1000) : Calls Try.prog 43 #[.int .i64 x] w fun e w' => e = .returned (.int .i64 (x + 1)) ∧ w' = w := by
  go_enter Try.func43, Try.ntmps43
  go_wp2
  go_ret
  exact ⟨rfl, rfl⟩
set_option maxRecDepth 100000 in
set_option maxHeartbeats 2000000 in
theorem stopT_1f (w : World) (a b c d e : Int) (h1 : (inT a 0 20000) = false) :
    Calls Try.prog 24 #[.agg #[.int .i64 a, .int .i64 b, .int .i64 c, .int .i64 d, .int .i64 e]] w fun r w' => r = .returned (.bool (stopB ⟨a, b, c, d, e⟩)) ∧ Below w.heap.size w w' := by
  have g1 := h1
  simp only [inT, Bool.and_eq_true, Bool.and_eq_false_iff, decide_eq_true_eq, decide_eq_false_iff_not] at g1
  have hv : stopB ⟨a, b, c, d, e⟩ = false := by
    rw [Bool.eq_false_iff]; intro hq; have hq2 := (stopB_iff _).1 hq; dsimp only at hq2; omega
  have HV := Lib.hid hv; clear hv
  clear g1
  have H1 := Lib.hid h1; clear h1
  go_enter Try.func24, Try.ntmps24
  go_wp2_with (first | (go_at_call 22; refine (timT_any _ _).mono ?_; rintro e w1 ⟨rfl, hw⟩; rw [hw]; clear hw; rw [H1.out]))
  go_ret
  exact ⟨ret_bool (by have hv := HV.out; first | exact hv.symm | (rw [hv]; simp; omega) | (rw [hv]; simp)), balloc _ _⟩
set_option maxRecDepth 100000 in
set_option maxHeartbeats 2000000 in
theorem stopT_2f (w : World) (a b c d e : Int) (h1 : (inT a 0 20000) = true) (h2 : (inT b 0 20000) = false) :
    Calls Try.prog 24 #[.agg #[.int .i64 a, .int .i64 b, .int .i64 c, .int .i64 d, .int .i64 e]] w fun r w' => r = .returned (.bool (stopB ⟨a, b, c, d, e⟩)) ∧ Below w.heap.size w w' := by
  have g1 := h1
  have g2 := h2
  simp only [inT, Bool.and_eq_true, Bool.and_eq_false_iff, decide_eq_true_eq, decide_eq_false_iff_not] at g1 g2
  have hv : stopB ⟨a, b, c, d, e⟩ = false := by
    rw [Bool.eq_false_iff]; intro hq; have hq2 := (stopB_iff _).1 hq; dsimp only at hq2; omega
  have HV := Lib.hid hv; clear hv
  clear g1 g2
  have H1 := Lib.hid h1; clear h1
  have H2 := Lib.hid h2; clear h2
  go_enter Try.func24, Try.ntmps24
  go_wp2_with (first | (go_at_call 22; refine (timT_any _ _).mono ?_; rintro e w1 ⟨rfl, hw⟩; rw [hw]; clear hw; first | rw [H1.out] | rw [H2.out]))
  go_ret
  exact ⟨ret_bool (by have hv := HV.out; first | exact hv.symm | (rw [hv]; simp; omega) | (rw [hv]; simp)), balloc _ _⟩
set_option maxRecDepth 100000 in
set_option maxHeartbeats 2000000 in
theorem stopT_3f (w : World) (a b c d e : Int) (h1 : (inT a 0 20000) = true) (h2 : (inT b 0 20000) = true) (h3 : (decide (a ≤ b)) = false) :
    Calls Try.prog 24 #[.agg #[.int .i64 a, .int .i64 b, .int .i64 c, .int .i64 d, .int .i64 e]] w fun r w' => r = .returned (.bool (stopB ⟨a, b, c, d, e⟩)) ∧ Below w.heap.size w w' := by
  have g1 := h1
  have g2 := h2
  have g3 := h3
  simp only [inT, Bool.and_eq_true, Bool.and_eq_false_iff, decide_eq_true_eq, decide_eq_false_iff_not] at g1 g2 g3
  have hv : stopB ⟨a, b, c, d, e⟩ = false := by
    rw [Bool.eq_false_iff]; intro hq; have hq2 := (stopB_iff _).1 hq; dsimp only at hq2; omega
  have HV := Lib.hid hv; clear hv
  clear g1 g2 g3
  have H1 := Lib.hid h1; clear h1
  have H2 := Lib.hid h2; clear h2
  have g3 : ¬ (a ≤ b) := by simpa using h3
  clear h3
  go_enter Try.func24, Try.ntmps24
  go_wp2_with (first | (go_at_call 22; refine (timT_any _ _).mono ?_; rintro e w1 ⟨rfl, hw⟩; rw [hw]; clear hw; first | rw [H1.out] | rw [H2.out]))
  go_ret
  exact ⟨ret_bool (by have hv := HV.out; first | exact hv.symm | (rw [hv]; simp; omega) | (rw [hv]; simp)), balloc _ _⟩
set_option maxRecDepth 100000 in
set_option maxHeartbeats 2000000 in
theorem stopT_4f (w : World) (a b c d e : Int) (h1 : (inT a 0 20000) = true) (h2 : (inT b 0 20000) = true) (h3 : (decide (a ≤ b)) = true) (h4 : (inT c 0 200) = false) :
    Calls Try.prog 24 #[.agg #[.int .i64 a, .int .i64 b, .int .i64 c, .int .i64 d, .int .i64 e]] w fun r w' => r = .returned (.bool (stopB ⟨a, b, c, d, e⟩)) ∧ Below w.heap.size w w' := by
  have g1 := h1
  have g2 := h2
  have g3 := h3
  have g4 := h4
  simp only [inT, Bool.and_eq_true, Bool.and_eq_false_iff, decide_eq_true_eq, decide_eq_false_iff_not] at g1 g2 g3 g4
  have hv : stopB ⟨a, b, c, d, e⟩ = false := by
    rw [Bool.eq_false_iff]; intro hq; have hq2 := (stopB_iff _).1 hq; dsimp only at hq2; omega
  have HV := Lib.hid hv; clear hv
  clear g1 g2 g3 g4
  have H1 := Lib.hid h1; clear h1
  have H2 := Lib.hid h2; clear h2
  have g3 : (a ≤ b) := by simpa using h3
  clear h3
  have H4 := Lib.hid h4; clear h4
  go_enter Try.func24, Try.ntmps24
  go_wp2_with (first | (go_at_call 22; refine (timT_any _ _).mono ?_; rintro e w1 ⟨rfl, hw⟩; rw [hw]; clear hw; first | rw [H1.out] | rw [H2.out]) | (go_at_call 36; refine (legT_any _ _).mono ?_; rintro e w1 ⟨rfl, hw⟩; rw [hw]; clear hw; rw [H4.out]))
  go_ret
  exact ⟨ret_bool (by have hv := HV.out; first | exact hv.symm | (rw [hv]; simp; omega) | (rw [hv]; simp)), balloc _ _⟩
set_option maxRecDepth 100000 in
set_option maxHeartbeats 2000000 in
theorem stopT_5f (w : World) (a b c d e : Int) (h1 : (inT a 0 20000) = true) (h2 : (inT b 0 20000) = true) (h3 : (decide (a ≤ b)) = true) (h4 : (inT c 0 200) = true) (h5 : (inT d 0 1000) = false) :
    Calls Try.prog 24 #[.agg #[.int .i64 a, .int .i64 b, .int .i64 c, .int .i64 d, .int .i64 e]] w fun r w' => r = .returned (.bool (stopB ⟨a, b, c, d, e⟩)) ∧ Below w.heap.size w w' := by
  have g1 := h1
  have g2 := h2
  have g3 := h3
  have g4 := h4
  have g5 := h5
  simp only [inT, Bool.and_eq_true, Bool.and_eq_false_iff, decide_eq_true_eq, decide_eq_false_iff_not] at g1 g2 g3 g4 g5
  have hv : stopB ⟨a, b, c, d, e⟩ = false := by
    rw [Bool.eq_false_iff]; intro hq; have hq2 := (stopB_iff _).1 hq; dsimp only at hq2; omega
  have HV := Lib.hid hv; clear hv
  clear g1 g2 g3 g4 g5
  have H1 := Lib.hid h1; clear h1
  have H2 := Lib.hid h2; clear h2
  have g3 : (a ≤ b) := by simpa using h3
  clear h3
  have H4 := Lib.hid h4; clear h4
  have H5 := Lib.hid h5; clear h5
  go_enter Try.func24, Try.ntmps24
  go_wp2_with (first | (go_at_call 22; refine (timT_any _ _).mono ?_; rintro e w1 ⟨rfl, hw⟩; rw [hw]; clear hw; first | rw [H1.out] | rw [H2.out]) | (go_at_call 36; refine (legT_any _ _).mono ?_; rintro e w1 ⟨rfl, hw⟩; rw [hw]; clear hw; rw [H4.out]) | (go_at_call 23; refine (lodT_any _ _).mono ?_; rintro e w1 ⟨rfl, hw⟩; rw [hw]; clear hw; rw [H5.out]))
  go_ret
  exact ⟨ret_bool (by have hv := HV.out; first | exact hv.symm | (rw [hv]; simp; omega) | (rw [hv]; simp)), balloc _ _⟩
set_option maxRecDepth 100000 in
set_option maxHeartbeats 2000000 in
theorem stopT_6f (w : World) (a b c d e : Int) (h1 : (inT a 0 20000) = true) (h2 : (inT b 0 20000) = true) (h3 : (decide (a ≤ b)) = true) (h4 : (inT c 0 200) = true) (h5 : (inT d 0 1000) = true) (h6 : (inT e 0 1000) = false) :
    Calls Try.prog 24 #[.agg #[.int .i64 a, .int .i64 b, .int .i64 c, .int .i64 d, .int .i64 e]] w fun r w' => r = .returned (.bool (stopB ⟨a, b, c, d, e⟩)) ∧ Below w.heap.size w w' := by
  have g1 := h1
  have g2 := h2
  have g3 := h3
  have g4 := h4
  have g5 := h5
  have g6 := h6
  simp only [inT, Bool.and_eq_true, Bool.and_eq_false_iff, decide_eq_true_eq, decide_eq_false_iff_not] at g1 g2 g3 g4 g5 g6
  have hv : stopB ⟨a, b, c, d, e⟩ = false := by
    rw [Bool.eq_false_iff]; intro hq; have hq2 := (stopB_iff _).1 hq; dsimp only at hq2; omega
  have HV := Lib.hid hv; clear hv
  clear g1 g2 g3 g4 g5 g6
  have H1 := Lib.hid h1; clear h1
  have H2 := Lib.hid h2; clear h2
  have g3 : (a ≤ b) := by simpa using h3
  clear h3
  have H4 := Lib.hid h4; clear h4
  have H5 := Lib.hid h5; clear h5
  have H6 := Lib.hid h6; clear h6
  go_enter Try.func24, Try.ntmps24
  go_wp2_with (first | (go_at_call 22; refine (timT_any _ _).mono ?_; rintro e w1 ⟨rfl, hw⟩; rw [hw]; clear hw; first | rw [H1.out] | rw [H2.out]) | (go_at_call 36; refine (legT_any _ _).mono ?_; rintro e w1 ⟨rfl, hw⟩; rw [hw]; clear hw; rw [H4.out]) | (go_at_call 23; refine (lodT_any _ _).mono ?_; rintro e w1 ⟨rfl, hw⟩; rw [hw]; clear hw; first | rw [H5.out] | rw [H6.out]))
  go_ret
  exact ⟨ret_bool (by have hv := HV.out; first | exact hv.symm | (rw [hv]; simp; omega) | (rw [hv]; simp)), balloc _ _⟩
set_option maxRecDepth 100000 in
set_option maxHeartbeats 2000000 in
theorem stopT_6t (w : World) (a b c d e : Int) (h1 : (inT a 0 20000) = true) (h2 : (inT b 0 20000) = true) (h3 : (decide (a ≤ b)) = true) (h4 : (inT c 0 200) = true) (h5 : (inT d 0 1000) = true) (h6 : (inT e 0 1000) = true) :
    Calls Try.prog 24 #[.agg #[.int .i64 a, .int .i64 b, .int .i64 c, .int .i64 d, .int .i64 e]] w fun r w' => r = .returned (.bool (stopB ⟨a, b, c, d, e⟩)) ∧ Below w.heap.size w w' := by
  have g1 := h1
  have g2 := h2
  have g3 := h3
  have g4 := h4
  have g5 := h5
  have g6 := h6
  simp only [inT, Bool.and_eq_true, Bool.and_eq_false_iff, decide_eq_true_eq, decide_eq_false_iff_not] at g1 g2 g3 g4 g5 g6
  have hv : stopB ⟨a, b, c, d, e⟩ = true := (stopB_iff _).2 (by dsimp only; omega)
  have HV := Lib.hid hv; clear hv
  clear g1 g2 g3 g4 g5 g6
  have H1 := Lib.hid h1; clear h1
  have H2 := Lib.hid h2; clear h2
  have g3 : (a ≤ b) := by simpa using h3
  clear h3
  have H4 := Lib.hid h4; clear h4
  have H5 := Lib.hid h5; clear h5
  have H6 := Lib.hid h6; clear h6
  go_enter Try.func24, Try.ntmps24
  go_wp2_with (first | (go_at_call 22; refine (timT_any _ _).mono ?_; rintro e w1 ⟨rfl, hw⟩; rw [hw]; clear hw; first | rw [H1.out] | rw [H2.out]) | (go_at_call 36; refine (legT_any _ _).mono ?_; rintro e w1 ⟨rfl, hw⟩; rw [hw]; clear hw; rw [H4.out]) | (go_at_call 23; refine (lodT_any _ _).mono ?_; rintro e w1 ⟨rfl, hw⟩; rw [hw]; clear hw; first | rw [H5.out] | rw [H6.out]))
  go_ret
  exact ⟨ret_bool (by have hv := HV.out; first | exact hv.symm | (rw [hv]; simp; omega) | (rw [hv]; simp)), balloc _ _⟩
theorem stopT_any (w : World) (a b c d e : Int) : Calls Try.prog 24 #[.agg #[.int .i64 a, .int .i64 b, .int .i64 c, .int .i64 d, .int .i64 e]] w fun r w' => r = .returned (.bool (stopB ⟨a, b, c, d, e⟩)) ∧ Below w.heap.size w w' := by
  cases h1 : inT a 0 20000
  · exact stopT_1f w a b c d e h1
  cases h2 : inT b 0 20000
  · exact stopT_2f w a b c d e h1 h2
  cases h3 : decide (a ≤ b)
  · exact stopT_3f w a b c d e h1 h2 h3
  cases h4 : inT c 0 200
  · exact stopT_4f w a b c d e h1 h2 h3 h4
  cases h5 : inT d 0 1000
  · exact stopT_5f w a b c d e h1 h2 h3 h4 h5
  cases h6 : inT e 0 1000
  · exact stopT_6f w a b c d e h1 h2 h3 h4 h5 h6
  · exact stopT_6t w a b c d e h1 h2 h3 h4 h5 h6
theorem cloT_any (w : World) (x : Int) : Calls Try.prog 48 #[.int .i64 x] w fun e w' => e = .returned (.bool (!inT x 0 200)) ∧ w' = w := by
  go_enter Try.func48, Try.ntmps48
  go_wp2_with (go_at_call 36; refine (legT_any _ _).mono ?_; rintro e w1 ⟨rfl, hw⟩; rw [hw]; clear hw)
  go_ret
  exact ⟨rfl, rfl⟩
def idxT (o : Option Nat) : Int := match o with | some i => (i : Int) | none => -1
set_option maxRecDepth 100000 in
set_option maxHeartbeats 2000000 in
theorem indexT_any (w : World) (B : Nat) (A : Option Addr) (c : Nat) (l : List Int) (hl : l.length ≤ maxLen) (hB : B ≤ w.heap.size) (hS : IL w B A l) :
    Calls Try.prog 52 #[.slice A l.length c, .func (.func 48) #[] #[]] w fun e w' => ∃ z : Int, e = .returned (.int .i64 z) ∧ (0 ≤ z ↔ ¬ ∀ x ∈ l, inT x 0 200 = true) ∧ -1 ≤ z ∧ Below w.heap.size w w' := by
  unfold maxLen at hl
  have HS := Lib.hid hS; clear hS
  go_enter Try.func52, Try.ntmps52
  go_wp2
  go_loopw [8] (fun i wr => ∃ k : Nat, k ≤ l.length ∧ i = .int .i64 k ∧ (∀ j y, j < k → l[j]? = some y → inT y 0 200 = true) ∧ Below w.heap.size w wr) (fun i _ => l.length - (intOf i).toNat)
  case atStart => exact ⟨0, Nat.zero_le _, rfl, (fun j y hj => absurd hj (by omega)), Below.refl _ _⟩
  case round =>
    obtain ⟨k, hk, rfl, hno, hb⟩ := hrel
    have HNO := Lib.hid hno; clear hno
    have hsz := hb.size
    by_cases hlt : k < l.length
    · obtain ⟨b, off, x, rfl, hbB, hx, hc0⟩ := (HS.out.later hB hb).at_ hlt
      have Hx := Lib.hid hx; clear hx
      cases hq : inT x 0 200
      · have HQ := Lib.hid hq; clear hq
        go_wp2_with (go_at_call 48; refine (cloT_any _ x).mono ?_; rintro e w1 ⟨rfl, hw⟩; rw [hw, HQ.out]; clear hw)
        go_ret
        exact ⟨_, rfl, ⟨fun _ hall => absurd ((hall x (List.mem_of_getElem? Hx.out)).symm.trans HQ.out) (by decide), fun _ => by omega⟩, by omega, hb⟩
      · have HQ := Lib.hid hq; clear hq
        go_wp2_with (go_at_call 48; refine (cloT_any _ x).mono ?_; rintro e w1 ⟨rfl, hw⟩; rw [hw, HQ.out]; clear hw)
        go_roundw
        case rel => exact ⟨k + 1, by omega, by go_num, (fun j y hj hy => by
          by_cases e : j = k
          · subst e; rw [Hx.out] at hy; injection hy with hy; subst hy; exact HQ.out
          · exact HNO.out j y (by omega) hy), hb⟩
        case measure => simp [intOf]; omega
    · go_wp2
      go_ret
      have hkl : k = l.length := by omega
      subst hkl
      refine ⟨-1, rfl, ⟨fun h => absurd h (by omega), fun h => absurd (fun x hx => ?_) h⟩, by omega, hb⟩
      obtain ⟨j, hj, rfl⟩ := List.getElem_of_mem hx
      exact HNO.out j _ hj (List.getElem?_eq_getElem hj)
theorem allLegsT_any (w : World) (B : Nat) (A : Option Addr) (c : Nat) (l : List Int) (hl : l.length ≤ maxLen) (hB : B ≤ w.heap.size) (hS : IL w B A l) :
    Calls Try.prog 37 #[.slice A l.length c] w fun e w' => e = .returned (.bool (l.all fun x => inT x 0 200)) ∧ Below w.heap.size w w' := by
  have hcon : Calls Try.prog 47 #[.slice A l.length c, .func (.func 48) #[] #[]] w fun e w' => e = .returned (.bool (!(l.all fun x => inT x 0 200))) ∧ Below w.heap.size w w' := by
    go_enter Try.func47, Try.ntmps47
    go_wp2_with fail
    refine (indexT_any _ B _ _ _ hl hB hS).mono ?_
    rintro e w1 ⟨z, rfl, hz, hz1, hb⟩
    have HZ := Lib.hid hz; clear hz
    by_cases h0 : 0 ≤ z
    · go_wp2_with fail
      go_ret
      refine ⟨ret_bool ?_, hb⟩
      cases hv : l.all fun x => inT x 0 200
      · first | rfl | (simp; omega)
      · exact absurd (fun x hx => by simpa using (List.all_eq_true.1 hv) x hx) (HZ.out.1 h0)
    · go_wp2_with fail
      go_ret
      refine ⟨ret_bool ?_, hb⟩
      cases hv : l.all fun x => inT x 0 200
      · exfalso
        have h9 := HZ.out.2 (fun hall => by rw [List.all_eq_true.2 (fun x hx => hall x hx)] at hv; cases hv)
        omega
      · first | rfl | (simp; omega)
  go_enter Try.func37, Try.ntmps37
  go_wp2_with fail
  refine hcon.mono ?_
  rintro e w1 ⟨rfl, hb⟩
  go_wp2_with fail
  go_ret
  exact ⟨ret_bool (by simp), hb⟩

set_option maxRecDepth 100000 in
set_option maxHeartbeats 2000000 in
theorem legsT_any (w : World) (B : Nat) (A : Option Addr) (c : Nat) (R : List Rw) (n : Nat) (hn : n ≤ 1000000000) (hl : R.length ≤ maxLen) (hB : B ≤ w.heap.size) (hS : rwL w B A R) (hV : ∀ x ∈ R, RV w B x) :
    Calls Try.prog 25 #[.slice A R.length c, .int .i64 (n : Int)] w fun e w' => e = .returned (.bool (legsB n (gOf R))) ∧ Below w.heap.size w w' := by
  unfold maxLen at hl
  have HS := Lib.hid hS; have HV := Lib.hid hV; clear hS hV
  by_cases hne : R.length = n
  rotate_left
  · have hv : legsB n (gOf R) = false := by
      rw [Bool.eq_false_iff]; intro hq; have h1 := ((legsB_iff _ _).1 hq).1; rw [gOf_len] at h1; exact hne h1
    have hnq : ((R.length : Int) != (n : Int)) = true := by simp; omega
    have HVV := Lib.hid hv; clear hv
    go_enter Try.func25, Try.ntmps25
    go_wp2
    go_ret
    exact ⟨ret_bool HVV.out.symm, Below.refl _ _⟩
  have hnq : ((R.length : Int) != (n : Int)) = false := by simp; omega
  have HNE := Lib.hid hne; clear hne
  go_enter Try.func25, Try.ntmps25
  go_wp2
  clear hnq
  go_loopw [13] (fun i wr => ∃ k : Nat, k ≤ R.length ∧ i = .int .i64 k ∧ (∀ j x, j < k → R[j]? = some x → rowB n x.l = true) ∧ Below w.heap.size w wr) (fun i _ => R.length - (intOf i).toNat)
  case atStart => exact ⟨0, Nat.zero_le _, rfl, (fun j y hj => absurd hj (by omega)), Below.refl _ _⟩
  case round =>
    obtain ⟨k, hk, rfl, hno, hb⟩ := hrel
    have HNO := Lib.hid hno; clear hno
    have hsz := hb.size
    by_cases hlt : k < R.length
    · obtain ⟨b, off, x, rfl, hbB, hx, hc0⟩ := (HS.out.later hB hb).at_ hlt
      have hv := (HV.out x (List.mem_of_getElem? hx)).later hB hb
      have Hx := Lib.hid hx; have HVX := Lib.hid hv; clear hx hv
      have hbad : rowB n x.l = false → legsB n (gOf R) = false := fun h => by
        rw [Bool.eq_false_iff]; intro hq
        have h1 := ((legsB_iff _ _).1 hq).2 x.l (List.mem_of_getElem? (gOf_at Hx.out))
        rw [(rowB_iff _ _).2 h1] at h; cases h
      have HBAD := Lib.hid hbad; clear hbad
      by_cases hxl : x.l.length = n
      rotate_left
      · have hlq : ((x.l.length : Int) != (n : Int)) = true := by simp; omega
        have hv : legsB n (gOf R) = false := HBAD.out (by rw [Bool.eq_false_iff]; intro hq; exact hxl ((rowB_iff _ _).1 hq).1)
        have HVV := Lib.hid hv; clear hv
        go_wp2_with fail
        go_ret
        exact ⟨ret_bool HVV.out.symm, hb⟩
      have hlq : ((x.l.length : Int) != (n : Int)) = false := by simp; omega
      have HXL := Lib.hid hxl; clear hxl
      cases hq : x.l.all fun x => inT x 0 200
      · have HQ := Lib.hid hq; clear hq
        have hv : legsB n (gOf R) = false := HBAD.out (by rw [rowB, HQ.out, Bool.and_false])
        have HVV := Lib.hid hv; clear hv
        go_wp2_with (go_at_call 37; refine (allLegsT_any _ B _ _ _ HVX.out.2 (by omega) HVX.out.1).mono ?_; rintro e w1 ⟨rfl, hb1⟩; rw [HQ.out])
        go_ret
        exact ⟨ret_bool HVV.out.symm, hb.trans (hb1.mono hsz)⟩
      · have HQ := Lib.hid hq; clear hq
        have hrow : rowB n x.l = true := by rw [rowB, HQ.out]; simp [HXL.out]
        have HROW := Lib.hid hrow; clear hrow
        go_wp2_with (go_at_call 37; refine (allLegsT_any _ B _ _ _ HVX.out.2 (by omega) HVX.out.1).mono ?_; rintro e w1 ⟨rfl, hb1⟩; rw [HQ.out])
        go_roundw
        case rel => exact ⟨k + 1, by omega, by go_num, (fun j y hj hy => by
          by_cases e : j = k
          · subst e; rw [Hx.out] at hy; injection hy with hy; subst hy; exact HROW.out
          · exact HNO.out j y (by omega) hy), hb.trans (hb1.mono hsz)⟩
        case measure => simp [intOf]; omega
    · go_wp2
      go_ret
      have hkl : k = R.length := by omega
      subst hkl
      refine ⟨ret_bool ?_, hb⟩
      rw [Eq.comm, legsB]
      simp only [Bool.and_eq_true, decide_eq_true_eq, List.all_eq_true, gOf_len]
      refine ⟨HNE.out, fun l hl => ?_⟩
      obtain ⟨y, hy, rfl⟩ := List.mem_map.1 hl
      obtain ⟨j, hj, rfl⟩ := List.getElem_of_mem hy
      exact HNO.out j _ hj (List.getElem?_eq_getElem hj)

set_option maxRecDepth 100000 in
set_option maxHeartbeats 1000000 in
theorem hasT_any (w : World) (B : Nat) (A : Option Addr) (c n : Nat) (l : List Int) (x : Int) (hn : n = l.length) (hl : l.length ≤ maxLen) (hS : IL w B A l) :
    Calls Try.prog 45 #[.slice A n c, .int .i64 x] w fun e w' => e = .returned (.bool (l.contains x)) ∧ w' = w := by
  subst hn
  unfold maxLen at hl
  have HS := Lib.hid hS; clear hS
  go_enter Try.func45, Try.ntmps45
  go_wp2
  go_loopw [5] (fun i wr => ∃ k : Nat, k ≤ l.length ∧ i = .int .i64 k ∧ (∀ j y, j < k → l[j]? = some y → y ≠ x) ∧ wr = w) (fun i _ => l.length - (intOf i).toNat)
  case atStart => exact ⟨0, Nat.zero_le _, rfl, (fun j y hj => absurd hj (by omega)), rfl⟩
  case round =>
    obtain ⟨k, hk, rfl, hno, rfl⟩ := hrel
    have HNO := Lib.hid hno; clear hno
    by_cases hlt : k < l.length
    · obtain ⟨b, off, y, rfl, hbB, hx, hc0⟩ := HS.out.at_ hlt
      have Hx := Lib.hid hx; clear hx
      cases hq : y == x
      · have hyx : y ≠ x := by simpa using hq
        have HQ := Lib.hid hyx; clear hyx
        go_wp2
        go_roundw
        case rel => exact ⟨k + 1, by omega, by go_num, (fun j z hj hz => by
          by_cases e : j = k
          · subst e; rw [Hx.out] at hz; injection hz with hz; subst hz; exact HQ.out
          · exact HNO.out j z (by omega) hz), by first | trivial | rfl⟩
        case measure => simp [intOf]; omega
      · obtain rfl : y = x := by simpa using hq
        go_wp2
        go_ret
        exact ⟨ret_bool (by simp [List.mem_of_getElem? Hx.out]), rfl⟩
    · go_wp2
      go_ret
      have hkl : k = l.length := by omega
      subst hkl
      refine ⟨ret_bool ?_, rfl⟩
      cases hv : l.contains x
      · rfl
      · exfalso
        have hm : x ∈ l := by simpa using hv
        obtain ⟨j, hj, hjx⟩ := List.getElem_of_mem hm
        exact HNO.out j _ hj (List.getElem?_eq_getElem hj) hjx
end Go.Proofs.Ytfimdhbcifjioaa
