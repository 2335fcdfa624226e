/- Chapter 1: the walk of the law FnExactSplitFields. -/
import Derived.Test.YtnacgaghpcbjkaaSplI
namespace Go.Proofs.Ytnacgaghpcbjkaa
open Go.RowKit
set_option linter.unusedVariables false

theorem strV_seq {l : List ByteArray} (h : strV l = []) : strV (seqT l.length) = [] := by
  obtain rfl := strV_nil h; rfl
set_option maxRecDepth 100000 in
set_option maxHeartbeats 4000000 in
theorem splLaw_walk (w : World) (s : ByteArray) (hs : s.size ≤ maxLen) : Calls Try.prog 3 #[.string s] w fun e w' => e = .returned (.bool true) ∧ Below w.heap.size w w' := by
  have hsm := hs
  unfold maxLen at hs
  by_cases hlong : 1048576 < s.size
  · go_enter Try.func3, Try.ntmps3
    go_wp2
    go_ret
    exact ⟨rfl, Below.refl _ _⟩
  obtain ⟨⟨l, q⟩, hV⟩ : ∃ V, splV s = V := ⟨_, rfl⟩
  have hl : l.length ≤ 24 := by have := splV_len s; rw [hV] at this; exact this
  have hlm : l.length ≤ maxLen := by unfold maxLen; omega
  have nq : (q != q) = false := by simp
  have HV := Lib.hid hV; have HSM := Lib.hid hsm; clear hV hsm
  go_enter Try.func3, Try.ntmps3
  go_wp2_with fail
  refine (splS_any w s HSM.out).mono ?_
  rintro e w1 hans
  rw [HV.out] at hans
  obtain ⟨rA, rn, rfl, hP, hb⟩ := hans
  dsimp only at hP ⊢
  have R_r := Lib.hid (OI.of_or hP); have C := Lib.hid hb; have hs1 := hb.size
  clear hP hb
  go_wp2_with fail
  refine (splI_any w1 s HSM.out).mono ?_
  rintro e w2 hans
  rw [HV.out] at hans
  obtain ⟨gA, gn, rfl, hP, hb⟩ := hans
  dsimp only at hP ⊢
  have R_g := Lib.hid (OI.of_or hP); have hs2 := hb.size
  have kk := R_r.out.call hb; clear R_r; have R_r := Lib.hid kk; clear kk
  have kk := bthen C.out hb; clear C; have C := Lib.hid kk; clear kk
  clear hP hb
  go_wp2_with fail
  refine (eqStringS_any w2 w2.heap.size w2.heap.size gA rA gn rn l hlm (Nat.le_refl _) (Nat.le_refl _) R_g.out.or_.sl R_r.out.or_.sl).mono ?_
  rintro e w3 ⟨rfl, hb⟩
  have hs3 := hb.size
  have kk := R_r.out.call hb; clear R_r; have R_r := Lib.hid kk; clear kk
  have kk := R_g.out.call hb; clear R_g; have R_g := Lib.hid kk; clear kk
  have kk := bthen C.out hb; clear C; have C := Lib.hid kk; clear kk
  clear hb
  go_wp2_with fail
  refine (markStr_any w3 w1.heap.size gA gn l (by omega) R_g.out.or_).mono ?_
  rintro e w4 ⟨rfl, hor, hm⟩
  have hw := within_marks R_g.out hm
  have hs4 := hw.size
  have kk := hw.oi R_r.out (by omega); clear R_r; have R_r := Lib.hid kk; clear kk
  have kk := oi_marked R_g.out hor (fun h => strV_seq h); clear R_g hor; have R_g := Lib.hid kk; clear kk
  have kk := C.out.trans (hw.below (B := w.heap.size) (by omega) (by omega)); clear C; have C := Lib.hid kk; clear kk
  clear hm hw
  go_wp2_with fail
  refine (heldStr_any w4 w4.heap.size gA gn l.length (by omega) (Nat.le_refl _) (by have h9 := R_g.out.or_.sl; exact h9)).mono ?_
  rintro e w5 ⟨rfl, hb⟩
  have hs5 := hb.size
  have kk := R_r.out.call hb; clear R_r; have R_r := Lib.hid kk; clear kk
  have kk := R_g.out.call hb; clear R_g; have R_g := Lib.hid kk; clear kk
  have kk := bthen C.out hb; clear C; have C := Lib.hid kk; clear kk
  clear hb
  have n1 : ((1 + (l.length : Int)) != (1 + (l.length : Int))) = false := by simp
  go_wp2_with fail
  refine (splI_any w5 s HSM.out).mono ?_
  rintro e w6 hans
  rw [HV.out] at hans
  obtain ⟨hA, hn, rfl, hP, hb⟩ := hans
  dsimp only at hP ⊢
  have R_h := Lib.hid (OI.of_or hP); have hs6 := hb.size
  have kk := R_r.out.call hb; clear R_r; have R_r := Lib.hid kk; clear kk
  have kk := R_g.out.call hb; clear R_g; have R_g := Lib.hid kk; clear kk
  have kk := bthen C.out hb; clear C; have C := Lib.hid kk; clear kk
  clear hP hb
  go_wp2_with fail
  refine (eqStringS_any w6 w6.heap.size w6.heap.size hA rA hn rn l hlm (Nat.le_refl _) (Nat.le_refl _) R_h.out.or_.sl R_r.out.or_.sl).mono ?_
  rintro e w7 ⟨rfl, hb⟩
  have hs7 := hb.size
  have kk := R_g.out.call hb; clear R_g; have R_g := Lib.hid kk; clear kk
  have kk := bthen C.out hb; clear C; have C := Lib.hid kk; clear kk
  clear hb
  go_wp2_with fail
  refine (heldStr_any w7 w7.heap.size gA gn l.length (by omega) (Nat.le_refl _) (by have h9 := R_g.out.or_.sl; exact h9)).mono ?_
  rintro e w8 ⟨rfl, hb⟩
  have kk := bthen C.out hb; clear C; have C := Lib.hid kk; clear kk
  clear hb
  go_wp2_with fail
  go_ret
  exact ⟨rfl, C.out⟩
end Go.Proofs.Ytnacgaghpcbjkaa
