/- Chapter 9: NtName, both sides and the law (gen_ntn.py). -/
import Derived.Test.YtcdapefmclgelaaDorA
namespace Go.Proofs.Ytcdapefmclgelaa
open Go.RowKit
set_option linter.unusedVariables false

def ntV (r : Int) : ByteArray := if r = 0 then ⟨#[111, 107]⟩ else if r = 1 then ⟨#[98, 97, 100]⟩ else if r = 2 then ⟨#[110, 111, 110, 101]⟩ else if r = 3 then ⟨#[115, 116, 97, 103, 101]⟩ else if r = 4 then ⟨#[98, 117, 115, 121]⟩ else if r = 5 then ⟨#[116, 105, 109, 101]⟩ else if r = 6 then ⟨#[114, 105, 103, 104, 116]⟩ else if r = 7 then ⟨#[106, 97, 109]⟩ else if r = 8 then ⟨#[114, 111, 111, 109]⟩ else if r = 9 then ⟨#[99, 111, 100, 101]⟩ else if r = 10 then ⟨#[102, 117, 108, 108]⟩ else ⟨#[]⟩
theorem ntV_no {r : Int} (h : ¬ (0 ≤ r ∧ r ≤ 10)) : ntV r = ⟨#[]⟩ := by
  unfold ntV
  rw [if_neg (by omega)]; rw [if_neg (by omega)]; rw [if_neg (by omega)]; rw [if_neg (by omega)]; rw [if_neg (by omega)]; rw [if_neg (by omega)]; rw [if_neg (by omega)]; rw [if_neg (by omega)]; rw [if_neg (by omega)]; rw [if_neg (by omega)]; rw [if_neg (by omega)]
set_option maxRecDepth 100000 in
set_option maxHeartbeats 4000000 in
theorem ntNameS_any (w : World) (r : Int) : Calls Try.prog 5 #[.int .i64 r] w fun e w' => e = .returned (.string (ntV r)) ∧ Below w.heap.size w w' := by
  cases h1 : inR r 0 10
  · have HK := Lib.hid (ntV_no (inR_no.1 h1))
    go_enter Try.func5, Try.ntmps5
    go_wp2_with (refine (inR_any _ _ _ _).mono ?_; rintro e w' ⟨rfl, rfl⟩; rw [h1])
    go_ret
    exact ⟨rstr HK.out.symm, Below.refl _ _⟩
  · have hc : r = 0 ∨ r = 1 ∨ r = 2 ∨ r = 3 ∨ r = 4 ∨ r = 5 ∨ r = 6 ∨ r = 7 ∨ r = 8 ∨ r = 9 ∨ r = 10 := by have := inR_iff.1 h1; omega
    clear h1
    rcases hc with rfl | rfl | rfl | rfl | rfl | rfl | rfl | rfl | rfl | rfl | rfl
    all_goals
      go_enter Try.func5, Try.ntmps5
      go_wp2_with (refine (inR_any _ _ 0 10).mono ?_; rintro e w' ⟨rfl, rfl⟩; rw [show inR _ 0 10 = true from rfl])
      go_ret
      exact ⟨rfl, balloc _ _⟩
set_option maxRecDepth 100000 in
set_option maxHeartbeats 4000000 in
theorem ntNameI_any (w : World) (r : Int) : Calls Try.prog 6 #[.int .i64 r] w fun e w' => e = .returned (.string (ntV r)) ∧ Below w.heap.size w w' := by
  by_cases h1 : 0 ≤ r ∧ r ≤ 10
  · have hc : r = 0 ∨ r = 1 ∨ r = 2 ∨ r = 3 ∨ r = 4 ∨ r = 5 ∨ r = 6 ∨ r = 7 ∨ r = 8 ∨ r = 9 ∨ r = 10 := by omega
    clear h1
    rcases hc with rfl | rfl | rfl | rfl | rfl | rfl | rfl | rfl | rfl | rfl | rfl
    all_goals
      go_enter Try.func6, Try.ntmps6
      go_wp2
      go_ret
      exact ⟨rfl, Below.refl _ _⟩
  · have HK := Lib.hid (ntV_no h1)
    have e0 : (r == 0) = false := by simp; omega
    have e1 : (r == 1) = false := by simp; omega
    have e2 : (r == 2) = false := by simp; omega
    have e3 : (r == 3) = false := by simp; omega
    have e4 : (r == 4) = false := by simp; omega
    have e5 : (r == 5) = false := by simp; omega
    have e6 : (r == 6) = false := by simp; omega
    have e7 : (r == 7) = false := by simp; omega
    have e8 : (r == 8) = false := by simp; omega
    have e9 : (r == 9) = false := by simp; omega
    have e10 : (r == 10) = false := by simp; omega
    go_enter Try.func6, Try.ntmps6
    go_wp2
    go_ret
    exact ⟨rstr HK.out.symm, Below.refl _ _⟩
set_option maxRecDepth 100000 in
set_option maxHeartbeats 4000000 in
theorem ntnLaw_walk (w : World) (x : Int) : Calls Try.prog 3 #[.int .i64 x] w fun e w' => e = .returned (.bool true) ∧ Below w.heap.size w w' := by
  generalize hV : ntV x = V
  have HV := Lib.hid hV; clear hV
  go_enter Try.func3, Try.ntmps3
  go_wp2_with fail
  refine (ntNameS_any _ x).mono ?_
  rintro e w1 ⟨rfl, hb⟩
  rw [HV.out]
  have zb := hb; clear hb
  have CH := Lib.hid zb; clear zb
  go_wp2_with fail
  have zb := CH.out; clear CH
  refine (ntNameI_any _ x).mono ?_
  rintro e w2 ⟨rfl, hb⟩
  rw [HV.out]
  replace zb := bthen zb hb; clear hb
  have CH := Lib.hid zb; clear zb
  go_wp2_with fail
  have zb := CH.out; clear CH
  go_ret
  exact ⟨rfl, zb⟩
end Go.Proofs.Ytcdapefmclgelaa
