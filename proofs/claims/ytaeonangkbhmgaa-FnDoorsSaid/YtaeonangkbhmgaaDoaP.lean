/- Chapter 4: lists of acts: plain facts. -/
import Derived.Test.YtaeonangkbhmgaaDorG
import Derived.Test.YtaeonangkbhmgaaBoxH
namespace Go.Proofs.Ytaeonangkbhmgaa
open Go.RowKit
set_option linter.unusedVariables false
/-- the door behind k acts -/
def dAt (d : Dr) (l : List Int) : Nat → Dr
  | 0 => d
  | k + 1 => actD (dAt d l k) (l.getD k 0)
/-- the acts among the first k that changed the door -/
def oAt (d : Dr) (l : List Int) : Nat → List Int
  | 0 => []
  | k + 1 => if dAt d l (k + 1) = dAt d l k then oAt d l k else oAt d l k ++ [(k : Int)]
theorem dAt_succ {d : Dr} {l : List Int} {k : Nat} {a : Int} (h : l[k]? = some a) : dAt d l (k + 1) = actD (dAt d l k) a := by
  show actD (dAt d l k) (l.getD k 0) = _
  rw [List.getD_eq_getElem?_getD, h]; rfl
theorem oAt_same {d : Dr} {l : List Int} {k : Nat} (h : dAt d l (k + 1) = dAt d l k) : oAt d l (k + 1) = oAt d l k := if_pos h
theorem oAt_more {d : Dr} {l : List Int} {k : Nat} (h : ¬ dAt d l (k + 1) = dAt d l k) : oAt d l (k + 1) = oAt d l k ++ [(k : Int)] := if_neg h
theorem oAt_len (d : Dr) (l : List Int) : ∀ k, (oAt d l k).length ≤ k
  | 0 => Nat.zero_le _
  | k + 1 => by
    have ih := oAt_len d l k
    unfold oAt; split
    · omega
    · simp; omega
def actsB (l : List Int) : Bool := decide (l.length ≤ 200) && l.all (fun a => inR a 1 9)
theorem actsB_len {l : List Int} (h : actsB l = true) : l.length ≤ 200 := by simp [actsB] at h; exact h.1
theorem actsB_at {l : List Int} (h : actsB l = true) {k : Nat} {a : Int} (hk : l[k]? = some a) : inR a 1 9 = true := by
  simp only [actsB, Bool.and_eq_true, List.all_eq_true] at h
  exact h.2 a (List.mem_of_getElem? hk)
theorem actsB_big {l : List Int} (h : 200 < l.length) : actsB l = false := by simp [actsB]; omega
theorem actsB_bad {l : List Int} {k : Nat} {a : Int} (hk : l[k]? = some a) (h : inR a 1 9 = false) : actsB l = false := by
  cases hh : actsB l
  · rfl
  · rw [actsB_at hh hk] at h; cases h
theorem actsB_all {l : List Int} (h : l.length ≤ 200) (h' : ∀ k a, k < l.length → l[k]? = some a → inR a 1 9 = true) : actsB l = true := by
  simp only [actsB, Bool.and_eq_true, List.all_eq_true, decide_eq_true_eq]
  refine ⟨h, fun a ha => ?_⟩
  obtain ⟨k, hk⟩ := List.mem_iff_getElem?.1 ha
  exact h' k a (List.getElem?_eq_some_iff.1 hk).1 hk
def doActs (d : Dr) (l : List Int) : Dr × List Int := if d.ok && actsB l then (dAt d l l.length, oAt d l l.length) else (d, [])
theorem doActs_yes {d : Dr} {l : List Int} (h : d.ok = true) (h' : actsB l = true) : doActs d l = (dAt d l l.length, oAt d l l.length) := by unfold doActs; rw [h, h']; rfl
theorem doActs_no1 {d : Dr} {l : List Int} (h : d.ok = false) : doActs d l = (d, []) := by unfold doActs; rw [h]; rfl
theorem doActs_no2 {d : Dr} {l : List Int} (h' : actsB l = false) : doActs d l = (d, []) := by unfold doActs; rw [h', Bool.and_false]; rfl

set_option maxHeartbeats 1000000 in
theorem actsI_any (w : World) (B : Nat) (A : Option Addr) (c : Nat) (l : List Int) (hl : l.length ≤ maxLen) (hS : IL w B A l) :
    Calls Try.prog 41 #[.slice A l.length c] w fun e w' => e = .returned (.bool (actsB l)) ∧ w' = w := by
  unfold maxLen at hl
  by_cases hb : l.length ≤ 200
  · go_enter Try.func41, Try.ntmps41
    go_wp2
    go_loop [10] (fun iv => ∃ k : Nat, k ≤ l.length ∧ iv = .int .i64 k ∧ ∀ j a, j < k → l[j]? = some a → inR a 1 9 = true) (fun iv => l.length - (intOf iv).toNat)
    case atStart => exact ⟨0, Nat.zero_le _, rfl, fun j a h => absurd h (by omega)⟩
    case round =>
      obtain ⟨k, hk, rfl, hall⟩ := hrel
      have HA := Lib.hid hall; clear hall
      by_cases hlt : k < l.length
      · obtain ⟨b, off, x, rfl, hbB, hx, hc0⟩ := hS.at_ hlt
        have HX := Lib.hid hx; clear hx
        have HS := Lib.hid hS; clear hS
        go_wp2
        all_goals
          first
          | (go_round
             case rel =>
               refine ⟨k + 1, by omega, by go_num, fun j a hj hja => ?_⟩
               by_cases e : j = k
               · subst e; rw [HX.out] at hja; injection hja with hja; subst hja; exact inR_iff.2 (by simp_all)
               · exact HA.out j a (by omega) hja
             case measure => simp [intOf]; omega)
          | (go_ret; exact ⟨rbool (actsB_bad HX.out (by rw [inR_no]; simp_all <;> omega)).symm, rfl⟩)
      · go_wp2
        go_ret
        exact ⟨rbool (actsB_all hb (fun j a hj hja => HA.out j a (by omega) hja)).symm, rfl⟩
  · go_enter Try.func41, Try.ntmps41
    go_wp2
    go_ret
    exact ⟨rbool (actsB_big (by omega)).symm, rfl⟩
end Go.Proofs.Ytaeonangkbhmgaa
