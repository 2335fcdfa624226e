/- Chapter 5: contracts of GrantsOk, both sides (gen_grb.py). -/
import Derived.Test.YtdaeljjjcgpcoaaGraA
namespace Go.Proofs.Ytdaeljjjcgpcoaa
open Go.RowKit
set_option linter.unusedVariables false
theorem grants_long {l : List Gr} (h : 30 < l.length) : grantsB l = false := by unfold grantsB; rw [decide_eq_false (by omega)]; rfl
theorem grants_bad {l : List Gr} {k : Nat} {x : Gr} (hx : l[k]? = some x) (h : grantB x = false) : grantsB l = false := by
  have : l.all grantB = false := by rw [List.all_eq_false]; exact ⟨x, List.mem_of_getElem? hx, by simp [h]⟩
  unfold grantsB; rw [this]; simp
theorem grants_all {l : List Gr} (h : l.length ≤ 30) (h2 : (l.take l.length).all grantB = true) : grantsB l = true := by
  rw [List.take_length] at h2; unfold grantsB; rw [decide_eq_true h, h2]; rfl
theorem all_snoc {l : List Gr} {k : Nat} {x : Gr} (hx : l[k]? = some x) (h : (l.take k).all grantB = true) (hg : grantB x = true) : (l.take (k + 1)).all grantB = true := by
  rw [List.take_add_one, hx]; simp only [Option.toList_some, List.all_append, h, List.all_cons, hg, List.all_nil, Bool.and_self]
theorem grantsB_len {l : List Gr} (h : grantsB l = true) : l.length ≤ 30 := by unfold grantsB at h; simp at h; exact h.1
theorem grantsB_all {l : List Gr} (h : grantsB l = true) {k : Nat} {x : Gr} (hx : l[k]? = some x) : grantB x = true := by
  unfold grantsB at h; simp at h; exact h.2 x (List.mem_of_getElem? hx)

set_option maxRecDepth 100000 in
set_option maxHeartbeats 2000000 in
theorem grantsI_any (w : World) (B : Nat) (A : Option Addr) (c : Nat) (l : List Gr) (hl : l.length ≤ maxLen) (hB : B ≤ w.heap.size) (hS : grL w B A l) :
    Calls Try.prog 14 #[.slice A l.length c] w fun e w' => e = .returned (.bool (grantsB l)) ∧ Below w.heap.size w w' := by
  unfold maxLen at hl
  by_cases h30 : 30 < l.length
  · go_enter Try.func14, Try.ntmps14
    go_wp2
    go_ret
    exact ⟨rbool (grants_long h30).symm, Below.refl _ _⟩
  go_enter Try.func14, Try.ntmps14
  go_wp2
  go_loopw [10] (fun i wr => ∃ k : Nat, k ≤ l.length ∧ i = .int .i64 k ∧ (l.take k).all grantB = true ∧ Below w.heap.size w wr) (fun i _ => l.length - (intOf i).toNat)
  case atStart => exact ⟨0, Nat.zero_le _, rfl, rfl, Below.refl _ _⟩
  case round =>
    obtain ⟨k, hk, rfl, hno, hb⟩ := hrel
    have Hno := Lib.hid hno; clear hno
    by_cases hlt : k < l.length
    · obtain ⟨b, off, ⟨x0, x1, x2, x3, x4, x5, x6⟩, rfl, hbB, hx, hc0, hc1, hc2, hc3, hc4, hc5, hc6⟩ := (hS.below (hb.mono hB)).at_ hlt
      dsimp only at hc0 hc1 hc2 hc3 hc4 hc5 hc6
      have Hx := Lib.hid hx; clear hx
      have HS := Lib.hid hS; clear hS
      have hsz := hb.size
      cases hq : grantB ⟨x0, x1, x2, x3, x4, x5, x6⟩
      · have HQ := Lib.hid hq; clear hq
        go_wp2_with (go_at_call 27; refine (grantI_any _ x0 x1 x2 x3 x4 x5 x6).mono ?_; rintro e w1 ⟨rfl, hb1⟩; rw [HQ.out])
        go_ret
        exact ⟨rbool (grants_bad Hx.out HQ.out).symm, (hb.alloc hsz _).trans (hb1.mono (by simp; omega))⟩
      · have HQ := Lib.hid hq; clear hq
        go_wp2_with (go_at_call 27; refine (grantI_any _ x0 x1 x2 x3 x4 x5 x6).mono ?_; rintro e w1 ⟨rfl, hb1⟩; rw [HQ.out])
        go_roundw
        case rel => exact ⟨k + 1, by omega, by go_num, all_snoc Hx.out Hno.out HQ.out, (hb.alloc hsz _).trans (hb1.mono (by simp; omega))⟩
        case measure => simp [intOf]; omega
    · go_wp2
      go_ret
      have hkl : k = l.length := by omega
      subst hkl
      exact ⟨rbool (grants_all (by omega) Hno.out).symm, hb⟩
set_option maxRecDepth 100000 in
set_option maxHeartbeats 2000000 in
theorem grantsS_any (w : World) (B : Nat) (A : Option Addr) (c : Nat) (l : List Gr) (hl : l.length ≤ maxLen) (hB : B ≤ w.heap.size) (hS : grL w B A l) :
    Calls Try.prog 10 #[.slice A l.length c] w fun e w' => e = .returned (.bool (grantsB l)) ∧ Below w.heap.size w w' := by
  unfold maxLen at hl
  by_cases h30 : 30 < l.length
  · go_enter Try.func10, Try.ntmps10
    go_wp2
    go_ret
    exact ⟨rbool (grants_long h30).symm, Below.refl _ _⟩
  go_enter Try.func10, Try.ntmps10
  go_wp2
  go_loopw [3] (fun i wr => ∃ k : Nat, k ≤ l.length ∧ i = .int .i64 k ∧ (l.take k).all grantB = true ∧ Below w.heap.size w wr) (fun i _ => l.length - (intOf i).toNat)
  case atStart => exact ⟨0, Nat.zero_le _, rfl, rfl, Below.refl _ _⟩
  case round =>
    obtain ⟨k, hk, rfl, hno, hb⟩ := hrel
    have Hno := Lib.hid hno; clear hno
    by_cases hlt : k < l.length
    · obtain ⟨b, off, ⟨x0, x1, x2, x3, x4, x5, x6⟩, rfl, hbB, hx, hc0, hc1, hc2, hc3, hc4, hc5, hc6⟩ := (hS.below (hb.mono hB)).at_ hlt
      dsimp only at hc0 hc1 hc2 hc3 hc4 hc5 hc6
      have Hx := Lib.hid hx; clear hx
      have HS := Lib.hid hS; clear hS
      have hsz := hb.size
      cases hq : grantB ⟨x0, x1, x2, x3, x4, x5, x6⟩
      · have HQ := Lib.hid hq; clear hq
        go_wp2_with (go_at_call 26; refine (grantS_any _ x0 x1 x2 x3 x4 x5 x6).mono ?_; rintro e w1 ⟨rfl, hb1⟩; rw [HQ.out])
        go_ret
        exact ⟨rbool (grants_bad Hx.out HQ.out).symm, hb.trans (hb1.mono hsz)⟩
      · have HQ := Lib.hid hq; clear hq
        go_wp2_with (go_at_call 26; refine (grantS_any _ x0 x1 x2 x3 x4 x5 x6).mono ?_; rintro e w1 ⟨rfl, hb1⟩; rw [HQ.out])
        go_roundw
        case rel => exact ⟨k + 1, by omega, by go_num, all_snoc Hx.out Hno.out HQ.out, hb.trans (hb1.mono hsz)⟩
        case measure => simp [intOf]; omega
    · go_wp2
      go_ret
      have hkl : k = l.length := by omega
      subst hkl
      exact ⟨rbool (grants_all (by omega) Hno.out).symm, hb⟩
end Go.Proofs.Ytdaeljjjcgpcoaa
