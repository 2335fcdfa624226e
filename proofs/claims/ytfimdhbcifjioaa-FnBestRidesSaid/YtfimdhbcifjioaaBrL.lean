/- Chapter 7: before (the order of lists of numbers). -/
import Derived.Test.YtfimdhbcifjioaaBrP
import Derived.Deep.DeepCutAuto
import Derived.RegionTactic
import Derived.Laws.BitsAllLaws
namespace Go.Proofs.Ytfimdhbcifjioaa
open Go.RowKit
set_option linter.unusedVariables false

theorem mask3 (v : Int) : 0 ≤ bits .and .i64 v 3 ∧ bits .and .i64 v 3 ≤ 3 := by
  have h : bits .and .i64 v 3 = IntKind.i64.wrap ((BitVec.ofInt 64 v &&& BitVec.ofInt 64 3).toNat : Int) := rfl
  rw [h, BitVec.toNat_and, IntKind.wrap_i64]
  have : (BitVec.ofInt 64 v).toNat &&& (BitVec.ofInt 64 3).toNat ≤ (BitVec.ofInt 64 3).toNat := Nat.and_le_right
  have e : (BitVec.ofInt 64 3).toNat = 3 := by decide
  rw [e] at this ⊢
  omega
theorem befB_drop {a b : List Int} {k : Nat} {x y : Int} (hx : a[k]? = some x) (hy : b[k]? = some y) : befB (a.drop k) (b.drop k) = if x = y then befB (a.drop (k + 1)) (b.drop (k + 1)) else decide (x < y) := by
  obtain ⟨h1, e1⟩ := List.getElem?_eq_some_iff.1 hx
  obtain ⟨h2, e2⟩ := List.getElem?_eq_some_iff.1 hy
  rw [List.drop_eq_getElem_cons h1, List.drop_eq_getElem_cons h2, e1, e2]
  by_cases h : x = y
  · subst h; rw [befB_same, if_pos rfl]
  · rw [befB_diff h, if_neg h]
set_option maxHeartbeats 1000000 in
theorem befL_any (w : World) (B : Nat) (A A' : Option Addr) (c c' : Nat) (a b : List Int) (hl : a.length ≤ 1048576) (hl' : b.length ≤ 1048576) (hB : B ≤ w.heap.size) (hS : IL w B A a) (hS' : IL w B A' b) :
    Calls Try.prog 14 #[.slice A a.length c, .slice A' b.length c'] w fun e w' => e = .returned (.bool (befB a b)) ∧ Below w.heap.size w w' := by
  have HS := Lib.hid hS; have HS' := Lib.hid hS'; clear hS hS'
  obtain ⟨V, hV⟩ : ∃ V, befB a b = V := ⟨_, rfl⟩
  rw [hV]
  have HV := Lib.hid hV; clear hV
  go_enter Try.func14, Try.ntmps14
  go_wp2
  go_loopw [5] (fun i wr => ∃ (n : Nat), n ≤ a.length ∧ n ≤ b.length ∧ i = .int .i64 n ∧ befB (a.drop n) (b.drop n) = V ∧ Below w.heap.size w wr) (fun i _ => a.length - (intOf i).toNat)
  case atStart => exact ⟨0, Nat.zero_le _, Nat.zero_le _, rfl, HV.out, Below.refl _ _⟩
  case round =>
    obtain ⟨n, hn, hn', rfl, hv, hb⟩ := hrel
    have HB := Lib.hid hb
    have hsz := hb.size
    clear hb
    by_cases hlt : n < a.length
    · by_cases hlt' : n < b.length
      · obtain ⟨p, off, x, rfl, hbB, hx, hc⟩ := (HS.out.later hB HB.out).at_ hlt
        obtain ⟨p', off', x', rfl, hbB', hx', hc'⟩ := (HS'.out.later hB HB.out).at_ hlt'
        rw [befB_drop hx hx'] at hv
        clear hx hx'
        by_cases he : x = x'
        · subst he
          rw [if_pos rfl] at hv
          have HVV := Lib.hid hv; clear hv
          have ne : (x != x) = false := by simp
          go_wp2
          go_quiet (fail)
          go_wp2
          go_roundw
          case rel => exact ⟨n + 1, by omega, by omega, by go_num, HVV.out, below_drewN HB.out _⟩
          case measure => simp [intOf]; omega
        · rw [if_neg he] at hv
          have ne : (x != x') = true := by simpa using he
          go_wp2
          go_quiet (fail)
          go_wp2
          go_quiet (fail)
          go_wp2
          go_ret
          exact ⟨by first | rfl | exact ret_bool hv, below_drewN (below_drewN HB.out _) _⟩
      · have hnl : n = b.length := by omega
        rw [List.drop_eq_nil_of_le (by omega : b.length ≤ n), befB_nil] at hv
        subst hv
        go_wp2
        go_ret
        exact ⟨rfl, HB.out⟩
    · have hnl : n = a.length := by omega
      rw [List.drop_eq_nil_of_le (by omega : a.length ≤ n), befB_nil'] at hv
      subst hv
      go_wp2
      go_ret
      exact ⟨rfl, HB.out⟩
end Go.Proofs.Ytfimdhbcifjioaa
