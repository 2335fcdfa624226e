/- Chapter 1: contracts of the functions that look through spans (walks over the translated text). -/
import Derived.Test.YtfkhhefphbhppaaChecked
import Derived.WalkKit
import Derived.Test.YtfkhhefphbhppaaRet
import Derived.Below
import Derived.Lib.Hide
import Derived.IntWalk
import Derived.Deep.QuietTactic
import Derived.BigQuiet
namespace Go.Proofs.Ytfkhhefphbhppaa
open Go.RowKit
set_option linter.unusedVariables false

/-- A slice of pairs of integers: the value's address A and length reads as the list l, below block B. -/
def SL (w : World) (B : Nat) (A : Option Addr) (l : List (Int × Int)) : Prop :=
  l = [] ∨ ∃ b off, A = some ⟨b, off, none⟩ ∧ b < B ∧ ∀ k x, l[k]? = some x → w.cell? ⟨b, off + k * 2, none⟩ = some (.int .i64 x.1) ∧ w.cell? ⟨b, off + k * 2 + 1, none⟩ = some (.int .i64 x.2)

theorem SL.below {w w' : World} {B : Nat} {A : Option Addr} {l : List (Int × Int)} (h : SL w B A l) (hb : Below B w w') : SL w' B A l := by
  rcases h with h | ⟨b, off, rfl, hlt, hc⟩
  · exact .inl h
  · refine .inr ⟨b, off, rfl, hlt, fun k x hx => ?_⟩
    have := hc k x hx
    exact ⟨(hb.cell (p := ⟨b, off + k * 2, none⟩) hlt).trans this.1, (hb.cell (p := ⟨b, off + k * 2 + 1, none⟩) hlt).trans this.2⟩

theorem SL.at_ {w : World} {B : Nat} {A : Option Addr} {l : List (Int × Int)} (h : SL w B A l) {k : Nat} (hk : k < l.length) :
    ∃ b off x0 x1, A = some ⟨b, off, none⟩ ∧ b < B ∧ l[k]? = some (x0, x1) ∧ w.cell? ⟨b, off + k * 2, none⟩ = some (.int .i64 x0) ∧ w.cell? ⟨b, off + k * 2 + 1, none⟩ = some (.int .i64 x1) := by
  rcases h with h | ⟨b, off, rfl, hlt, hc⟩
  · subst h; simp at hk
  · exact ⟨b, off, _, _, rfl, hlt, List.getElem?_eq_getElem hk, hc k _ (List.getElem?_eq_getElem hk)⟩

/-- the hour h lies in the span -/
def inSpan (h : Int) (s : Int × Int) : Bool := decide (s.1 ≤ h) && decide (h < s.2)
def withinB (l : List (Int × Int)) (h : Int) : Bool := l.any (inSpan h)

theorem take_any_snoc (l : List (Int × Int)) (h : Int) (k : Nat) (x : Int × Int) (hk : l[k]? = some x) (h0 : (l.take k).any (inSpan h) = false) (h1 : inSpan h x = false) : (l.take (k+1)).any (inSpan h) = false := by
  rw [List.take_add_one, hk]; simp [h0, h1]
theorem any_of_at (l : List (Int × Int)) (h : Int) (k : Nat) (x : Int × Int) (hk : l[k]? = some x) (h1 : inSpan h x = true) : withinB l h = true := by
  unfold withinB; rw [List.any_eq_true]; exact ⟨x, List.mem_of_getElem? hk, h1⟩

set_option maxHeartbeats 400000 in
theorem within_any (w : World) (B : Nat) (A : Option Addr) (c : Nat) (l : List (Int × Int)) (h : Int) (hl : l.length ≤ maxLen) (hS : SL w B A l) :
    Calls Try.prog 43 #[.slice A l.length c, .int .i64 h] w fun e w' => e = .returned (.bool (withinB l h)) ∧ w' = w := by
  unfold maxLen at hl
  go_enter Try.func43, Try.ntmps43
  go_wp2
  go_loop [5] (fun i => ∃ k : Nat, k ≤ l.length ∧ i = .int .i64 k ∧ (l.take k).any (inSpan h) = false) (fun i => l.length - (intOf i).toNat)
  case atStart => exact ⟨0, Nat.zero_le _, rfl, by simp⟩
  case round =>
    obtain ⟨k, hk, rfl, hno⟩ := hrel
    have Hno := Lib.hid hno; clear hno
    by_cases hlt : k < l.length
    · obtain ⟨b, off, x0, x1, rfl, hbB, hx, hc0, hc1⟩ := hS.at_ hlt
      have Hx := Lib.hid hx; clear hx
      have HS := Lib.hid hS; clear hS
      by_cases h0 : x0 ≤ h
      · by_cases h1 : h < x1
        · go_wp2
          go_ret
          exact ⟨ret_bool (any_of_at l h k _ Hx.out (by simp [inSpan, h0, h1])).symm, rfl⟩
        · go_wp2
          go_round
          case rel => exact ⟨k + 1, by omega, by go_num, take_any_snoc l h k _ Hx.out Hno.out (by simp [inSpan]; omega)⟩
          case measure => simp [intOf]; omega
      · go_wp2
        go_round
        case rel => exact ⟨k + 1, by omega, by go_num, take_any_snoc l h k _ Hx.out Hno.out (by simp [inSpan]; omega)⟩
        case measure => simp [intOf]; omega
    · go_wp2
      go_ret
      have hkl : k = l.length := by omega
      have := Hno.out
      rw [hkl, List.take_length] at this
      exact ⟨ret_bool this.symm, rfl⟩

/-- what inSpans looks for: the first span that ends behind the hour decides -/
def firstB : List (Int × Int) → Int → Bool
  | [], _ => false
  | s :: r, h => if h < s.2 then decide (s.1 ≤ h) else firstB r h
theorem firstB_drop (l : List (Int × Int)) (h : Int) (k : Nat) (x : Int × Int) (hk : l[k]? = some x) : firstB (l.drop k) h = if h < x.2 then decide (x.1 ≤ h) else firstB (l.drop (k+1)) h := by
  have hlt : k < l.length := by
    rcases Nat.lt_or_ge k l.length with hh | hh
    · exact hh
    · rw [List.getElem?_eq_none hh] at hk; cases hk
  rw [List.drop_eq_getElem_cons hlt]
  have : l[k] = x := by rw [List.getElem?_eq_getElem hlt] at hk; injection hk
  rw [this]; rfl
theorem firstB_hit (l : List (Int × Int)) (h : Int) (k : Nat) (x : Int × Int) (hk : l[k]? = some x) (hno : firstB l h = firstB (l.drop k) h) (hlt : h < x.2) : firstB l h = decide (x.1 ≤ h) := by
  rw [hno, firstB_drop l h k x hk, if_pos hlt]
theorem firstB_next (l : List (Int × Int)) (h : Int) (k : Nat) (x : Int × Int) (hk : l[k]? = some x) (hno : firstB l h = firstB (l.drop k) h) (hlt : ¬ h < x.2) : firstB l h = firstB (l.drop (k+1)) h := by
  rw [hno, firstB_drop l h k x hk, if_neg hlt]

set_option maxHeartbeats 400000 in
theorem first_any (w : World) (B : Nat) (A : Option Addr) (c : Nat) (l : List (Int × Int)) (h : Int) (hl : l.length ≤ maxLen) (hB : B ≤ w.heap.size) (hS : SL w B A l) :
    Calls Try.prog 42 #[.slice A l.length c, .int .i64 h] w fun e w' => e = .returned (.bool (firstB l h)) ∧ Below w.heap.size w w' := by
  unfold maxLen at hl
  go_enter Try.func42, Try.ntmps42
  go_wp2
  go_loopw [9] (fun i wr => ∃ k : Nat, k ≤ l.length ∧ i = .int .i64 k ∧ firstB l h = firstB (l.drop k) h ∧ Below w.heap.size w wr) (fun i _ => l.length - (intOf i).toNat)
  case atStart => exact ⟨0, Nat.zero_le _, rfl, by simp, Below.refl _ _⟩
  case round =>
    obtain ⟨k, hk, rfl, hno, hb⟩ := hrel
    have Hno := Lib.hid hno; clear hno
    by_cases hlt : k < l.length
    · obtain ⟨b, off, x0, x1, rfl, hbB, hx, hc0, hc1⟩ := (hS.below (hb.mono hB)).at_ hlt
      have Hx := Lib.hid hx; clear hx
      have HS := Lib.hid hS; clear hS
      have hsz := hb.size
      by_cases h1 : h < x1
      · go_wp2
        go_ret
        exact ⟨ret_bool (firstB_hit l h k _ Hx.out Hno.out h1).symm, hb.alloc hsz _⟩
      · go_wp2
        go_roundw
        case rel => exact ⟨k + 1, by omega, by go_num, firstB_next l h k _ Hx.out Hno.out h1, hb.alloc hsz _⟩
        case measure => simp [intOf]; omega
    · go_wp2
      go_ret
      have hkl : k = l.length := by omega
      have := Hno.out
      rw [hkl, List.drop_length] at this
      exact ⟨ret_bool this.symm, hb⟩
end Go.Proofs.Ytfkhhefphbhppaa
