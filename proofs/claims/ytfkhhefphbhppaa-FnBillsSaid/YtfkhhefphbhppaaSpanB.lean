/- Chapter 1: contracts of SpansOk, by the program and by the model. -/
import Derived.Test.YtfkhhefphbhppaaSpanA
import Derived.Test.YtfkhhefphbhppaaMem
namespace Go.Proofs.Ytfkhhefphbhppaa
open Go.RowKit
set_option linter.unusedVariables false

def chainB : Int → List (Int × Int) → Int → Bool
  | _, [], _ => true
  | p, x :: r, most => if 0 ≤ x.1 then if x.1 < x.2 then if x.2 ≤ most then if p < x.1 then chainB x.2 r most else false else false else false else false
def prevOf (l : List (Int × Int)) : Nat → Int
  | 0 => -1
  | k + 1 => ((l[k]?).getD (0, 0)).2
def spansB (l : List (Int × Int)) (most : Int) : Bool := if l.length ≤ 20 then chainB (-1) l most else false
theorem chainB_drop (l : List (Int × Int)) (most p : Int) (k : Nat) (x : Int × Int) (hk : l[k]? = some x) : chainB p (l.drop k) most = if 0 ≤ x.1 then if x.1 < x.2 then if x.2 ≤ most then if p < x.1 then chainB x.2 (l.drop (k+1)) most else false else false else false else false := by
  have hlt : k < l.length := by
    rcases Nat.lt_or_ge k l.length with hh | hh
    · exact hh
    · rw [List.getElem?_eq_none hh] at hk; cases hk
  rw [List.drop_eq_getElem_cons hlt]
  have : l[k] = x := by rw [List.getElem?_eq_getElem hlt] at hk; injection hk
  rw [this]; rfl
theorem spans_long (l : List (Int × Int)) (most : Int) (h : 20 < l.length) : spansB l most = false := by
  unfold spansB; rw [if_neg (by omega)]
theorem spans_start (l : List (Int × Int)) (most : Int) (h : ¬ 20 < l.length) : spansB l most = chainB (prevOf l 0) (l.drop 0) most := by
  unfold spansB; rw [if_pos (by omega)]; rfl
theorem spans_bad (l : List (Int × Int)) (most : Int) (k : Nat) (x : Int × Int) (hk : l[k]? = some x) (h : spansB l most = chainB (prevOf l k) (l.drop k) most)
    (hbad : x.1 < 0 ∨ x.2 ≤ x.1 ∨ most < x.2 ∨ x.1 ≤ prevOf l k) : spansB l most = false := by
  rw [h, chainB_drop l most _ k x hk]
  rcases hbad with hb | hb | hb | hb
  · rw [if_neg (by omega)]
  · by_cases h1 : 0 ≤ x.1
    · rw [if_pos h1, if_neg (by omega)]
    · rw [if_neg h1]
  · by_cases h1 : 0 ≤ x.1
    · by_cases h2 : x.1 < x.2
      · rw [if_pos h1, if_pos h2, if_neg (by omega)]
      · rw [if_pos h1, if_neg h2]
    · rw [if_neg h1]
  · by_cases h1 : 0 ≤ x.1
    · by_cases h2 : x.1 < x.2
      · by_cases h3 : x.2 ≤ most
        · rw [if_pos h1, if_pos h2, if_pos h3, if_neg (by omega)]
        · rw [if_pos h1, if_pos h2, if_neg h3]
      · rw [if_pos h1, if_neg h2]
    · rw [if_neg h1]
theorem spans_good (l : List (Int × Int)) (most : Int) (k : Nat) (x : Int × Int) (hk : l[k]? = some x) (h : spansB l most = chainB (prevOf l k) (l.drop k) most)
    (h1 : 0 ≤ x.1) (h2 : x.1 < x.2) (h3 : x.2 ≤ most) (h4 : prevOf l k < x.1) : spansB l most = chainB (prevOf l (k+1)) (l.drop (k+1)) most := by
  rw [h, chainB_drop l most _ k x hk, if_pos h1, if_pos h2, if_pos h3, if_pos h4]
  simp [prevOf, hk]
theorem spans_end (l : List (Int × Int)) (most : Int) (h : spansB l most = chainB (prevOf l l.length) (l.drop l.length) most) : spansB l most = true := by
  rw [h, List.drop_length]; rfl
theorem prev_at (l : List (Int × Int)) (k : Nat) (x : Int × Int) (h : l[k]? = some x) : prevOf l (k+1) = x.2 := by simp [prevOf, h]

set_option maxHeartbeats 1000000 in
theorem spansI_any (w : World) (B : Nat) (A : Option Addr) (c : Nat) (l : List (Int × Int)) (h : Int) (hl : l.length ≤ maxLen) (hB : B ≤ w.heap.size) (hS : SL w B A l) :
    Calls Try.prog 32 #[.slice A l.length c, .int .i64 h] w fun e w' => e = .returned (.bool (spansB l h)) ∧ Below w.heap.size w w' := by
  unfold maxLen at hl
  by_cases h20 : 20 < l.length
  · go_enter Try.func32, Try.ntmps32
    go_wp2
    go_ret
    exact ⟨ret_bool (spans_long l h h20).symm, Below.refl _ _⟩
  go_enter Try.func32, Try.ntmps32
  go_wp2
  go_loopw [12] (fun i wr => ∃ k : Nat, k ≤ l.length ∧ i = .int .i64 k ∧ spansB l h = chainB (prevOf l k) (l.drop k) h ∧ Below w.heap.size w wr) (fun i _ => l.length - (intOf i).toNat)
  case atStart => exact ⟨0, Nat.zero_le _, rfl, spans_start l h h20, Below.refl _ _⟩
  case round =>
    obtain ⟨k, hk, rfl, hno, hb⟩ := hrel
    have Hno := Lib.hid hno; clear hno
    by_cases hlt : k < l.length
    · have HSk := (hS.below (hb.mono hB))
      obtain ⟨b, off, x0, x1, rfl, hbB, hx, hc0, hc1⟩ := HSk.at_ hlt
      have Hx := Lib.hid hx; clear hx
      have hsz := hb.size
      by_cases h0 : x0 < 0
      · have HS := Lib.hid hS; clear hS
        have HSk' := Lib.hid HSk; clear HSk
        go_wp2
        go_ret
        exact ⟨ret_bool (spans_bad l h k _ Hx.out Hno.out (.inl h0)).symm, hb.alloc hsz _⟩
      by_cases h1 : x1 ≤ x0
      · have HS := Lib.hid hS; clear hS
        have HSk' := Lib.hid HSk; clear HSk
        go_wp2
        go_ret
        exact ⟨ret_bool (spans_bad l h k _ Hx.out Hno.out (.inr (.inl h1))).symm, hb.alloc hsz _⟩
      by_cases h2 : h < x1
      · have HS := Lib.hid hS; clear hS
        have HSk' := Lib.hid HSk; clear HSk
        go_wp2
        go_ret
        exact ⟨ret_bool (spans_bad l h k _ Hx.out Hno.out (.inr (.inr (.inl h2)))).symm, hb.alloc hsz _⟩
      rcases k with _ | m
      · have HS := Lib.hid hS; clear hS
        have HSk' := Lib.hid HSk; clear HSk
        have hc0' : wr.cell? ⟨b, off, none⟩ = some (.int .i64 x0) := by simpa using hc0
        have hc1' : wr.cell? ⟨b, off + 1, none⟩ = some (.int .i64 x1) := by simpa using hc1
        clear hc0 hc1
        go_wp2
        go_quiet (fail)
        go_wp2
        go_roundw
        case rel => exact ⟨1, by omega, by go_num, spans_good l h 0 _ Hx.out Hno.out (by omega) (by omega) (by omega) (by simp [prevOf]; omega), below_drewN (hb.alloc hsz _) _⟩
        case measure => simp [intOf]; omega
      · obtain ⟨b', off', y0, y1, hA', hbB', hy, hd0, hd1⟩ := HSk.at_ (k := m) (by omega)
        obtain ⟨rfl, rfl⟩ : b = b' ∧ off = off' := by injection hA' with hA'; injection hA' with e1 e2; exact ⟨e1, e2⟩
        have Hy := Lib.hid hy; clear hy hA'
        have hbw : b < wr.heap.size := by omega
        have HS := Lib.hid hS; clear hS
        have HSk' := Lib.hid HSk; clear HSk
        by_cases h3 : x0 ≤ y1
        · go_wp2
          go_quiet (fail)
          go_wp2
          go_ret
          exact ⟨ret_bool (spans_bad l h (m+1) _ Hx.out Hno.out (.inr (.inr (.inr (by rw [prev_at l m _ Hy.out]; exact h3))))).symm, below_drewN (hb.alloc hsz _) _⟩
        · go_wp2
          go_quiet (fail)
          go_wp2
          go_roundw
          case rel => exact ⟨m + 1 + 1, by omega, by go_num, spans_good l h (m+1) _ Hx.out Hno.out (by omega) (by omega) (by omega) (by rw [prev_at l m _ Hy.out]; omega), below_drewN (hb.alloc hsz _) _⟩
          case measure => simp [intOf]; omega
    · go_wp2
      go_ret
      have hkl : k = l.length := by omega
      subst hkl
      exact ⟨ret_bool (spans_end l h Hno.out).symm, hb⟩
end Go.Proofs.Ytfkhhefphbhppaa
