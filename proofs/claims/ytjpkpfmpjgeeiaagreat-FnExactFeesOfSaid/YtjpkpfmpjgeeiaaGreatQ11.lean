
/- Chapter 1: weeks: the plain facts. -/
import Derived.Test.YtjpkpfmpjgeeiaaGreatQ01
import Derived.Test.YtjpkpfmpjgeeiaaGreatQ10
import Derived.Test.YtjpkpfmpjgeeiaaGreatQ06
import Derived.Laws.Rows
import Derived.Laws.NewBlocks
import Derived.StillTailTactics
namespace Go.Proofs.YtjpkpfmpjgeeiaaGreat
open Go.RowKit
set_option linter.unusedVariables false
set_option maxRecDepth 100000

theorem SL.later {w w' : World} {B : Nat} {A : Option Addr} {l : List (Int × Int)} (h : SL w B A l) (hB : B ≤ w.heap.size) (hb : Below w.heap.size w w') : SL w' B A l := h.below (hb.mono hB)
theorem SL.set {w : World} {B : Nat} {A : Option Addr} {l : List (Int × Int)} (h : SL w B A l) {p : Addr} {u : Value} (hne : ∀ a, A = some a → a.block ≠ p.block) : SL (w.setCell p u) B A l := by
  rcases h with h | ⟨b, off, rfl, hlt, hc⟩
  · exact .inl h
  · refine .inr ⟨b, off, rfl, hlt, fun k x hx => ?_⟩
    have := hc k x hx
    have hn := hne _ rfl
    exact ⟨(World.cell?_setCell_other w p _ u (fun e => hn (by subst e; rfl))).trans this.1, (World.cell?_setCell_other w p _ u (fun e => hn (by subst e; rfl))).trans this.2⟩
theorem SL.more {w : World} {B B' : Nat} {A : Option Addr} {l : List (Int × Int)} (h : SL w B A l) (hB : B ≤ B') : SL w B' A l := by
  rcases h with h | ⟨b, off, rfl, hlt, hc⟩
  · exact .inl h
  · exact .inr ⟨b, off, rfl, by omega, hc⟩

def weekB (o c : List (Int × Int)) : Bool := if spansB o 168 = true then spansB c 20000 else false
theorem week_no (o c : List (Int × Int)) (h : spansB o 168 = false) : weekB o c = false := by simp [weekB, h]
theorem week_yes (o c : List (Int × Int)) (h : spansB o 168 = true) : weekB o c = spansB c 20000 := by simp [weekB, h]
def openB (o c : List (Int × Int)) (h : Int) : Bool := if withinB o (h % 168) = true then !withinB c h else false
def timeB (h : Int) : Bool := decide (0 ≤ h) && decide (h ≤ 20000)
def isOpenB (o c : List (Int × Int)) (h : Int) : Bool := weekB o c && (inB h 0 19999 && openB o c h)
end Go.Proofs.YtjpkpfmpjgeeiaaGreat
namespace Go.Proofs.YtjpkpfmpjgeeiaaGreat
open Go.RowKit
set_option linter.unusedVariables false
set_option maxRecDepth 100000

set_option maxHeartbeats 400000 in
theorem weekI_any (w : World) (B : Nat) (A A' : Option Addr) (n n' : Nat) (o c : List (Int × Int)) (ho : o.length ≤ maxLen) (hc : c.length ≤ maxLen) (hB : B ≤ w.heap.size) (hS : SL w B A o) (hS' : SL w B A' c) :
    Calls Tryz.prog 79 #[.agg #[.slice A o.length n, .slice A' c.length n']] w fun e w' => e = .returned (.bool (weekB o c)) ∧ Below w.heap.size w w' := by
  have hb0 := fun o => balloc w o
  have HS := Lib.hid hS; clear hS
  have HS' := Lib.hid hS'; clear hS'
  have H0 := Lib.hid hb0; clear hb0
  cases hx : spansB o 168
  · have Hx := Lib.hid hx; clear hx
    go_enter Tryz.func79, Tryz.ntmps79
    go_wp2_with fail
    refine (spansI_any _ B A n o 168 ho (by simp; omega) (HS.out.later hB (H0.out _))).mono ?_
    rintro e w1 ⟨rfl, hb1⟩
    rw [Hx.out]
    go_wp2_with fail
    go_ret
    exact ⟨ret_bool (week_no _ _ Hx.out).symm, bthen (H0.out _) hb1⟩
  · have Hx := Lib.hid hx; clear hx
    go_enter Tryz.func79, Tryz.ntmps79
    go_wp2_with fail
    refine (spansI_any _ B A n o 168 ho (by simp; omega) (HS.out.later hB (H0.out _))).mono ?_
    rintro e w1 ⟨rfl, hb1⟩
    rw [Hx.out]
    have hbx := bthen (H0.out _) hb1
    have hold := bold hb1
    go_wp2_with fail
    clear hold
    refine (spansI_any _ B A' n' c 20000 hc (by have := hbx.size; omega) (HS'.out.later hB hbx)).mono ?_
    rintro e w2 ⟨rfl, hb2⟩
    go_wp2_with fail
    go_ret
    exact ⟨ret_bool (week_yes _ _ Hx.out).symm, bthen hbx hb2⟩

set_option maxHeartbeats 400000 in
theorem weekS_any (w : World) (B : Nat) (A A' : Option Addr) (n n' : Nat) (o c : List (Int × Int)) (ho : o.length ≤ maxLen) (hc : c.length ≤ maxLen) (hB : B ≤ w.heap.size) (hS : SL w B A o) (hS' : SL w B A' c) :
    Calls Tryz.prog 62 #[.agg #[.slice A o.length n, .slice A' c.length n']] w fun e w' => e = .returned (.bool (weekB o c)) ∧ Below w.heap.size w w' := by
  have hb0 := fun o => balloc w o
  have HS := Lib.hid hS; clear hS
  have HS' := Lib.hid hS'; clear hS'
  have H0 := Lib.hid hb0; clear hb0
  cases hx : spansB o 168
  · have Hx := Lib.hid hx; clear hx
    go_enter Tryz.func62, Tryz.ntmps62
    go_wp2_with fail
    refine (spansS_any _ B A n o 168 ho (by simp; omega) (HS.out.later hB (H0.out _))).mono ?_
    rintro e w1 ⟨rfl, hb1⟩
    rw [Hx.out]
    go_wp2_with fail
    go_ret
    exact ⟨ret_bool (week_no _ _ Hx.out).symm, bthen (H0.out _) hb1⟩
  · have Hx := Lib.hid hx; clear hx
    go_enter Tryz.func62, Tryz.ntmps62
    go_wp2_with fail
    refine (spansS_any _ B A n o 168 ho (by simp; omega) (HS.out.later hB (H0.out _))).mono ?_
    rintro e w1 ⟨rfl, hb1⟩
    rw [Hx.out]
    have hbx := bthen (H0.out _) hb1
    have hold := bold hb1
    go_wp2_with fail
    clear hold
    refine (spansS_any _ B A' n' c 20000 hc (by have := hbx.size; omega) (HS'.out.later hB hbx)).mono ?_
    rintro e w2 ⟨rfl, hb2⟩
    go_wp2_with fail
    go_ret
    exact ⟨ret_bool (week_yes _ _ Hx.out).symm, bthen hbx hb2⟩

end Go.Proofs.YtjpkpfmpjgeeiaaGreat
namespace Go.Proofs.YtjpkpfmpjgeeiaaGreat
open Go.RowKit
set_option linter.unusedVariables false
set_option maxRecDepth 100000

/-- the cells of a list of spans, one behind the other -/
def cellsL (l : List (Int × Int)) : List Value := l.flatMap fun x => [.int .i64 x.1, .int .i64 x.2]

/-- block g holds the first k spans of the list, and has room for all of them -/
structure Copied (w : World) (g : Nat) (cs : Array Value) (l : List (Int × Int)) (k : Nat) : Prop where
  heap : w.heap[g]? = some (.cells cs 169 (0, 0))
  size : cs.size = l.length * 2
  got : ∀ j x, j < k → l[j]? = some x → cs[j * 2]? = some (.int .i64 x.1) ∧ cs[j * 2 + 1]? = some (.int .i64 x.2)
theorem Copied.lt {w : World} {g : Nat} {cs : Array Value} {l : List (Int × Int)} {k : Nat} (h : Copied w g cs l k) : g < w.heap.size := by
  rcases Nat.lt_or_ge g w.heap.size with hlt | hge
  · exact hlt
  · have := h.heap; rw [Array.getElem?_eq_none hge] at this; cases this
theorem Copied.below {w w' : World} {g : Nat} {cs : Array Value} {l : List (Int × Int)} {k : Nat} (h : Copied w g cs l k) (hb : Below w.heap.size w w') : Copied w' g cs l k :=
  ⟨(hb.block g h.lt).trans h.heap, h.size, h.got⟩
theorem Copied.cell {w : World} {g : Nat} {cs : Array Value} {l : List (Int × Int)} {k : Nat} (h : Copied w g cs l k) (j : Nat) : w.cell? ⟨g, j, none⟩ = cs[j]? := cell_of_row w g j cs _ (0, 0) h.heap
theorem Copied.cellAt {w : World} {g : Nat} {cs : Array Value} {l : List (Int × Int)} {k j : Nat} (h : Copied w g cs l k) (hj : j < l.length * 2) : ∃ u, w.cell? ⟨g, j, none⟩ = some u := by
  rw [h.cell]; exact ⟨cs[j]'(by rw [h.size]; exact hj), Array.getElem?_eq_getElem _⟩
theorem Copied.step {w : World} {g : Nat} {cs : Array Value} {l : List (Int × Int)} {k : Nat} (h : Copied w g cs l k) {x : Int × Int} (hx : l[k]? = some x) :
    Copied ((w.setCell ⟨g, k * 2, none⟩ (.int .i64 x.1)).setCell ⟨g, k * 2 + 1, none⟩ (.int .i64 x.2)) g ((cs.setIfInBounds (k * 2) (.int .i64 x.1)).setIfInBounds (k * 2 + 1) (.int .i64 x.2)) l (k + 1) := by
  have hlt : k < l.length := (List.getElem?_eq_some_iff.1 hx).1
  have hsz := h.size
  refine ⟨?_, by simp [h.size], fun j y hj hy => ?_⟩
  · simp [World.setCell, Array.getElem?_modify, h.heap]
  · by_cases hjk : j = k
    · subst hjk
      obtain rfl : x = y := by rw [hx] at hy; injection hy
      simp only [Array.getElem?_setIfInBounds]
      constructor
      · rw [if_neg (by omega), if_pos trivial, if_pos (by omega)]
      · rw [if_pos trivial, if_pos (by simp; omega)]
    · have := h.got j y (by omega) hy
      simp only [Array.getElem?_setIfInBounds]
      rw [if_neg (by omega), if_neg (by omega), if_neg (by omega), if_neg (by omega)]
      exact this
theorem Copied.reads {w : World} {g : Nat} {cs : Array Value} {l : List (Int × Int)} (h : Copied w g cs l l.length) : SL w w.heap.size (some ⟨g, 0, none⟩) l := by
  refine .inr ⟨g, 0, rfl, h.lt, fun k x hx => ?_⟩
  have hlt : k < l.length := (List.getElem?_eq_some_iff.1 hx).1
  have := h.got k x hlt hx
  rw [Nat.zero_add, h.cell, h.cell]; exact this
set_option maxHeartbeats 400000 in
theorem eqSpanS_any (w : World) (B B' : Nat) (A A' : Option Addr) (c c' : Nat) (l : List (Int × Int)) (hl : l.length ≤ maxLen) (hB : B ≤ w.heap.size) (hB' : B' ≤ w.heap.size) (hS : SL w B A l) (hS' : SL w B' A' l) :
    Calls Tryz.prog 127 #[.slice A l.length c, .slice A' l.length c'] w fun e w' => e = .returned (.bool true) ∧ Below w.heap.size w w' := by
  unfold maxLen at hl
  have e0 : ((l.length : Int) != (l.length : Int)) = false := by simp
  go_enter Tryz.func127, Tryz.ntmps127
  go_wp2
  clear e0
  go_loopw [5] (fun i wr => ∃ k : Nat, k ≤ l.length ∧ i = .int .i64 k ∧ Below w.heap.size w wr) (fun i _ => l.length - (intOf i).toNat)
  case atStart => exact ⟨0, Nat.zero_le _, rfl, Below.refl _ _⟩
  case round =>
    obtain ⟨k, hk, rfl, hb⟩ := hrel
    by_cases hlt : k < l.length
    · have hsz := hb.size
      obtain ⟨b, off, x0, x1, rfl, hbB, hx, hc0, hc1⟩ := (hS.below (hb.mono hB)).at_ hlt
      obtain ⟨b', off', y0, y1, rfl, hbB', hy, hd0, hd1⟩ := (hS'.below (hb.mono hB')).at_ hlt
      obtain ⟨rfl, rfl⟩ : x0 = y0 ∧ x1 = y1 := by rw [hx] at hy; injection hy with hy; injection hy with e1 e2; exact ⟨e1, e2⟩
      clear hx hy
      have HS := Lib.hid hS; clear hS
      have HS' := Lib.hid hS'; clear hS'
      have hbw : b < wr.heap.size := by omega
      have hbw' : b' < wr.heap.size := by omega
      go_wp2
      go_still_tail 8, (by kernel_rfl)
      change wpList _ _ _ _ _ wr.drew
      go_wp2_with (go_at_call 147; refine (eqSpan_any _ _ _ _ _).mono ?_; rintro e w1 ⟨rfl, hb1⟩)
      go_roundw
      case rel => exact ⟨k + 1, by omega, by go_num, (hb.drew).trans (hb1.mono hsz)⟩
      case measure => simp [intOf]; omega
    · go_wp2
      go_ret
      exact ⟨rfl, hb⟩
end Go.Proofs.YtjpkpfmpjgeeiaaGreat
