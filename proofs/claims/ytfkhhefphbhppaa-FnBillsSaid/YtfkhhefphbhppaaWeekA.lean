/- Chapter 1: weeks: the plain facts. -/
import Derived.Test.YtfkhhefphbhppaaSpanB
import Derived.Test.YtfkhhefphbhppaaSpanC
import Derived.Test.YtfkhhefphbhppaaMem
namespace Go.Proofs.Ytfkhhefphbhppaa
open Go.RowKit
set_option linter.unusedVariables false

theorem SL.later {w w' : World} {B : Nat} {A : Option Addr} {l : List (Int × Int)} (h : SL w B A l) (hB : B ≤ w.heap.size) (hb : Below w.heap.size w w') : SL w' B A l := h.below (hb.mono hB)
theorem SL.set {w : World} {B : Nat} {A : Option Addr} {l : List (Int × Int)} (h : SL w B A l) {p : Addr} {u : Value} (hne : ∀ a, A = some a → a.block ≠ p.block) : SL (w.setCell p u) B A l := by
  rcases h with h | ⟨b, off, rfl, hlt, hc⟩
  · exact .inl h
  · refine .inr ⟨b, off, rfl, hlt, fun k x hx => ?_⟩
    have := hc k x hx
    have hn := hne _ rfl
    exact ⟨(World.cell?_setCell_other w p _ u (fun e => hn (by subst e; rfl))).trans this.1, (World.cell?_setCell_other w p _ u (fun e => hn (by subst e; rfl))).trans this.2⟩
theorem SL.more {w : World} {B B' : Nat} {A : Option Addr} {l : List (Int × Int)} (h : SL w B A l) (hB : B ≤ B') : SL w B' A l := by
  rcases h with h | ⟨b, off, rfl, hlt, hc⟩
  · exact .inl h
  · exact .inr ⟨b, off, rfl, by omega, hc⟩

def weekB (o c : List (Int × Int)) : Bool := if spansB o 168 = true then spansB c 20000 else false
theorem week_no (o c : List (Int × Int)) (h : spansB o 168 = false) : weekB o c = false := by simp [weekB, h]
theorem week_yes (o c : List (Int × Int)) (h : spansB o 168 = true) : weekB o c = spansB c 20000 := by simp [weekB, h]
theorem week_open {o c : List (Int × Int)} (h : weekB o c = true) : spansB o 168 = true ∧ spansB c 20000 = true := by
  cases h1 : spansB o 168
  · rw [week_no _ _ h1] at h; cases h
  · rw [week_yes _ _ h1] at h; exact ⟨rfl, h⟩

/-- in a list of spans that ascend, the first one that ends behind the hour decides -/
theorem chain_first (h : Int) (most : Int) : ∀ (l : List (Int × Int)) (p : Int), chainB p l most = true → firstB l h = withinB l h ∧ (∀ x ∈ l, p < x.1 ∧ x.1 < x.2)
  | [], p, _ => ⟨rfl, fun x hx => by simp at hx⟩
  | s :: r, p, hc => by
    unfold chainB at hc
    by_cases h1 : 0 ≤ s.1
    · by_cases h2 : s.1 < s.2
      · by_cases h3 : s.2 ≤ most
        · by_cases h4 : p < s.1
          · rw [if_pos h1, if_pos h2, if_pos h3, if_pos h4] at hc
            obtain ⟨ih, hall⟩ := chain_first h most r s.2 hc
            refine ⟨?_, fun x hx => ?_⟩
            · show (if h < s.2 then decide (s.1 ≤ h) else firstB r h) = (inSpan h s || withinB r h)
              by_cases hlt : h < s.2
              · rw [if_pos hlt]
                have hno : withinB r h = false := by
                  unfold withinB
                  rw [List.any_eq_false]
                  intro x hx
                  have := hall x hx
                  simp [inSpan]; omega
                rw [hno]; simp [inSpan, hlt]
              · rw [if_neg hlt, ih]; simp [inSpan, hlt]
            · rcases List.mem_cons.1 hx with rfl | hx
              · exact ⟨h4, h2⟩
              · have := hall x hx; exact ⟨by omega, this.2⟩
          · rw [if_pos h1, if_pos h2, if_pos h3, if_neg h4] at hc; cases hc
        · rw [if_pos h1, if_pos h2, if_neg h3] at hc; cases hc
      · rw [if_pos h1, if_neg h2] at hc; cases hc
    · rw [if_neg h1] at hc; cases hc
theorem first_within (l : List (Int × Int)) (most h : Int) (hs : spansB l most = true) : firstB l h = withinB l h := by
  unfold spansB at hs
  by_cases h20 : l.length ≤ 20
  · rw [if_pos h20] at hs; exact (chain_first h most l _ hs).1
  · rw [if_neg h20] at hs; cases hs

def openB (o c : List (Int × Int)) (h : Int) : Bool := if withinB o (h % 168) = true then !withinB c h else false
theorem open_no (o c : List (Int × Int)) (h : Int) (h1 : withinB o (h % 168) = false) : openB o c h = false := by simp [openB, h1]
theorem open_yes (o c : List (Int × Int)) (h : Int) (h1 : withinB o (h % 168) = true) : openB o c h = !withinB c h := by simp [openB, h1]

def timeB (h : Int) : Bool := decide (0 ≤ h) && decide (h ≤ 20000)
def inB (x a b : Int) : Bool := decide (a ≤ x) && decide (x ≤ b)
def isOpenB (o c : List (Int × Int)) (h : Int) : Bool := weekB o c && (inB h 0 19999 && openB o c h)
end Go.Proofs.Ytfkhhefphbhppaa
