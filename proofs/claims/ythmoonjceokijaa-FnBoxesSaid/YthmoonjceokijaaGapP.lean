/- Chapter 2: gaps: the plain facts. -/
import Derived.Test.YthmoonjceokijaaGapR
namespace Go.Proofs.Ythmoonjceokijaa
open Go.RowKit
set_option linter.unusedVariables false

/-- a box that can belong to a gap -/
def opn (x : Bx) : Bool := x.par == 0 && !x.jam
/-- the gaps of boxes, the one that is being gathered first -/
def gapsC (F : List Int) (c : Int) : Option Gp → List Bx → List Gp
  | cur, [] => cur.toList
  | cur, x :: r =>
    if opn x then
      match cur with
      | none => gapsC F c (some ⟨c, x.low, x.size⟩) r
      | some g => if F.contains x.low then g :: gapsC F c (some ⟨c, x.low, x.size⟩) r else gapsC F c (some ⟨g.col, g.low, g.size + x.size⟩) r
    else cur.toList ++ gapsC F c none r
def gapsL (F : List Int) (c : Int) (L : List Bx) : List Gp := gapsC F c none L
theorem gapsC_shut {F : List Int} {c : Int} {cur : Option Gp} {x : Bx} {r : List Bx} (h : opn x = false) : gapsC F c cur (x :: r) = cur.toList ++ gapsC F c none r := by
  cases cur <;> simp [gapsC, h]
theorem gapsC_new {F : List Int} {c : Int} {x : Bx} {r : List Bx} (h : opn x = true) : gapsC F c none (x :: r) = gapsC F c (some ⟨c, x.low, x.size⟩) r := by
  conv => lhs; unfold gapsC
  simp [h]
theorem gapsC_wall {F : List Int} {c : Int} {g : Gp} {x : Bx} {r : List Bx} (h : opn x = true) (hw : F.contains x.low = true) : gapsC F c (some g) (x :: r) = g :: gapsC F c (some ⟨c, x.low, x.size⟩) r := by
  conv => lhs; unfold gapsC
  simp only [h, hw, if_true]
theorem gapsC_more {F : List Int} {c : Int} {g : Gp} {x : Bx} {r : List Bx} (h : opn x = true) (hw : F.contains x.low = false) : gapsC F c (some g) (x :: r) = gapsC F c (some ⟨g.col, g.low, g.size + x.size⟩) r := by
  conv => lhs; unfold gapsC
  simp only [h, hw, if_true, Bool.false_eq_true, if_false]
theorem gapsC_len (F : List Int) (c : Int) : ∀ (L : List Bx) (cur : Option Gp), (gapsC F c cur L).length ≤ cur.toList.length + L.length
  | [], cur => by simp [gapsC]
  | x :: r, cur => by
    by_cases h : opn x = true
    · rcases cur with _ | g
      · rw [gapsC_new h]; have := gapsC_len F c r (some ⟨c, x.low, x.size⟩); simp at this ⊢; omega
      · by_cases hw : F.contains x.low = true
        · rw [gapsC_wall h hw]; have := gapsC_len F c r (some ⟨c, x.low, x.size⟩); simp at this ⊢; omega
        · rw [gapsC_more h (by simpa using hw)]; have := gapsC_len F c r (some ⟨g.col, g.low, g.size + x.size⟩); simp at this ⊢; omega
    · rw [gapsC_shut (by simpa using h)]; have := gapsC_len F c r none; simp at this ⊢; omega
theorem gapsL_len (F : List Int) (c : Int) (L : List Bx) : (gapsL F c L).length ≤ L.length := by have := gapsC_len F c L none; simpa [gapsL] using this
/-- a box that goes on with the gap below it -/
def goOn (F : List Int) (x : Bx) : Bool := opn x && !F.contains x.low
/-- the sum of the sizes of the boxes that go on with a gap, and how many there are -/
def runZ (F : List Int) : List Bx → Int
  | [] => 0
  | x :: r => if goOn F x then x.size + runZ F r else 0
def runN (F : List Int) : List Bx → Nat
  | [] => 0
  | x :: r => if goOn F x then runN F r + 1 else 0
theorem runN_le (F : List Int) : ∀ (L : List Bx), runN F L ≤ L.length
  | [] => Nat.le_refl _
  | x :: r => by unfold runN; split; have := runN_le F r; simp; omega; exact Nat.zero_le _
/-- behind the boxes that go on with it a gap is done -/
theorem gapsC_run (F : List Int) (c : Int) : ∀ (L : List Bx) (g : Gp), gapsC F c (some g) L = ⟨g.col, g.low, g.size + runZ F L⟩ :: gapsC F c none (L.drop (runN F L))
  | [], g => by simp [gapsC, runZ, runN]
  | x :: r, g => by
    unfold runZ runN
    by_cases h : opn x = true
    · by_cases hw : F.contains x.low = true
      · have : goOn F x = false := by simp only [goOn, h, hw, Bool.not_true, Bool.and_false]
        rw [gapsC_wall h hw, if_neg (by simp [this]), if_neg (by simp [this]), List.drop_zero, gapsC_new h, Int.add_zero]
      · have hw' : F.contains x.low = false := by simpa using hw
        have : goOn F x = true := by simp only [goOn, h, hw', Bool.not_false, Bool.and_true]
        rw [gapsC_more h hw', gapsC_run F c r, if_pos this, if_pos this, List.drop_succ_cons]
        simp only [Int.add_assoc]
    · have h' : opn x = false := by simpa using h
      have : goOn F x = false := by simp [goOn, h']
      rw [gapsC_shut h', if_neg (by simp [this]), if_neg (by simp [this]), List.drop_zero, gapsC_shut h', Int.add_zero]
      simp
/-- a gap, from its lowest box on -/
theorem gapsL_open {F : List Int} {c : Int} {x : Bx} {r : List Bx} (h : opn x = true) : gapsL F c (x :: r) = ⟨c, x.low, x.size + runZ F r⟩ :: gapsL F c (r.drop (runN F r)) := by
  unfold gapsL; rw [gapsC_new h, gapsC_run]
theorem gapsL_shut {F : List Int} {c : Int} {x : Bx} {r : List Bx} (h : opn x = false) : gapsL F c (x :: r) = gapsL F c r := by
  unfold gapsL; rw [gapsC_shut h]; rfl
def sumZ (L : List Bx) : Int := (L.map Bx.size).sum
theorem sumZ_cons (x : Bx) (r : List Bx) : sumZ (x :: r) = x.size + sumZ r := by simp [sumZ]
theorem sumZ_pos {L : List Bx} (h : ∀ x ∈ L, 1 ≤ x.size) : 0 ≤ sumZ L := by
  induction L with
  | nil => simp [sumZ]
  | cons x r ih => rw [sumZ_cons]; have := h x List.mem_cons_self; have := ih fun y hy => h y (List.mem_cons_of_mem _ hy); omega
theorem runZ_go {F : List Int} {x : Bx} {r : List Bx} (h : goOn F x = true) : runZ F (x :: r) = x.size + runZ F r ∧ runN F (x :: r) = runN F r + 1 := by
  simp [runZ, runN, h]
theorem runZ_no {F : List Int} {x : Bx} {r : List Bx} (h : goOn F x = false) : runZ F (x :: r) = 0 ∧ runN F (x :: r) = 0 := by
  simp [runZ, runN, h]
/-- the first gap of the least size that is enough: from index k on, the best so far -/
def leastG (size : Int) : List Gp → Nat → Option (Nat × Int) → Option (Nat × Int)
  | [], _, b => b
  | g :: r, k, b => leastG size r (k + 1) (if size ≤ g.size ∧ (∀ y, b = some y → g.size < y.2) then some (k, g.size) else b)
def leastI (size : Int) (l : List Gp) : Int := match leastG size l 0 none with | none => -1 | some y => (y.1 : Int)
/-- the best one stands in the list -/
theorem leastG_at (size : Int) (l : List Gp) : ∀ (r : List Gp) (k : Nat) (b : Option (Nat × Int)), l.drop k = r → (∀ y, b = some y → ∃ g, l[y.1]? = some g ∧ g.size = y.2) → ∀ y, leastG size r k b = some y → ∃ g, l[y.1]? = some g ∧ g.size = y.2
  | [], k, b, _, hb, y, hy => hb y hy
  | g :: r, k, b, hd, hb, y, hy => by
    have hg : l[k]? = some g := by
      have := congrArg (fun z => z[0]?) hd
      simpa using this
    refine leastG_at size l r (k + 1) _ ?_ ?_ y hy
    · have := congrArg (fun z => z.drop 1) hd
      simpa using this
    · intro z hz
      split at hz
      · injection hz with hz; subst hz; exact ⟨g, hg, rfl⟩
      · exact hb z hz
theorem leastI_at {size : Int} {l : List Gp} : leastI size l = -1 ∨ ∃ (k : Nat) (g : Gp), leastI size l = (k : Int) ∧ l[k]? = some g := by
  unfold leastI
  have h := leastG_at size l l 0 none (by simp) (fun y hy => by cases hy)
  cases e : leastG size l 0 none with
  | none => exact .inl rfl
  | some y => obtain ⟨g, hg, _⟩ := h y e; exact .inr ⟨y.1, g, rfl, hg⟩
end Go.Proofs.Ythmoonjceokijaa
