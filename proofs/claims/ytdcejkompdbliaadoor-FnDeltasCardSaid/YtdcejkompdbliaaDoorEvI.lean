/- Chapter 8: merging: plain facts. -/
import Derived.Test.YtdcejkompdbliaaDoorEvP
namespace Go.Proofs.YtdcejkompdbliaaDoor
open Go.RowKit
set_option linter.unusedVariables false
def befE (x y : Ev) : Bool := decide (x.nod < y.nod) || (decide (x.nod = y.nod) && decide (x.seq < y.seq))
theorem befE_iff {x y : Ev} : befE x y = true ↔ x.nod < y.nod ∨ (x.nod = y.nod ∧ x.seq < y.seq) := by
  simp only [befE, Bool.or_eq_true, Bool.and_eq_true, decide_eq_true_eq]
def mrgL : List Ev → List Ev → Option (List Ev)
  | [], b => some b
  | x :: a, [] => some (x :: a)
  | x :: a, y :: b =>
    if befE x y then (mrgL a (y :: b)).map (x :: ·)
    else if befE y x then (mrgL (x :: a) b).map (y :: ·)
    else if x = y then (mrgL a b).map (x :: ·) else none
termination_by a b => a.length + b.length
def mergeE (a b : List Ev) : List Ev × Bool :=
  if jrnB a && jrnB b then (match mrgL a b with
    | some l => if jrnB l then (l, true) else ([], false)
    | none => ([], false)) else ([], false)
theorem mrgL_nil2 : ∀ a : List Ev, mrgL a [] = some a
  | [] => by rw [mrgL]
  | x :: a => by rw [mrgL]
theorem mrgL_nil1 (b : List Ev) : mrgL [] b = some b := by rw [mrgL]
theorem drop_at {l : List Ev} {i : Nat} {x : Ev} (h : l[i]? = some x) : l.drop i = x :: l.drop (i + 1) := by
  obtain ⟨hi, rfl⟩ := List.getElem?_eq_some_iff.1 h
  exact List.drop_eq_getElem_cons hi
/-- what is done: pre, of the first i and the first k -/
def MrgAt (a b : List Ev) (i k : Nat) (pre : List Ev) : Prop := mrgL a b = (mrgL (a.drop i) (b.drop k)).map (pre ++ ·) ∧ pre.length ≤ i + k
theorem mrgAt_start (a b : List Ev) : MrgAt a b 0 0 [] := ⟨by simp, Nat.le_refl _⟩
theorem map_snoc (o : Option (List Ev)) (pre : List Ev) (x : Ev) : (o.map (x :: ·)).map (pre ++ ·) = o.map ((pre ++ [x]) ++ ·) := by
  cases o <;> simp
section
variable {a b pre : List Ev} {i k : Nat} {x y : Ev}
theorem mrgAt_a (h : MrgAt a b i k pre) (hx : a[i]? = some x) (hk : b.length ≤ k) : MrgAt a b (i + 1) k (pre ++ [x]) := by
  refine ⟨?_, by simp; have := h.2; omega⟩
  rw [h.1, List.drop_eq_nil_of_le hk, mrgL_nil2, mrgL_nil2, drop_at hx]; simp
theorem mrgAt_b (h : MrgAt a b i k pre) (hy : b[k]? = some y) (hi : a.length ≤ i) : MrgAt a b i (k + 1) (pre ++ [y]) := by
  refine ⟨?_, by simp; have := h.2; omega⟩
  rw [h.1, List.drop_eq_nil_of_le hi, mrgL_nil1, mrgL_nil1, drop_at hy]; simp
theorem mrgAt_x (h : MrgAt a b i k pre) (hx : a[i]? = some x) (hy : b[k]? = some y) (hb : befE x y = true) : MrgAt a b (i + 1) k (pre ++ [x]) := by
  refine ⟨?_, by simp; have := h.2; omega⟩
  rw [h.1, drop_at hx, drop_at hy, mrgL, if_pos hb, map_snoc]
theorem mrgAt_y (h : MrgAt a b i k pre) (hx : a[i]? = some x) (hy : b[k]? = some y) (hb : befE x y = false) (hc : befE y x = true) : MrgAt a b i (k + 1) (pre ++ [y]) := by
  refine ⟨?_, by simp; have := h.2; omega⟩
  rw [h.1, drop_at hx, drop_at hy, mrgL, if_neg (by simp [hb]), if_pos hc, map_snoc]
theorem mrgAt_e (h : MrgAt a b i k pre) (hx : a[i]? = some x) (hy : b[k]? = some y) (hb : befE x y = false) (hc : befE y x = false) (he : x = y) : MrgAt a b (i + 1) (k + 1) (pre ++ [x]) := by
  refine ⟨?_, by simp; have := h.2; omega⟩
  rw [h.1, drop_at hx, drop_at hy, mrgL, if_neg (by simp [hb]), if_neg (by simp [hc]), if_pos he, map_snoc]
theorem mrgAt_n (h : MrgAt a b i k pre) (hx : a[i]? = some x) (hy : b[k]? = some y) (hb : befE x y = false) (hc : befE y x = false) (he : x ≠ y) : mrgL a b = none := by
  rw [h.1, drop_at hx, drop_at hy, mrgL, if_neg (by simp [hb]), if_neg (by simp [hc]), if_neg he]; rfl
theorem mrgAt_end (h : MrgAt a b i k pre) (hi : a.length ≤ i) (hk : b.length ≤ k) : mrgL a b = some pre := by
  rw [h.1, List.drop_eq_nil_of_le hi, List.drop_eq_nil_of_le hk, mrgL]; simp
end
theorem mergeE_bad {a b : List Ev} (h : jrnB a = false ∨ jrnB b = false) : mergeE a b = ([], false) := by
  unfold mergeE; rw [if_neg]; rcases h with h | h <;> simp [h]
theorem mergeE_none {a b : List Ev} (h : mrgL a b = none) : mergeE a b = ([], false) := by
  unfold mergeE; split
  · rw [h]
  · rfl
theorem mergeE_no {a b l : List Ev} (h : mrgL a b = some l) (hl : jrnB l = false) : mergeE a b = ([], false) := by
  unfold mergeE; split
  · rw [h]; simp [hl]
  · rfl
theorem mergeE_yes {a b l : List Ev} (h1 : jrnB a = true) (h2 : jrnB b = true) (h : mrgL a b = some l) (hl : jrnB l = true) : mergeE a b = (l, true) := by
  unfold mergeE; rw [h1, h2, h]; simp [hl]
theorem mergeE_len (a b : List Ev) : (mergeE a b).1.length ≤ 60 := by
  unfold mergeE
  split
  · split
    · split
      · rename_i h; exact jrn_len h
      · exact Nat.zero_le _
    · exact Nat.zero_le _
  · exact Nat.zero_le _
theorem mergeE_ok {a b : List Ev} (h : (mergeE a b).2 = true) : jrnB (mergeE a b).1 = true := by
  unfold mergeE at h ⊢
  split at h
  · rename_i h1; rw [if_pos h1]
    split at h
    · rename_i l hm
      split at h
      · rename_i hl; rw [if_pos hl]; exact hl
      · cases h
    · cases h
  · cases h
end Go.Proofs.YtdcejkompdbliaaDoor
