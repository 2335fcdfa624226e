/- Chapter 8: an event that is written: plain facts. -/
import Derived.Test.YtdcejkompdbliaaDoorEvQ
namespace Go.Proofs.YtdcejkompdbliaaDoor
open Go.RowKit
set_option linter.unusedVariables false
def seqK (l : List Ev) (nd : Int) (k : Nat) : Int := (l.take k).foldl (fun s e => if e.nod = nd then e.seq else s) 0
def stmK (l : List Ev) (k : Nat) : Int := (l.take k).foldl (fun s e => max s e.stm) 0
def atK (l : List Ev) (nd : Int) (k : Nat) : Nat := (List.range k).foldl (fun a i => if (kI l i).nod ≤ nd then i + 1 else a) 0
theorem seqK_succ {l : List Ev} {nd : Int} {k : Nat} {x : Ev} (h : l[k]? = some x) : seqK l nd (k + 1) = if x.nod = nd then x.seq else seqK l nd k := by
  unfold seqK; rw [List.take_add_one, h]; simp [List.foldl_append]
theorem stmK_succ {l : List Ev} {k : Nat} {x : Ev} (h : l[k]? = some x) : stmK l (k + 1) = max (stmK l k) x.stm := by
  unfold stmK; rw [List.take_add_one, h]; simp [List.foldl_append]
theorem atK_succ {l : List Ev} {nd : Int} {k : Nat} {x : Ev} (h : l[k]? = some x) : atK l nd (k + 1) = if x.nod ≤ nd then k + 1 else atK l nd k := by
  unfold atK; rw [List.range_succ, List.foldl_append]; simp [kI_at h]
theorem atK_le (l : List Ev) (nd : Int) : ∀ k, atK l nd k ≤ k
  | 0 => Nat.le_refl _
  | k + 1 => by
    unfold atK; rw [List.range_succ, List.foldl_append]
    have := atK_le l nd k
    unfold atK at this
    simp only [List.foldl_cons, List.foldl_nil]
    split <;> omega
theorem seqK_in {l : List Ev} (h : jrnB l = true) (nd : Int) : ∀ k, 0 ≤ seqK l nd k ∧ seqK l nd k ≤ 999
  | 0 => by simp [seqK]
  | k + 1 => by
    have ih := seqK_in h nd k
    cases hx : l[k]? with
    | none =>
      have : seqK l nd (k + 1) = seqK l nd k := by unfold seqK; rw [List.take_add_one, hx]; simp
      rw [this]; exact ih
    | some x =>
      have := (evB_facts (jrn_at h hx)).2.1
      rw [seqK_succ hx]; split <;> omega
theorem stmK_in {l : List Ev} (h : jrnB l = true) : ∀ k, 0 ≤ stmK l k ∧ stmK l k ≤ 100000
  | 0 => by simp [stmK]
  | k + 1 => by
    have ih := stmK_in h k
    cases hx : l[k]? with
    | none =>
      have : stmK l (k + 1) = stmK l k := by unfold stmK; rw [List.take_add_one, hx]; simp
      rw [this]; exact ih
    | some x =>
      have := (evB_facts (jrn_at h hx)).2.2.1
      rw [stmK_succ hx]; omega
/-- the event that AddEvent writes, the list with it, and the answer -/
def newEv (l : List Ev) (nd kd pa a b : Int) : Ev := ⟨nd, seqK l nd l.length + 1, stmK l l.length + 1, kd, pa, a, b⟩
def insEv (l : List Ev) (nd kd pa a b : Int) : List Ev := l.take (atK l nd l.length) ++ newEv l nd kd pa a b :: l.drop (atK l nd l.length)
def addE (l : List Ev) (nd kd pa a b : Int) : List Ev × Bool := if jrnB l && jrnB (insEv l nd kd pa a b) then (insEv l nd kd pa a b, true) else (l, false)
theorem insEv_len (l : List Ev) (nd kd pa a b : Int) : (insEv l nd kd pa a b).length = l.length + 1 := by
  unfold insEv
  have := atK_le l nd l.length
  simp only [List.length_append, List.length_take, List.length_cons, List.length_drop]
  omega
theorem addE_bad {l : List Ev} (h : jrnB l = false) (nd kd pa a b : Int) : addE l nd kd pa a b = (l, false) := by unfold addE; rw [h]; rfl
theorem addE_no {l : List Ev} {nd kd pa a b : Int} (h : jrnB (insEv l nd kd pa a b) = false) : addE l nd kd pa a b = (l, false) := by unfold addE; rw [h]; simp
theorem addE_yes {l : List Ev} {nd kd pa a b : Int} (h1 : jrnB l = true) (h : jrnB (insEv l nd kd pa a b) = true) : addE l nd kd pa a b = (insEv l nd kd pa a b, true) := by unfold addE; rw [h1, h]; rfl
theorem addE_len (l : List Ev) (nd kd pa a b : Int) : (addE l nd kd pa a b).1.length ≤ l.length + 1 := by
  unfold addE; split
  · rw [insEv_len]; exact Nat.le_refl _
  · exact Nat.le_succ _
theorem addE_ok {l : List Ev} {nd kd pa a b : Int} (h : (addE l nd kd pa a b).2 = true) : jrnB l = true ∧ jrnB (insEv l nd kd pa a b) = true ∧ (addE l nd kd pa a b).1 = insEv l nd kd pa a b := by
  unfold addE at h ⊢; split at h
  · rename_i h1; rw [if_pos h1]; simp only [Bool.and_eq_true] at h1; exact ⟨h1.1, h1.2, rfl⟩
  · cases h
end Go.Proofs.YtdcejkompdbliaaDoor
