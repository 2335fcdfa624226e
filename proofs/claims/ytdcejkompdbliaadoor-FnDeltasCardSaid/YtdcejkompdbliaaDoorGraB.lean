/- Chapter 5: contracts of GrantsOk, both sides (gen_grb.py). -/
import Derived.Test.YtdcejkompdbliaaDoorGraA
namespace Go.Proofs.YtdcejkompdbliaaDoor
open Go.RowKit
set_option linter.unusedVariables false
theorem grants_long {l : List Gr} (h : 30 < l.length) : grantsB l = false := by unfold grantsB; rw [decide_eq_false (by omega)]; rfl
theorem grants_bad {l : List Gr} {k : Nat} {x : Gr} (hx : l[k]? = some x) (h : grantB x = false) : grantsB l = false := by
  have : l.all grantB = false := by rw [List.all_eq_false]; exact ⟨x, List.mem_of_getElem? hx, by simp [h]⟩
  unfold grantsB; rw [this]; simp
theorem grants_all {l : List Gr} (h : l.length ≤ 30) (h2 : (l.take l.length).all grantB = true) : grantsB l = true := by
  rw [List.take_length] at h2; unfold grantsB; rw [decide_eq_true h, h2]; rfl
theorem all_snoc {l : List Gr} {k : Nat} {x : Gr} (hx : l[k]? = some x) (h : (l.take k).all grantB = true) (hg : grantB x = true) : (l.take (k + 1)).all grantB = true := by
  rw [List.take_add_one, hx]; simp only [Option.toList_some, List.all_append, h, List.all_cons, hg, List.all_nil, Bool.and_self]
theorem grantsB_len {l : List Gr} (h : grantsB l = true) : l.length ≤ 30 := by unfold grantsB at h; simp at h; exact h.1
theorem grantsB_all {l : List Gr} (h : grantsB l = true) {k : Nat} {x : Gr} (hx : l[k]? = some x) : grantB x = true := by
  unfold grantsB at h; simp at h; exact h.2 x (List.mem_of_getElem? hx)

end Go.Proofs.YtdcejkompdbliaaDoor
